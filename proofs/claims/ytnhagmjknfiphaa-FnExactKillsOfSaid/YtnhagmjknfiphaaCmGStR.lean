/- States by value: what their slices show and own. No condition. The model of what is a state of a program, in the order of the program and in that of the specification. No condition. -/
import Derived.Test.YtnhagmjknfiphaaCmGIntP
import Derived.Test.YtnhagmjknfiphaaCmGInM
namespace Go.Proofs.Ytnhagmjknfiphaa
open Go.ChangeShapes Go.WideShapes Go.ChangeAt Go.RowKit
structure StR where
  pc : Int
  R : List Int
  M : List Int
  S : List Int
  inn : Int
  O : List Int
  cd : Int
  st : Int
namespace StR
/-- its lists in their order, all together -/
def cost (x : StR) : Nat := x.R.length + x.M.length + x.S.length + x.O.length
def Long (x : StR) : Prop := x.R.length ≤ maxLen ∧ x.M.length ≤ maxLen ∧ x.S.length ≤ maxLen ∧ x.O.length ≤ maxLen
def Ok (x : StR) : Prop := (-9223372036854775808 ≤ x.pc ∧ x.pc ≤ 9223372036854775807) ∧ (-9223372036854775808 ≤ x.inn ∧ x.inn ≤ 9223372036854775807) ∧ (-9223372036854775808 ≤ x.cd ∧ x.cd ≤ 9223372036854775807) ∧ (-9223372036854775808 ≤ x.st ∧ x.st ≤ 9223372036854775807) ∧ (∀ y ∈ x.R, IntL.Ok y) ∧ (∀ y ∈ x.M, IntL.Ok y) ∧ (∀ y ∈ x.S, IntL.Ok y) ∧ (∀ y ∈ x.O, IntL.Ok y)
end StR
/-- its slices show its lists -/
def StS (w : World) (base : Nat) (x : StR) (r m s o : Value) : Prop := Cs.Shows w base 1 r x.R.length (IntL.all x.R) ∧ Cs.Shows w base 1 m x.M.length (IntL.all x.M) ∧ Cs.Shows w base 1 s x.S.length (IntL.all x.S) ∧ Cs.Shows w base 1 o x.O.length (IntL.all x.O)
theorem StS.below {w w' : World} {base : Nat} {x : StR} {r m s o : Value} (h : StS w base x r m s o) (hb : Below w.heap.size w w') : StS w' base x r m s o := ⟨h.1.below hb, h.2.1.below hb, h.2.2.1.below hb, h.2.2.2.below hb⟩
theorem StS.down {w : World} {base : Nat} {x : StR} {r m s o : Value} (h : StS w base x r m s o) : StS w 0 x r m s o := ⟨h.1.down (Nat.zero_le _), h.2.1.down (Nat.zero_le _), h.2.2.1.down (Nat.zero_le _), h.2.2.2.down (Nat.zero_le _)⟩
/-- its slices own their rows, each its own -/
def StO (w : World) (base : Nat) (x : StR) (r m s o : Value) : Prop := w.ownsRow base 3 1 r x.R.length (IntL.all x.R) ∧ w.ownsRow base 3 1 m x.M.length (IntL.all x.M) ∧ w.ownsRow base 3 1 s x.S.length (IntL.all x.S) ∧ w.ownsRow base 3 1 o x.O.length (IntL.all x.O) ∧ (r.ownBlock.toList ++ m.ownBlock.toList ++ s.ownBlock.toList ++ o.ownBlock.toList).Nodup
def StB (r m s o : Value) : List Nat := r.ownBlock.toList ++ m.ownBlock.toList ++ s.ownBlock.toList ++ o.ownBlock.toList
theorem StO.shows {w : World} {base : Nat} {x : StR} {r m s o : Value} (h : StO w base x r m s o) : StS w 0 x r m s o := ⟨(Cs.shows_of_owns h.1).down (Nat.zero_le _), (Cs.shows_of_owns h.2.1).down (Nat.zero_le _), (Cs.shows_of_owns h.2.2.1).down (Nat.zero_le _), (Cs.shows_of_owns h.2.2.2.1).down (Nat.zero_le _)⟩
theorem StO.lt {w : World} {base : Nat} {x : StR} {r m s o : Value} (h : StO w base x r m s o) {g : Nat} (hg : g ∈ StB r m s o) : base ≤ g ∧ g < w.heap.size := by
  unfold StB at hg
  simp only [List.mem_append] at hg
  rcases hg with ((hg | hg) | hg) | hg
  · exact own_lt h.1 hg
  · exact own_lt h.2.1 hg
  · exact own_lt h.2.2.1 hg
  · exact own_lt h.2.2.2.1 hg
theorem StO.keep {w w' : World} {base : Nat} {x : StR} {r m s o : Value} (h : StO w base x r m s o) (hb : Below w.heap.size w w') : StO w' base x r m s o := ⟨own_keep h.1 hb, own_keep h.2.1 hb, own_keep h.2.2.1 hb, own_keep h.2.2.2.1 hb, h.2.2.2.2⟩
theorem StO.same {w w' : World} {base : Nat} {x : StR} {r m s o : Value} (h : StO w base x r m s o) (hs : ∀ g ∈ StB r m s o, w'.heap[g]? = w.heap[g]?) : StO w' base x r m s o :=
  ⟨own_same h.1 (fun g hg => hs g (by unfold StB; simp only [List.mem_append]; exact .inl (.inl (.inl hg)))), own_same h.2.1 (fun g hg => hs g (by unfold StB; simp only [List.mem_append]; exact .inl (.inl (.inr hg)))), own_same h.2.2.1 (fun g hg => hs g (by unfold StB; simp only [List.mem_append]; exact .inl (.inr hg))), own_same h.2.2.2.1 (fun g hg => hs g (by unfold StB; simp only [List.mem_append]; exact .inr hg)), h.2.2.2.2⟩
theorem StO.base {w : World} {base base' : Nat} {x : StR} {r m s o : Value} (h : StO w base x r m s o) (hb : base' ≤ base) : StO w base' x r m s o := ⟨own_base h.1 hb, own_base h.2.1 hb, own_base h.2.2.1 hb, own_base h.2.2.2.1 hb, h.2.2.2.2⟩
end Go.Proofs.Ytnhagmjknfiphaa
namespace Go.Proofs.Ytnhagmjknfiphaa
open Go.ChangeShapes Go.WideShapes Go.ChangeAt Go.RowKit
def soB (vw vm vi : Int) (L : List InsR) (x : StR) : Bool :=
  prB vw vm vi L && (opB 3 x.pc vw L.length && (decide ((x.R.length : Int) = 4) && (decide ((x.M.length : Int) = vm) && (decide ((x.S.length : Int) ≤ 3) && (decide ((x.O.length : Int) ≤ 6) && (decide (0 ≤ x.inn) && (decide (x.inn ≤ vi) && (decide (0 ≤ x.cd) && (decide (x.cd ≤ 8) && (decide (0 ≤ x.st) && (decide (x.st ≤ 400) && (oprB 2 vw L.length x.R && (oprB 2 vw L.length x.M && (oprB 3 vw L.length x.S && oprB 2 vw L.length x.O))))))))))))))
theorem so_spec (vw vm vi : Int) (L : List InsR) (x : StR) : (prB vw vm vi L && (decide ((x.S.length : Int) ≤ 3) && (decide ((x.O.length : Int) ≤ 6) && (oprB 3 vw L.length x.S && ((decide (0 ≤ x.pc) && decide (x.pc ≤ L.length)) && ((decide ((x.R.length : Int) = 4) && oprB 2 vw L.length x.R) && ((decide ((x.M.length : Int) = vm) && oprB 2 vw L.length x.M) && ((decide (0 ≤ x.inn) && decide (x.inn ≤ vi)) && ((decide ((x.O.length : Int) = x.O.length) && oprB 2 vw L.length x.O) && ((decide (0 ≤ x.cd) && decide (x.cd ≤ 8)) && (decide (0 ≤ x.st) && decide (x.st ≤ 400)))))))))))) = soB vw vm vi L x := by
  unfold soB
  rw [opB_place, decide_eq_true (rfl : (x.O.length : Int) = x.O.length)]
  generalize prB vw vm vi L = a1
  generalize oprB 2 vw L.length x.R = a2
  generalize oprB 2 vw L.length x.M = a3
  generalize oprB 3 vw L.length x.S = a4
  generalize oprB 2 vw L.length x.O = a5
  rw [Bool.eq_iff_iff]
  simp only [Bool.and_eq_true, decide_eq_true_eq]
  constructor
  · rintro ⟨h1, h2, h3, h4, ⟨h5, h6⟩, ⟨h7, h8⟩, ⟨h9, h10⟩, ⟨h11, h12⟩, ⟨-, h14⟩, ⟨h15, h16⟩, h17, h18⟩
    exact ⟨h1, ⟨h5, h6⟩, h7, h9, h2, h3, h11, h12, h15, h16, h17, h18, h8, h10, h4, h14⟩
  · rintro ⟨h1, ⟨h5, h6⟩, h7, h9, h2, h3, h11, h12, h15, h16, h17, h18, h8, h10, h4, h14⟩
    exact ⟨h1, h2, h3, h4, ⟨h5, h6⟩, ⟨h7, h8⟩, ⟨h9, h10⟩, ⟨h11, h12⟩, ⟨trivial, h14⟩, ⟨h15, h16⟩, h17, h18⟩
end Go.Proofs.Ytnhagmjknfiphaa
