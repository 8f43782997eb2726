/- The model of what is a state of a program, in the order of the program and in that of the specification. No condition. The model of NewState. No condition. -/
import Derived.Test.YthmababifgaejaaGreatCmGFlInt
import Derived.Test.YthmababifgaejaaGreatCmGCell
namespace Go.Proofs.YthmababifgaejaaGreat
open Go.ChangeShapes Go.WideShapes Go.ChangeAt Go.RowKit
def soB (vw vm vi : Int) (L : List InsR) (x : StR) : Bool :=
  prB vw vm vi L && (opB 3 x.pc vw L.length && (decide ((x.R.length : Int) = 4) && (decide ((x.M.length : Int) = vm) && (decide ((x.S.length : Int) ≤ 3) && (decide ((x.O.length : Int) ≤ 6) && (decide (0 ≤ x.inn) && (decide (x.inn ≤ vi) && (decide (0 ≤ x.cd) && (decide (x.cd ≤ 8) && (decide (0 ≤ x.st) && (decide (x.st ≤ 400) && (oprB 2 vw L.length x.R && (oprB 2 vw L.length x.M && (oprB 3 vw L.length x.S && oprB 2 vw L.length x.O))))))))))))))
theorem so_spec (vw vm vi : Int) (L : List InsR) (x : StR) : (prB vw vm vi L && (decide ((x.S.length : Int) ≤ 3) && (decide ((x.O.length : Int) ≤ 6) && (oprB 3 vw L.length x.S && ((decide (0 ≤ x.pc) && decide (x.pc ≤ L.length)) && ((decide ((x.R.length : Int) = 4) && oprB 2 vw L.length x.R) && ((decide ((x.M.length : Int) = vm) && oprB 2 vw L.length x.M) && ((decide (0 ≤ x.inn) && decide (x.inn ≤ vi)) && ((decide ((x.O.length : Int) = x.O.length) && oprB 2 vw L.length x.O) && ((decide (0 ≤ x.cd) && decide (x.cd ≤ 8)) && (decide (0 ≤ x.st) && decide (x.st ≤ 400)))))))))))) = soB vw vm vi L x := by
  unfold soB
  rw [opB_place, decide_eq_true (rfl : (x.O.length : Int) = x.O.length)]
  generalize prB vw vm vi L = a1
  generalize oprB 2 vw L.length x.R = a2
  generalize oprB 2 vw L.length x.M = a3
  generalize oprB 3 vw L.length x.S = a4
  generalize oprB 2 vw L.length x.O = a5
  rw [Bool.eq_iff_iff]
  simp only [Bool.and_eq_true, decide_eq_true_eq]
  constructor
  · rintro ⟨h1, h2, h3, h4, ⟨h5, h6⟩, ⟨h7, h8⟩, ⟨h9, h10⟩, ⟨h11, h12⟩, ⟨-, h14⟩, ⟨h15, h16⟩, h17, h18⟩
    exact ⟨h1, ⟨h5, h6⟩, h7, h9, h2, h3, h11, h12, h15, h16, h17, h18, h8, h10, h4, h14⟩
  · rintro ⟨h1, ⟨h5, h6⟩, h7, h9, h2, h3, h11, h12, h15, h16, h17, h18, h8, h10, h4, h14⟩
    exact ⟨h1, h2, h3, h4, ⟨h5, h6⟩, ⟨h7, h8⟩, ⟨h9, h10⟩, ⟨h11, h12⟩, ⟨trivial, h14⟩, ⟨h15, h16⟩, h17, h18⟩
end Go.Proofs.YthmababifgaejaaGreat
namespace Go.Proofs.YthmababifgaejaaGreat
open Go.ChangeShapes Go.WideShapes Go.ChangeAt Go.RowKit
def zeroSt : StR := ⟨0, [], [], [], 0, [], 0, 0⟩
/-- the first state of a program -/
def newSt (vm : Int) : StR := ⟨0, List.replicate 4 0, List.replicate vm.toNat 0, [], 0, [], 0, 0⟩
def nsV (vw vm vi : Int) (L : List InsR) : StR := if prB vw vm vi L = true then newSt vm else zeroSt
theorem ns_cost (vw vm vi : Int) (L : List InsR) : (nsV vw vm vi L).cost ≤ 10 := by
  unfold nsV
  split
  · rename_i h
    obtain ⟨⟨-, -, h1, h2, -⟩, -⟩ := pr_in h
    simp [newSt, StR.cost]
    omega
  · simp [zeroSt, StR.cost]
/-- what a function leaves that gives a state -/
def StEnd (x : StR) (w : World) (e : Ending) (w' : World) : Prop := Below w.heap.size w w' ∧ ∃ rq rc mq mc sq sc oq oc, e = .returned (.agg #[.int .i64 x.pc, .slice rq x.R.length rc, .slice mq x.M.length mc, .slice sq x.S.length sc, .int .i64 x.inn, .slice oq x.O.length oc, .int .i64 x.cd, .int .i64 x.st]) ∧ StO w' w.heap.size x (.slice rq x.R.length rc) (.slice mq x.M.length mc) (.slice sq x.S.length sc) (.slice oq x.O.length oc)
theorem two_rows (W1 : World) (A B : List Int) (base : Nat) (hb : base ≤ W1.heap.size) (hA : A.length ≤ maxLen) (hB : B.length ≤ maxLen) :
    (((W1.alloc (.cells (IntL.all A).toArray 3)).alloc (.cells (IntL.all B).toArray 3)).drew).ownsRow base 3 1 (.slice (some ⟨W1.heap.size, 0, none⟩) A.length A.length) A.length (IntL.all A) ∧ (((W1.alloc (.cells (IntL.all A).toArray 3)).alloc (.cells (IntL.all B).toArray 3)).drew).ownsRow base 3 1 (.slice (some ⟨W1.heap.size + 1, 0, none⟩) B.length B.length) B.length (IntL.all B) := by
  have h1 := World.ownsRow_lit (base := base) (e := 3) (size := 1) W1 (IntL.all A).toArray A.length hb hA (by simp [IntL.all_len])
  have h2 := World.ownsRow_lit (base := base) (e := 3) (size := 1) (W1.alloc (.cells (IntL.all A).toArray 3)) (IntL.all B).toArray B.length (by simp; omega) hB (by simp [IntL.all_len])
  rw [show (W1.alloc (.cells (IntL.all A).toArray 3)).heap.size = W1.heap.size + 1 by simp] at h2
  exact ⟨own_same (h1.alloc _) (fun _ _ => rfl), own_same h2 (fun _ _ => rfl)⟩
theorem st_new (vm : Int) (k : Nat) (hk : vm.toNat = k) (w W : World) (g1 g2 : Nat) (hne : g1 ≠ g2) (hb : Below w.heap.size w W) (h1 : W.ownsRow w.heap.size 3 1 (.slice (some ⟨g1, 0, none⟩) 4 4) 4 (IntL.all [0, 0, 0, 0])) (h2 : W.ownsRow w.heap.size 3 1 (.slice (some ⟨g2, 0, none⟩) k k) k (IntL.all (List.replicate k 0))) :
    StEnd (newSt vm) w (.returned (.agg #[.int .i64 0, .slice (some ⟨g1, 0, none⟩) 4 4, .slice (some ⟨g2, 0, none⟩) k k, .slice none 0 0, .int .i64 0, .slice none 0 0, .int .i64 0, .int .i64 0])) W := by
  subst hk
  have hl : (List.replicate vm.toNat (0 : Int)).length = vm.toNat := List.length_replicate
  refine ⟨hb, some ⟨g1, 0, none⟩, 4, some ⟨g2, 0, none⟩, vm.toNat, none, 0, none, 0, ?_, h1, ?_, World.ownsRow_nil _ _ _ _, World.ownsRow_nil _ _ _ _, ?_⟩
  · simp [newSt]
  · show W.ownsRow w.heap.size 3 1 (.slice (some ⟨g2, 0, none⟩) (List.replicate vm.toNat (0 : Int)).length vm.toNat) (List.replicate vm.toNat (0 : Int)).length (IntL.all (List.replicate vm.toNat 0))
    rw [hl]
    exact h2
  · simp [Value.ownBlock]
    omega
theorem own_of {W : World} {base g g' n : Nat} {xs : List Value} (h : W.ownsRow base 3 1 (.slice (some ⟨g, 0, none⟩) n n) n xs) (hg : g = g') : W.ownsRow base 3 1 (.slice (some ⟨g', 0, none⟩) n n) n xs := by
  subst hg
  exact h
theorem st_zero {w w' : World} (hb : Below w.heap.size w w') : StEnd zeroSt w (.returned (.agg #[.int .i64 0, .slice none 0 0, .slice none 0 0, .slice none 0 0, .int .i64 0, .slice none 0 0, .int .i64 0, .int .i64 0])) w' :=
  ⟨hb, none, 0, none, 0, none, 0, none, 0, rfl, World.ownsRow_nil _ _ _ _, World.ownsRow_nil _ _ _ _, World.ownsRow_nil _ _ _ _, World.ownsRow_nil _ _ _ _, by simp [Value.ownBlock]⟩
end Go.Proofs.YthmababifgaejaaGreat
