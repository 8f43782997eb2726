/- What terms stand for, and that it is a word. No condition. The model of HoldsPath: the values that inputs give, and whether each condition stands for 1. No condition. States by value: what their slices show and own. No condition. -/
import Derived.Test.YthmababifgaejaaGreatDoorEmBin
import Derived.Test.YthmababifgaejaaGreatDoorEmGUnM
import Derived.Test.YthmababifgaejaaGreatDoorEmGUn
import Derived.Test.YthmababifgaejaaGreatDoorEmGWk
import Derived.Test.YthmababifgaejaaGreatDoorEmInsert
import Derived.Test.YthmababifgaejaaGreatDoorEmGPaM
import Derived.Test.YthmababifgaejaaGreatDoorEmGDat
import Derived.Test.YthmababifgaejaaGreatDoorEmGSzI
namespace Go.Proofs.YthmababifgaejaaGreatDoor
open Go.ChangeShapes Go.WideShapes Go.RowKit
/-- the word of an operation on words, for kids of some widths -/
def appM (op wd n : Int) : List Int → List Int → Int
  | [a], [x] => if op = 1 ∨ op = 2 then unM op a x else if op = 19 then cutM x n wd else widenM a x wd (decide (op = 21))
  | [a, b], [x, y] => if op = 18 then joinM x b y else binM op a x y
  | [_, _, _], [x, y, z] => if x = 1 then y else z
  | _, _ => 0
/-- the word that a variable has -/
def valOf (V : List ValueR) (nm : ByteArray) (wd : Int) : Option Int := match V[pos V nm]? with
  | some r => if r.f0 = nm ∧ r.f1 = wd then some r.f2 else none
  | none => none
namespace Fo
/-- the words of the nodes of a slice; none if a variable has none -/
def evs (V : List ValueR) : Fo → Option (List Int)
  | .nil => some []
  | .cons op wd n nm k r => (if op = 0 then some n else if op = 22 then valOf V nm wd else (k.evs V).map (appM op wd n k.ws)).bind fun x => (r.evs V).map (x :: ·)
end Fo
/-- .. of one node -/
def evOne (V : List ValueR) (op wd n : Int) (nm : ByteArray) (k : Fo) : Option Int := if op = 0 then some n else if op = 22 then valOf V nm wd else (k.evs V).map (appM op wd n k.ws)
theorem evs_cons (V : List ValueR) (op wd n : Int) (nm : ByteArray) (k r : Fo) : (Fo.cons op wd n nm k r).evs V = (evOne V op wd n nm k).bind fun x => (r.evs V).map (x :: ·) := rfl
theorem evs_len (V : List ValueR) : ∀ (F : Fo) (xs : List Int), F.evs V = some xs → xs.length = F.len
  | .nil, xs, h => by cases h; rfl
  | .cons op wd n nm k r, xs, h => by
    rw [evs_cons] at h
    obtain ⟨x, _, h⟩ := Option.bind_eq_some_iff.1 h
    obtain ⟨ys, hy, rfl⟩ := Option.map_eq_some_iff.1 h
    simp [Fo.len, evs_len V r ys hy]
def AreW : List Int → List Int → Prop
  | [], [] => True
  | w :: ws, x :: xs => IsW w x ∧ AreW ws xs
  | _, _ => False
theorem app1 (op wd n a x : Int) : appM op wd n [a] [x] = if op = 1 ∨ op = 2 then unM op a x else if op = 19 then cutM x n wd else widenM a x wd (decide (op = 21)) := rfl
theorem app2 (op wd n a b x y : Int) : appM op wd n [a, b] [x, y] = if op = 18 then joinM x b y else binM op a x y := rfl
theorem app3 (op wd n a b c x y z : Int) : appM op wd n [a, b, c] [x, y, z] = if x = 1 then y else z := rfl
theorem app_w {op wd n : Int} {nm : ByteArray} {l xs : List Int} (h : fitB op wd n nm l = true) (h0 : op ≠ 0) (h22 : op ≠ 22) (hl : ∀ a ∈ l, 1 ≤ a ∧ a ≤ 16) (hx : AreW l xs) : IsW wd (appM op wd n l xs) := by
  obtain ⟨hw, hs⟩ := fit_shape h h0 h22 hl
  rcases hs with ⟨ho, rfl⟩ | ⟨h1, h2, rfl⟩ | ⟨a, h1, h2, rfl, rfl, _, _⟩ | ⟨rfl, rfl⟩ | ⟨a, b, rfl, rfl, rfl, _, _⟩ | ⟨a, rfl, rfl, _, _, _⟩ | ⟨a, ho, rfl, _, _⟩
  · match xs, hx with
    | [x], ⟨hx, _⟩ => rw [app1, if_pos ho]; exact un_w ho hx
  · match xs, hx with
    | [x, y], ⟨hx, hy, _⟩ =>
      rw [app2, if_neg (by omega)]
      have := bin_w (op := op) ⟨h1, by omega⟩ hx hy
      unfold rw2 at this
      rwa [if_neg (by omega)] at this
  · match xs, hx with
    | [x, y], ⟨hx, hy, _⟩ =>
      rw [app2, if_neg (by omega)]
      have := bin_w (op := op) ⟨by omega, h2⟩ hx hy
      unfold rw2 at this
      rwa [if_pos (by omega)] at this
  · match xs, hx with
    | [x, y, z], ⟨_, hy, hz, _⟩ => rw [app3]; split; exact hy; exact hz
  · match xs, hx with
    | [x, y], ⟨hx, hy, _⟩ => rw [app2, if_pos rfl]; exact join_w hx hy hw.2
  · match xs, hx with
    | [x], ⟨hx, _⟩ => rw [app1, if_neg (by decide), if_pos rfl]; exact cut_w hw.1 hw.2
  · match xs, hx with
    | [x], ⟨hx, _⟩ => rw [app1, if_neg (by omega), if_neg (by omega)]; exact widen_w hx (by assumption) hw.2
theorem val_w {V : List ValueR} (hV : VlOk V) {nm : ByteArray} {wd x : Int} (h : valOf V nm wd = some x) : IsW wd x := by
  unfold valOf at h
  split at h
  · rename_i r hr
    split at h
    · rename_i hc
      cases h
      obtain ⟨_, h2, _⟩ := hV.2 _ r hr
      rw [← hc.2]
      exact isW_of h2
    · cases h
  · cases h
theorem evs_w {V : List ValueR} (hV : VlOk V) : ∀ (F : Fo) (xs : List Int), F.allB = true → F.evs V = some xs → AreW F.ws xs
  | .nil, xs, _, h => by cases h; trivial
  | .cons op wd n nm k r, xs, hb, h => by
    simp only [Fo.allB, Bool.and_eq_true] at hb
    rw [evs_cons] at h
    obtain ⟨x, hx, h⟩ := Option.bind_eq_some_iff.1 h
    obtain ⟨ys, hy, rfl⟩ := Option.map_eq_some_iff.1 h
    refine ⟨?_, evs_w hV r ys hb.2 hy⟩
    unfold evOne at hx
    split at hx
    · rename_i h0
      subst h0
      cases hx
      have := hb.1.1
      unfold fitB at this
      simp only [Bool.and_eq_true] at this
      have h2 := this.2
      rw [if_pos trivial] at h2
      exact isW_of h2
    · split at hx
      · exact val_w hV hx
      · rename_i h0 h22
        obtain ⟨zs, hz, rfl⟩ := Option.map_eq_some_iff.1 hx
        exact app_w hb.1.1 h0 h22 (ws_ok k hb.1.2) (evs_w hV k zs hb.1.2 hz)
end Go.Proofs.YthmababifgaejaaGreatDoor
namespace Go.Proofs.YthmababifgaejaaGreatDoor
open Go.ChangeShapes Go.WideShapes Go.ChangeAt Go.RowKit
/-- the name of an input -/
def inNm (k : Nat) : ByteArray := ⟨#[105, UInt8.ofNat (48 + k)]⟩
def inVf (vw : Int) : Nat → List Int → List ValueR
  | _, [] => []
  | k, n :: l => ⟨inNm k, vw, n⟩ :: inVf vw (k + 1) l
/-- the values that inputs give -/
def inV (vw : Int) (l : List Int) : List ValueR := inVf vw 0 l
/-- each condition stands for 1 -/
def cdB (V : List ValueR) : Fo → Bool
  | .nil => true
  | .cons op wd n nm k r => decide (evOne V op wd n nm k = some 1) && cdB V r
noncomputable def hpB (vw vm vi : Int) (L : List InsR) (x : PaR) (l : List Int) : Bool := paB vw vm vi L x && (inB vw vm vi L l && cdB (inV vw l) x.C)
theorem inVf_len (vw : Int) : ∀ (l : List Int) (k : Nat), (inVf vw k l).length = l.length
  | [], _ => rfl
  | _ :: l, k => by simp [inVf, inVf_len vw l (k + 1)]
theorem inV_len (vw : Int) (l : List Int) : (inV vw l).length = l.length := inVf_len vw l 0
theorem inVf_get (vw : Int) : ∀ (l : List Int) (k j : Nat) (h : j < l.length), (inVf vw k l)[j]? = some ⟨inNm (k + j), vw, l[j]⟩
  | [], _, _, h => absurd h (Nat.not_lt_zero _)
  | _ :: _, _, 0, _ => rfl
  | _ :: l, k, j + 1, h => by
    show (inVf vw (k + 1) l)[j]? = _
    rw [inVf_get vw l (k + 1) j (by simpa using h), show k + 1 + j = k + (j + 1) by omega]
    rfl
theorem inV_get (vw : Int) (l : List Int) (j : Nat) (h : j < l.length) : (inV vw l)[j]? = some ⟨inNm j, vw, l[j]⟩ := by
  unfold inV
  rw [inVf_get vw l 0 j h, Nat.zero_add]
theorem in_nm {k : Nat} (hk : k < 3) : nmB (inNm k) = true := by
  have : k = 0 ∨ k = 1 ∨ k = 2 := by omega
  refine nmB_true _ ⟨by rcases this with rfl | rfl | rfl <;> decide, by rcases this with rfl | rfl | rfl <;> decide, fun j hj h => ?_⟩
  have h2 : (inNm k).size = 2 := rfl
  have hj2 : j = 0 ∨ j = 1 := by omega
  rcases this with rfl | rfl | rfl <;> rcases hj2 with rfl | rfl <;> (clear h2 hk hj; revert h; decide)
theorem in_less {k : Nat} (hk : k < 2) : Op.bytesLess (inNm k).toList (inNm (k + 1)).toList = true := by
  have : k = 0 ∨ k = 1 := by omega
  rw [Lib.toList_data, Lib.toList_data]
  rcases this with rfl | rfl <;> decide
theorem in_facts {vw vm vi : Int} {L : List InsR} {l : List Int} (h : inB vw vm vi L l = true) : l.length ≤ 3 ∧ (2 ≤ vw ∧ vw ≤ 8) ∧ ∀ y ∈ l, wkB vw y = true := by
  unfold inB at h
  simp only [Bool.and_eq_true, decide_eq_true_eq] at h
  obtain ⟨hp, hl, ho⟩ := h
  obtain ⟨⟨g1, g2, _, _, _, _, g3, _⟩, _⟩ := pr_in hp
  refine ⟨by omega, ⟨g1, g2⟩, fun y hy => ?_⟩
  have := List.all_eq_true.1 ho y hy
  rw [opB_word] at this
  exact this
theorem inV_ok {vw vm vi : Int} {L : List InsR} {l : List Int} (h : inB vw vm vi L l = true) : VlOk (inV vw l) := by
  obtain ⟨hl, hw, hy⟩ := in_facts h
  refine ⟨by rw [inV_len]; omega, fun j r hr => ?_⟩
  have hj : j < l.length := by
    have := (List.getElem?_eq_some_iff.1 hr).1
    rw [inV_len] at this
    exact this
  rw [inV_get vw l j hj] at hr
  cases hr
  refine ⟨in_nm (by omega), hy _ (List.getElem_mem hj), fun i p e hp => ?_⟩
  subst e
  rw [inV_get vw l i (by omega)] at hp
  cases hp
  exact in_less (by omega)
theorem tk_ok {op wd n : Int} {nm : ByteArray} {k : Fo} (h : tkB op wd n nm k = true) : fitB op wd n nm k.ws = true ∧ k.allB = true := by
  unfold tkB at h
  rw [accOne_eq] at h
  by_cases hc : 1 + k.nodes ≤ 240 ∧ (fitB op wd n nm k.ws && k.allB) = true
  · simpa using hc.2
  · rw [if_neg hc] at h; simp at h
/-- what a term of one bit stands for is 0 or 1 -/
theorem cd_word {V : List ValueR} (hV : VlOk V) {op n y : Int} {nm : ByteArray} {k : Fo} (h : tkB op 1 n nm k = true) (hy : evOne V op 1 n nm k = some y) : y = 0 ∨ y = 1 := by
  obtain ⟨h1, h2⟩ := tk_ok h
  have hw := evs_w hV (.cons op 1 n nm k .nil) [y] (by simp [Fo.allB, h1, h2]) (by rw [evs_cons, hy]; rfl)
  obtain ⟨⟨_, _, g1, g2⟩, _⟩ := hw
  have : (2 : Int) ^ (1 : Int).toNat = 2 := rfl
  omega
theorem tm_at {F : Fo} {w : Int} (h : tmB F w = true) : ∀ (j : Nat) {op wd n : Int} {nm : ByteArray} {k : Fo}, F.At j op wd n nm k → wd = w ∧ tkB op wd n nm k = true := fun j op wd n nm k ha => by
  cases hh : (decide (wd = w) && tkB op wd n nm k)
  case true =>
    rw [Bool.and_eq_true, decide_eq_true_eq] at hh
    exact hh
  case false =>
    rw [tm_bad F j ha hh] at h
    cases h
theorem pa_tm {vw vm vi : Int} {L : List InsR} {x : PaR} (h : paB vw vm vi L x = true) : tmB x.R vw = true ∧ tmB x.M vw = true ∧ tmB x.O vw = true ∧ tmB x.C 1 = true := by
  unfold paB at h
  simp only [Bool.and_eq_true] at h
  exact h.2.2.2.2.2.2.2.2.2.2.2.2.2
theorem cd_take : ∀ (V : List ValueR) (F : Fo) (j : Nat) {op wd n : Int} {nm : ByteArray} {k : Fo}, F.At j op wd n nm k → cdB V (F.take (j + 1)) = (cdB V (F.take j) && decide (evOne V op wd n nm k = some 1))
  | _, .nil, _, _, _, _, _, _, h => h.elim
  | V, .cons _ _ _ _ _ _, 0, _, _, _, _, _, ⟨rfl, rfl, rfl, rfl, rfl⟩ => by simp [Fo.take, Fo.take_zero, cdB]
  | V, .cons _ _ _ _ _ r, j + 1, _, _, _, _, _, h => by
    simp only [Fo.take, cdB]
    rw [cd_take V r j h, ← Bool.and_assoc]
theorem cd_bad : ∀ (V : List ValueR) (F : Fo) (j : Nat) {op wd n : Int} {nm : ByteArray} {k : Fo}, F.At j op wd n nm k → evOne V op wd n nm k ≠ some 1 → cdB V F = false
  | _, .nil, _, _, _, _, _, _, h, _ => h.elim
  | V, .cons _ _ _ _ _ _, 0, _, _, _, _, _, ⟨rfl, rfl, rfl, rfl, rfl⟩, hb => by simp only [cdB, decide_eq_false hb, Bool.false_and]
  | V, .cons _ _ _ _ _ r, j + 1, _, _, _, _, _, h, hb => by
    simp only [cdB, cd_bad V r j h hb, Bool.and_false]
theorem cd_zero (V : List ValueR) (F : Fo) : cdB V (F.take 0) = true := by rw [Fo.take_zero]; rfl
/-- all words of terms: each of the first so many is 1, or not all are -/
theorem evs_all {V : List ValueR} : ∀ (F : Fo) {xs : List Int}, F.evs V = some xs → cdB V F = xs.all fun x => decide (x = 1)
  | .nil, _, h => by cases h; rfl
  | .cons op wd n nm k r, xs, h => by
    rw [evs_cons] at h
    obtain ⟨x, hx, h⟩ := Option.bind_eq_some_iff.1 h
    obtain ⟨ys, hy, rfl⟩ := Option.map_eq_some_iff.1 h
    simp only [cdB, List.all_cons, evs_all r hy, hx, Option.some.injEq]
theorem evs_none {V : List ValueR} : ∀ (F : Fo), F.evs V = none → cdB V F = false
  | .nil, h => by cases h
  | .cons op wd n nm k r, h => by
    rw [evs_cons] at h
    cases hx : evOne V op wd n nm k with
    | none => simp [cdB, hx]
    | some x =>
      rw [hx] at h
      simp only [Option.bind_some, Option.map_eq_none_iff] at h
      simp [cdB, evs_none r h]
end Go.Proofs.YthmababifgaejaaGreatDoor
namespace Go.Proofs.YthmababifgaejaaGreatDoor
open Go.ChangeShapes Go.WideShapes Go.ChangeAt Go.RowKit
structure StR where
  pc : Int
  R : List Int
  M : List Int
  S : List Int
  inn : Int
  O : List Int
  cd : Int
  st : Int
namespace StR
/-- its lists in their order, all together -/
def cost (x : StR) : Nat := x.R.length + x.M.length + x.S.length + x.O.length
def Long (x : StR) : Prop := x.R.length ≤ maxLen ∧ x.M.length ≤ maxLen ∧ x.S.length ≤ maxLen ∧ x.O.length ≤ maxLen
def Ok (x : StR) : Prop := (-9223372036854775808 ≤ x.pc ∧ x.pc ≤ 9223372036854775807) ∧ (-9223372036854775808 ≤ x.inn ∧ x.inn ≤ 9223372036854775807) ∧ (-9223372036854775808 ≤ x.cd ∧ x.cd ≤ 9223372036854775807) ∧ (-9223372036854775808 ≤ x.st ∧ x.st ≤ 9223372036854775807) ∧ (∀ y ∈ x.R, IntL.Ok y) ∧ (∀ y ∈ x.M, IntL.Ok y) ∧ (∀ y ∈ x.S, IntL.Ok y) ∧ (∀ y ∈ x.O, IntL.Ok y)
end StR
/-- its slices show its lists -/
def StS (w : World) (base : Nat) (x : StR) (r m s o : Value) : Prop := Cs.Shows w base 1 r x.R.length (IntL.all x.R) ∧ Cs.Shows w base 1 m x.M.length (IntL.all x.M) ∧ Cs.Shows w base 1 s x.S.length (IntL.all x.S) ∧ Cs.Shows w base 1 o x.O.length (IntL.all x.O)
theorem StS.below {w w' : World} {base : Nat} {x : StR} {r m s o : Value} (h : StS w base x r m s o) (hb : Below w.heap.size w w') : StS w' base x r m s o := ⟨h.1.below hb, h.2.1.below hb, h.2.2.1.below hb, h.2.2.2.below hb⟩
theorem StS.down {w : World} {base : Nat} {x : StR} {r m s o : Value} (h : StS w base x r m s o) : StS w 0 x r m s o := ⟨h.1.down (Nat.zero_le _), h.2.1.down (Nat.zero_le _), h.2.2.1.down (Nat.zero_le _), h.2.2.2.down (Nat.zero_le _)⟩
/-- its slices own their rows, each its own -/
def StO (w : World) (base : Nat) (x : StR) (r m s o : Value) : Prop := w.ownsRow base 3 1 r x.R.length (IntL.all x.R) ∧ w.ownsRow base 3 1 m x.M.length (IntL.all x.M) ∧ w.ownsRow base 3 1 s x.S.length (IntL.all x.S) ∧ w.ownsRow base 3 1 o x.O.length (IntL.all x.O) ∧ (r.ownBlock.toList ++ m.ownBlock.toList ++ s.ownBlock.toList ++ o.ownBlock.toList).Nodup
def StB (r m s o : Value) : List Nat := r.ownBlock.toList ++ m.ownBlock.toList ++ s.ownBlock.toList ++ o.ownBlock.toList
theorem StO.shows {w : World} {base : Nat} {x : StR} {r m s o : Value} (h : StO w base x r m s o) : StS w 0 x r m s o := ⟨(Cs.shows_of_owns h.1).down (Nat.zero_le _), (Cs.shows_of_owns h.2.1).down (Nat.zero_le _), (Cs.shows_of_owns h.2.2.1).down (Nat.zero_le _), (Cs.shows_of_owns h.2.2.2.1).down (Nat.zero_le _)⟩
theorem StO.lt {w : World} {base : Nat} {x : StR} {r m s o : Value} (h : StO w base x r m s o) {g : Nat} (hg : g ∈ StB r m s o) : base ≤ g ∧ g < w.heap.size := by
  unfold StB at hg
  simp only [List.mem_append] at hg
  rcases hg with ((hg | hg) | hg) | hg
  · exact own_lt h.1 hg
  · exact own_lt h.2.1 hg
  · exact own_lt h.2.2.1 hg
  · exact own_lt h.2.2.2.1 hg
theorem StO.keep {w w' : World} {base : Nat} {x : StR} {r m s o : Value} (h : StO w base x r m s o) (hb : Below w.heap.size w w') : StO w' base x r m s o := ⟨own_keep h.1 hb, own_keep h.2.1 hb, own_keep h.2.2.1 hb, own_keep h.2.2.2.1 hb, h.2.2.2.2⟩
theorem StO.same {w w' : World} {base : Nat} {x : StR} {r m s o : Value} (h : StO w base x r m s o) (hs : ∀ g ∈ StB r m s o, w'.heap[g]? = w.heap[g]?) : StO w' base x r m s o :=
  ⟨own_same h.1 (fun g hg => hs g (by unfold StB; simp only [List.mem_append]; exact .inl (.inl (.inl hg)))), own_same h.2.1 (fun g hg => hs g (by unfold StB; simp only [List.mem_append]; exact .inl (.inl (.inr hg)))), own_same h.2.2.1 (fun g hg => hs g (by unfold StB; simp only [List.mem_append]; exact .inl (.inr hg))), own_same h.2.2.2.1 (fun g hg => hs g (by unfold StB; simp only [List.mem_append]; exact .inr hg)), h.2.2.2.2⟩
theorem StO.base {w : World} {base base' : Nat} {x : StR} {r m s o : Value} (h : StO w base x r m s o) (hb : base' ≤ base) : StO w base' x r m s o := ⟨own_base h.1 hb, own_base h.2.1 hb, own_base h.2.2.1 hb, own_base h.2.2.2.1 hb, h.2.2.2.2⟩
end Go.Proofs.YthmababifgaejaaGreatDoor
