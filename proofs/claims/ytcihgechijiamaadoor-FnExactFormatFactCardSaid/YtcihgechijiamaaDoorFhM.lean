/- The model of what it means that a fact is true of words. No condition. -/
import Derived.Test.YtcihgechijiamaaDoorFcM
import Derived.Test.YtcihgechijiamaaDoorWord
import Derived.Test.YtcihgechijiamaaDoorInM
namespace Go.Proofs.YtcihgechijiamaaDoor
open Go.ChangeShapes Go.WideShapes Go.ChangeAt Go.RowKit
def atI (R : List Int) (i : Int) : Int := R.getD i.toNat 0
/-- the word that is the number of a fact where it is true, or not more than it -/
def msV (w k a b : Int) (R : List Int) : Int := if k = 2 then mask w (atI R a - atI R b) else if k = 4 then mask 1 (atI R a / 2 ^ b.toNat) else if k = 5 then mask w (atI R a + atI R b) else if k = 6 then (if atI R b < atI R a then 1 else 0) else atI R a
def htB (w k a b n : Int) (R : List Int) : Bool := decide (msV w k a b R = n) || (decide (k = 3) && decide (msV w k a b R < n))
/-- .. as the specification asks it -/
def stB (w k a b n : Int) (R : List Int) : Bool := if k = 1 then decide (atI R a = n) else if k = 2 then decide (atI R a = atI R b) else if k = 3 then decide (atI R a ≤ n) else if k = 4 then decide (bits .and .i64 (atI R a / 2 ^ b.toNat) 1 = n) else if k = 5 then decide (mask w (atI R a + atI R b) = n) else decide (atI R a ≤ atI R b)
def fhB (vw vm vi : Int) (L : List InsR) (k a b n : Int) (R : List Int) : Bool := fcB vw vm vi L k a b n && ((decide ((R.length : Int) = 4) && oprB 2 vw L.length R) && htB vw k a b n R)
/-- what is known of a fact -/
structure FcIn (vw k a b n : Int) : Prop where
  hw : 2 ≤ vw ∧ vw ≤ 8
  hk : k = 1 ∨ k = 2 ∨ k = 3 ∨ k = 4 ∨ k = 5 ∨ k = 6
  ha : 0 ≤ a ∧ a ≤ 3
  hb : k = 2 ∨ k = 5 ∨ k = 6 → 0 ≤ b ∧ b ≤ 3
  hb4 : k = 4 → 0 ≤ b ∧ b < vw
  hn : k = 2 ∨ k = 6 → n = 0
theorem fc_facts {vw vm vi : Int} {L : List InsR} {k a b n : Int} (h : fcB vw vm vi L k a b n = true) : prB vw vm vi L = true ∧ FcIn vw k a b n := by
  unfold fcB at h
  simp only [Bool.and_eq_true, decide_eq_true_eq] at h
  obtain ⟨hp, ⟨k1, k6⟩, h1, h2, h3, h4⟩ := h
  rw [opB_reg, Bool.and_eq_true, decide_eq_true_eq, decide_eq_true_eq] at h1
  have hk : k = 1 ∨ k = 2 ∨ k = 3 ∨ k = 4 ∨ k = 5 ∨ k = 6 := by omega
  refine ⟨hp, ⟨(pr_in hp).1.1, (pr_in hp).1.2.1⟩, hk, h1, ?_, ?_, ?_⟩
  · intro hh
    have e : fkB k = 1 := by rcases hh with rfl | rfl | rfl <;> rfl
    rw [e, opB_reg, Bool.and_eq_true, decide_eq_true_eq, decide_eq_true_eq] at h2
    exact h2
  · rintro rfl
    have e : (decide (b < vw) && decide (n ≤ 1)) = true := h4
    rw [Bool.and_eq_true, decide_eq_true_eq, decide_eq_true_eq] at e
    have h5 : wkB vw b = true := h2
    exact ⟨wk_ge h5, e.1⟩
  · intro hh
    have e : fkN k = 0 := by rcases hh with rfl | rfl <;> rfl
    rw [e, opB_none, decide_eq_true_eq] at h3
    exact h3
theorem at_mem {R : List Int} {i : Int} (hR : R.length = 4) (h0 : 0 ≤ i) (h3 : i ≤ 3) : atI R i ∈ R := by
  unfold atI
  rw [List.getD_eq_getElem?_getD, List.getElem?_eq_getElem (by omega)]
  exact List.getElem_mem _
theorem at_get {R : List Int} {j : Nat} (h : j < R.length) : atI R (j : Int) = R[j] := by
  unfold atI
  rw [Int.toNat_natCast, List.getD_eq_getElem?_getD, List.getElem?_eq_getElem h]
  rfl
theorem sub_zero {w x y : Int} (hx : IsW w x) (hy : IsW w y) : mask w (x - y) = 0 ↔ x = y := by
  obtain ⟨h1, h2, h3, h4⟩ := hx
  obtain ⟨_, _, k3, k4⟩ := hy
  have hp := pw w h1 h2
  rw [mask_eq h2]
  generalize (2 : Int) ^ w.toNat = p at *
  by_cases h : y ≤ x
  · rw [Int.emod_eq_of_lt (by omega) (by omega)]
    omega
  · rw [← Int.add_emod_right, Int.emod_eq_of_lt (by omega) (by omega)]
    omega
theorem st_eq {w k a b n : Int} {R : List Int} (hf : FcIn w k a b n) (hR : R.length = 4) (hx : ∀ y ∈ R, IsW w y) : stB w k a b n R = htB w k a b n R := by
  have hxa := hx _ (at_mem hR hf.ha.1 hf.ha.2)
  rcases hf.hk with rfl | rfl | rfl | rfl | rfl | rfl
  · show decide (atI R a = n) = (decide (atI R a = n) || (false && _))
    simp
  · have hb := hf.hb (by omega)
    have hn := hf.hn (by omega)
    subst hn
    show decide (atI R a = atI R b) = (decide (mask w (atI R a - atI R b) = 0) || (false && _))
    rw [Bool.false_and, Bool.or_false, decide_eq_decide]
    exact (sub_zero hxa (hx _ (at_mem hR hb.1 hb.2))).symm
  · show decide (atI R a ≤ n) = (decide (atI R a = n) || (true && decide (atI R a < n)))
    rw [Bool.true_and, Bool.eq_iff_iff]
    simp only [Bool.or_eq_true, decide_eq_true_eq]
    omega
  · show decide (bits .and .i64 (atI R a / 2 ^ b.toNat) 1 = n) = (decide (mask 1 (atI R a / 2 ^ b.toNat) = n) || (false && _))
    rw [Bool.false_and, Bool.or_false]
    rfl
  · show decide (mask w (atI R a + atI R b) = n) = (decide (mask w (atI R a + atI R b) = n) || (false && _))
    simp
  · have hn := hf.hn (by omega)
    subst hn
    show decide (atI R a ≤ atI R b) = (decide ((if atI R b < atI R a then (1 : Int) else 0) = 0) || (false && _))
    rw [Bool.false_and, Bool.or_false, decide_eq_decide]
    split <;> omega
end Go.Proofs.YtcihgechijiamaaDoor
