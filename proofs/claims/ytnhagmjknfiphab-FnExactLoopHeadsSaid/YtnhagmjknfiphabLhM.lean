/- The model of LoopHeads. No condition. -/
import Derived.Test.YtnhagmjknfiphabRcM
namespace Go.Proofs.Ytnhagmjknfiphab
open Go.ChangeShapes Go.WideShapes Go.ChangeAt Go.RowKit
/-- one of the first j places reached leads to x and is not less -/
def LhU (vw vm vi : Int) (L : List InsR) (R : List Int) (x : Int) (j : Nat) : Prop := ∃ i, i < j ∧ x ≤ R.getD i 0 ∧ x ∈ nxL vw vm vi L (R.getD i 0)
def Lh (vw vm vi : Int) (L : List InsR) (R : List Int) (a : Nat) : Prop := LhU vw vm vi L R a R.length
noncomputable def lhV (vw vm vi : Int) (L : List InsR) : List Int := ascP (Lh vw vm vi L (rcV vw vm vi L)) (L.length + 1)
theorem ascP_none {p : Nat → Prop} (h : ∀ x, ¬ p x) : ∀ n, ascP p n = []
  | 0 => ascP_zero p
  | n + 1 => by rw [ascP_no (h n), ascP_none h n]
theorem lhV_len (vw vm vi : Int) (L : List InsR) : (lhV vw vm vi L).length ≤ 41 := by
  unfold lhV
  by_cases h : prB vw vm vi L = true
  · obtain ⟨⟨-, -, -, -, -, -, -, -, h40⟩, -⟩ := pr_in h
    have := ascP_len (Lh vw vm vi L (rcV vw vm vi L)) (L.length + 1)
    omega
  · rw [ascP_none (fun x => by
      unfold Lh LhU rcV
      rw [if_neg h]
      rintro ⟨i, hi, _⟩
      exact absurd hi (Nat.not_lt_zero _))]
    simp
theorem lhu_zero {vw vm vi : Int} {L : List InsR} {R : List Int} {x : Int} : ¬ LhU vw vm vi L R x 0 := fun ⟨_, h, _⟩ => absurd h (Nat.not_lt_zero _)
theorem lhu_up {vw vm vi : Int} {L : List InsR} {R : List Int} {x : Int} {j : Nat} (h : LhU vw vm vi L R x j) : LhU vw vm vi L R x (j + 1) := by
  obtain ⟨i, h1, h2⟩ := h
  exact ⟨i, by omega, h2⟩
theorem lhu_yes {vw vm vi : Int} {L : List InsR} {R : List Int} {x : Int} {j : Nat} (h1 : x ≤ R.getD j 0) (h2 : x ∈ nxL vw vm vi L (R.getD j 0)) : LhU vw vm vi L R x (j + 1) := ⟨j, by omega, h1, h2⟩
theorem lhu_no {vw vm vi : Int} {L : List InsR} {R : List Int} {x : Int} {j : Nat} (h : ¬ LhU vw vm vi L R x j) (h2 : ¬ (x ≤ R.getD j 0 ∧ x ∈ nxL vw vm vi L (R.getD j 0))) : ¬ LhU vw vm vi L R x (j + 1) := by
  rintro ⟨i, h3, h4⟩
  by_cases e : i = j
  · subst e; exact h2 h4
  · exact h ⟨i, by omega, h4⟩
/-- what the program has gathered: of the first i places reached all, and of the next one the first j -/
def LhI (vw vm vi : Int) (L : List InsR) (R H : List Int) (i j : Nat) : Prop := H.length ≤ 2 * i + j ∧ ∀ x, x ∈ H ↔ LhU vw vm vi L R x i ∨ x ≤ R.getD i 0 ∧ x ∈ (nxL vw vm vi L (R.getD i 0)).take j
theorem lhi_start (vw vm vi : Int) (L : List InsR) (R : List Int) : LhI vw vm vi L R [] 0 0 := by
  refine ⟨by simp, fun x => ⟨fun h => (by cases h), ?_⟩⟩
  rintro (h | ⟨_, h⟩)
  · exact absurd h lhu_zero
  · simp at h
theorem lhi_put {vw vm vi : Int} {L : List InsR} {R H X : List Int} {i j : Nat} {x0 : Int} (h : LhI vw vm vi L R H i j) (hg : R.getD i 0 = x0) (hX : nxL vw vm vi L x0 = X) (hj : j < X.length) (hx : X[j] ≤ x0) : LhI vw vm vi L R (H ++ [X[j]]) i (j + 1) := by
  subst hX
  subst hg
  refine ⟨by rw [List.length_append]; have := h.1; simp; omega, fun x => ?_⟩
  rw [List.mem_append, h.2 x, List.mem_singleton, List.take_succ_eq_append_getElem hj, List.mem_append, List.mem_singleton]
  constructor
  · rintro ((h | h) | h)
    · exact .inl h
    · exact .inr ⟨h.1, .inl h.2⟩
    · exact .inr ⟨by rw [h]; exact hx, .inr h⟩
  · rintro (h | ⟨h1, h2 | h2⟩)
    · exact .inl (.inl h)
    · exact .inl (.inr ⟨h1, h2⟩)
    · exact .inr h2
theorem lhi_skip {vw vm vi : Int} {L : List InsR} {R H X : List Int} {i j : Nat} {x0 : Int} (h : LhI vw vm vi L R H i j) (hg : R.getD i 0 = x0) (hX : nxL vw vm vi L x0 = X) (hj : j < X.length) (hx : ¬ X[j] ≤ x0) : LhI vw vm vi L R H i (j + 1) := by
  subst hX
  subst hg
  refine ⟨by have := h.1; omega, fun x => ?_⟩
  rw [h.2 x, List.take_succ_eq_append_getElem hj, List.mem_append, List.mem_singleton]
  constructor
  · rintro (h | h)
    · exact .inl h
    · exact .inr ⟨h.1, .inl h.2⟩
  · rintro (h | ⟨h1, h2 | h2⟩)
    · exact .inl h
    · exact .inr ⟨h1, h2⟩
    · exact absurd (h2 ▸ h1) hx
theorem lhi_next {vw vm vi : Int} {L : List InsR} {R H X : List Int} {i : Nat} {x0 : Int} (h : LhI vw vm vi L R H i X.length) (hg : R.getD i 0 = x0) (hX : nxL vw vm vi L x0 = X) : LhI vw vm vi L R H (i + 1) 0 := by
  subst hX
  subst hg
  have hl := nxL_len vw vm vi L (R.getD i 0)
  refine ⟨by have := h.1; omega, fun x => ?_⟩
  rw [h.2 x, List.take_length, List.take_zero]
  constructor
  · rintro (h | h)
    · exact .inl (lhu_up h)
    · exact .inl (lhu_yes h.1 h.2)
  · rintro (⟨k, h1, h2⟩ | ⟨_, h⟩)
    · by_cases e : k = i
      · subst e; exact .inr h2
      · exact .inl ⟨k, by omega, h2⟩
    · cases h
theorem lhi_end {vw vm vi : Int} {L : List InsR} {R H : List Int} (h : LhI vw vm vi L R H R.length 0) (hR : R = rcV vw vm vi L) : Lib.compact (sortI H) = lhV vw vm vi L := by
  unfold lhV
  rw [← hR]
  refine ascP_comp fun x => ?_
  rw [h.2 x]
  constructor
  · rintro (h | ⟨h1, h2⟩)
    · have h9 := h
      obtain ⟨i, hi, h1, h2⟩ := h
      have hp := nx_place h2
      refine ⟨x.toNat, by omega, by omega, ?_⟩
      unfold Lh
      rw [Int.toNat_of_nonneg hp.1]
      exact h9
    · simp at h2
  · rintro ⟨k, rfl, _, hk⟩
    exact .inl hk
end Go.Proofs.Ytnhagmjknfiphab
