/- Literals, clauses, formulas: when they are what they should be, and when a list of truth values is a model. No condition. -/
import Derived.Test.YtimjkgciakbolabIntP
namespace Go.Proofs.Ytimjkgciakbolab
open Go.ChangeShapes Go.WideShapes Go.RowKit
def iabs (x : Int) : Int := if x < 0 then -x else x
def litB (n x : Int) : Bool := decide (x ≠ 0) && (decide (-n ≤ x) && decide (x ≤ n))
theorem litB_t {n x : Int} (h0 : x ≠ 0) (h1 : -n ≤ x) (h2 : x ≤ n) : litB n x = true := by simp [litB, h0, h1, h2]
theorem litB_f {n x : Int} (h : x = 0 ∨ x < -n ∨ n < x) : litB n x = false := by
  unfold litB
  rcases h with h | h | h
  · simp [h]
  · simp; omega
  · simp; omega
/-- variables ascend, from one on -/
def ascB : Int → List Int → Bool
  | _, [] => true
  | last, x :: l => decide (last < iabs x) && ascB (iabs x) l
def litsB (n : Int) (l : List Int) : Bool := l.all (litB n)
/-- whether a list is a clause of n variables -/
def clB (n : Int) (l : List Int) : Bool := litsB n l && ascB 0 l
/-- .. looked at in one round -/
def clR (n : Int) : Int → List Int → Bool
  | _, [] => true
  | last, x :: l => (decide (-n ≤ x) && decide (x ≤ n) && decide (last < iabs x)) && clR n (iabs x) l
theorem iabs_nn (x : Int) : 0 ≤ iabs x := by unfold iabs; split <;> omega
theorem clR_eq (n : Int) : ∀ (l : List Int) (last : Int), 0 ≤ last → clR n last l = (litsB n l && ascB last l)
  | [], _, _ => rfl
  | x :: l, last, h => by
    have ih := clR_eq n l (iabs x) (iabs_nn x)
    show ((decide (-n ≤ x) && decide (x ≤ n) && decide (last < iabs x)) && clR n (iabs x) l) = (((decide (x ≠ 0) && (decide (-n ≤ x) && decide (x ≤ n))) && litsB n l) && (decide (last < iabs x) && ascB (iabs x) l))
    rw [ih]
    by_cases h0 : x = 0
    · subst h0
      have : decide (last < iabs 0) = false := by simp [iabs]; omega
      simp [this]
    · simp only [ne_eq, h0, not_false_eq_true, decide_true, Bool.true_and]
      cases decide (-n ≤ x) <;> cases decide (x ≤ n) <;> cases decide (last < iabs x) <;> cases litsB n l <;> simp
theorem cl_eq (n : Int) (l : List Int) : clR n 0 l = clB n l := clR_eq n l 0 (Int.le_refl _)
/-- whether a formula is one -/
def fmB (n : Int) (L : List (List Int)) : Bool := (decide (0 ≤ n) && decide (n ≤ 400) && decide (L.length ≤ 1600)) && L.all (clB n)
theorem all_at {α : Type} (p : α → Bool) (L : List α) (j : Nat) (h : j < L.length) : (L.drop j).all p = (p L[j] && (L.drop (j + 1)).all p) := by
  rw [List.drop_eq_getElem_cons h, List.all_cons]
theorem fm_lt {n : Int} {L : List (List Int)} (h : n < 0 ∨ 400 < n ∨ 1600 < L.length) : fmB n L = false := by
  unfold fmB
  rcases h with h | h | h
  · have : decide (0 ≤ n) = false := by simp; omega
    simp [this]
  · have : decide (n ≤ 400) = false := by simp; omega
    simp [this]
  · have : decide (L.length ≤ 1600) = false := by simp; omega
    simp [this]
theorem fm_in {n : Int} {L : List (List Int)} (h0 : 0 ≤ n) (h1 : n ≤ 400) (h2 : L.length ≤ 1600) : fmB n L = L.all (clB n) := by
  unfold fmB; simp [h0, h1, h2]
theorem fm_of {n : Int} {L : List (List Int)} (h : fmB n L = true) : 0 ≤ n ∧ n ≤ 400 ∧ L.length ≤ 1600 ∧ ∀ l ∈ L, clB n l = true := by
  unfold fmB at h
  simp only [Bool.and_eq_true, decide_eq_true_eq, List.all_eq_true] at h
  exact ⟨h.1.1.1, h.1.1.2, h.1.2, h.2⟩
theorem lits_of {n : Int} {l : List Int} (h : clB n l = true) : ∀ x ∈ l, x ≠ 0 ∧ -n ≤ x ∧ x ≤ n := by
  unfold clB litsB at h
  rw [Bool.and_eq_true, List.all_eq_true] at h
  intro x hx
  have := h.1 x hx
  unfold litB at this
  simpa using this
/-- whether a literal is true -/
def litT (m : List Bool) (x : Int) : Bool := (m[(iabs x - 1).toNat]?.getD false) == decide (0 < x)
/-- whether a list of truth values is a model -/
def mdB (L : List (List Int)) (m : List Bool) : Bool := L.all fun l => l.any (litT m)
def evB (n : Int) (L : List (List Int)) (m : List Bool) : Bool := fmB n L && decide ((m.length : Int) = n) && mdB L m
theorem any_at {α : Type} (p : α → Bool) (L : List α) (j : Nat) (h : j < L.length) : (L.drop j).any p = (p L[j] || (L.drop (j + 1)).any p) := by
  rw [List.drop_eq_getElem_cons h, List.any_cons]
end Go.Proofs.Ytimjkgciakbolab
