/- What Resolve makes of two clauses. No condition. -/
import Derived.Test.YtkoeegeplginkaaMcS
namespace Go.Proofs.Ytkoeegeplginkaa
open Go.ChangeShapes Go.WideShapes Go.RowKit
/-- the clauses without the variable, one behind the other -/
def rsList (a b : List Int) (v : Int) : List Int := a.filter (fun x => x != v) ++ b.filter (fun x => x != -v)
/-- whether two clauses can be resolved -/
def rsIn (a b : List Int) (v : Int) : Bool := clB 400 a && (clB 400 b && (decide (1 ≤ v) && (decide (v ∈ a) && decide (-v ∈ b))))
def rsV (a b : List Int) (v : Int) : Option (List Int) := if rsIn a b v = true then mcV (rsList a b v) else none
def rsL (a b : List Int) (v : Int) : List Int := (rsV a b v).getD []
theorem rsList_len (a b : List Int) (v : Int) : (rsList a b v).length ≤ a.length + b.length := by
  unfold rsList
  rw [List.length_append]
  have := List.length_filter_le (fun x => x != v) a
  have := List.length_filter_le (fun x => x != -v) b
  omega
theorem rsL_len (a b : List Int) (v : Int) : (rsL a b v).length ≤ a.length + b.length := by
  unfold rsL rsV
  split
  · have h1 := mcL_len (rsList a b v)
    have h2 := rsList_len a b v
    unfold mcL at h1
    omega
  · simp
theorem rs_no {a b : List Int} {v : Int} (h : clB 400 a = false ∨ clB 400 b = false ∨ v < 1 ∨ v ∉ a ∨ -v ∉ b) : rsV a b v = none := by
  unfold rsV
  rw [if_neg]
  unfold rsIn
  rcases h with h | h | h | h | h
  · simp [h]
  · simp [h]
  · have : ¬ 1 ≤ v := by omega
    simp [this]
  · simp [h]
  · simp [h]
theorem rs_yes {a b : List Int} {v : Int} (h1 : clB 400 a = true) (h2 : clB 400 b = true) (h3 : 1 ≤ v) (h4 : v ∈ a) (h5 : -v ∈ b) : rsV a b v = mcV (rsList a b v) := by
  unfold rsV
  rw [if_pos]
  unfold rsIn
  simp [h1, h2, h3, h4, h5]
/-- in a clause a literal stands once -/
theorem filter_out {a : List Int} (h : clB 400 a = true) (i : Nat) (hi : i < a.length) : a.filter (fun x => x != a[i]) = a.take i ++ a.drop (i + 1) := by
  have hp : a.Pairwise (fun x y => iabs x < iabs y) := by
    unfold clB at h
    rw [Bool.and_eq_true] at h
    exact ((asc_iff a 0).1 h.2).2
  have e : a = a.take i ++ a[i] :: a.drop (i + 1) := by rw [← List.drop_eq_getElem_cons hi, List.take_append_drop]
  have hne : ∀ j, (hj : j < a.length) → j ≠ i → a[j] ≠ a[i] := by
    intro j hj hji he
    rcases Nat.lt_or_ge j i with hlt | hge
    · have := List.pairwise_iff_getElem.1 hp j i hj hi hlt; rw [he] at this; omega
    · have := List.pairwise_iff_getElem.1 hp i j hi hj (by omega); rw [he] at this; omega
  have h1 : (a.take i).filter (fun x => x != a[i]) = a.take i := by
    rw [List.filter_eq_self]
    intro x hx
    obtain ⟨j, hj, rfl⟩ := List.getElem_of_mem hx
    rw [List.length_take] at hj
    rw [List.getElem_take]
    simpa using hne j (by omega) (by omega)
  have h2 : (a.drop (i + 1)).filter (fun x => x != a[i]) = a.drop (i + 1) := by
    rw [List.filter_eq_self]
    intro x hx
    obtain ⟨j, hj, rfl⟩ := List.getElem_of_mem hx
    rw [List.length_drop] at hj
    rw [List.getElem_drop]
    simpa using hne (i + 1 + j) (by omega) (by omega)
  generalize a[i] = v at *
  conv => lhs; rw [e]
  rw [List.filter_append, List.filter_cons, if_neg (by simp), h1, h2]
theorem asc_len (n : Int) : ∀ (l : List Int) (last : Int), last ≤ n → (∀ x ∈ l, iabs x ≤ n) → ascB last l = true → last + l.length ≤ n
  | [], last, h, _, _ => by simpa using h
  | x :: l, last, h, hm, ha => by
    have ha' : (decide (last < iabs x) && ascB (iabs x) l) = true := ha
    rw [Bool.and_eq_true, decide_eq_true_eq] at ha'
    have := asc_len n l (iabs x) (hm x (List.mem_cons_self ..)) (fun y hy => hm y (List.mem_cons_of_mem _ hy)) ha'.2
    simp only [List.length_cons]; omega
theorem cl_len {l : List Int} (h : clB 400 l = true) : l.length ≤ 400 := by
  have hl := lits_of h
  unfold clB at h
  rw [Bool.and_eq_true] at h
  have := asc_len 400 l 0 (by omega) (fun x hx => by have := hl x hx; unfold iabs; split <;> omega) h.2
  omega
theorem filter_take {p : Int → Bool} {a : List Int} (j : Nat) (hj : j < a.length) : (a.take (j + 1)).filter p = (a.take j).filter p ++ (if p a[j] then [a[j]] else []) := by
  rw [List.take_add_one, List.getElem?_eq_getElem hj, List.filter_append]
  simp [List.filter_cons]
end Go.Proofs.Ytkoeegeplginkaa
