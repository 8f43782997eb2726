/- Ascending lists of ints: they are told by their elements; sorted and compacted lists are ascending. No condition. -/
import Derived.Test.YtnhagmjknfiphabNxM
namespace Go.Proofs.Ytnhagmjknfiphab
open Go.ChangeShapes Go.WideShapes Go.ChangeAt Go.RowKit
theorem asc_eq : ∀ (a b : List Int), a.Pairwise (· < ·) → b.Pairwise (· < ·) → (∀ x, x ∈ a ↔ x ∈ b) → a = b
  | [], [], _, _, _ => rfl
  | [], y :: ys, _, _, h => by have := (h y).2 (List.mem_cons_self); cases this
  | x :: xs, [], _, _, h => by have := (h x).1 (List.mem_cons_self); cases this
  | x :: xs, y :: ys, ha, hb, h => by
    rw [List.pairwise_cons] at ha hb
    have hxy : x = y := by
      rcases List.mem_cons.1 ((h x).1 List.mem_cons_self) with e | e
      · exact e
      · rcases List.mem_cons.1 ((h y).2 List.mem_cons_self) with e2 | e2
        · exact e2.symm
        · have h1 := hb.1 x e
          have h2 := ha.1 y e2
          omega
    subst hxy
    rw [asc_eq xs ys ha.2 hb.2 fun z => ⟨fun hz => ?_, fun hz => ?_⟩]
    · rcases List.mem_cons.1 ((h z).1 (List.mem_cons_of_mem _ hz)) with e | e
      · have := ha.1 z hz; omega
      · exact e
    · rcases List.mem_cons.1 ((h z).2 (List.mem_cons_of_mem _ hz)) with e | e
      · have := hb.1 z hz; omega
      · exact e
theorem sort_le (zs : List Int) : (sortI zs).Pairwise (· ≤ ·) := by
  have h := List.pairwise_mergeSort (le := fun x y : Int => decide (x ≤ y)) (fun a b c h1 h2 => by simp at *; omega) (fun a b => by simp; omega) zs
  exact h.imp fun h => by simpa using h
theorem sort_mem (zs : List Int) (x : Int) : x ∈ sortI zs ↔ x ∈ zs := List.mem_mergeSort
theorem sort_asc {zs : List Int} (h : zs.Nodup) : (sortI zs).Pairwise (· < ·) := by
  have h1 := sort_le zs
  have h2 : (sortI zs).Nodup := (List.mergeSort_perm zs _).nodup_iff.2 h
  exact (h1.and h2).imp fun ⟨a, b⟩ => by omega
theorem comp_le (d : Array Int) (hs : ∀ i j, i < j → j < d.size → d[i]! ≤ d[j]!) : ∀ m, m ≤ d.size →
    (Lib.compactUpTo d m).Pairwise (· < ·) ∧ ∀ x, x ∈ Lib.compactUpTo d m ↔ ∃ j, j < m ∧ d[j]! = x
  | 0, _ => by
    have h0 : Lib.compactUpTo d 0 = [] := rfl
    rw [h0]
    exact ⟨List.Pairwise.nil, fun x => ⟨fun h => by simp at h, fun ⟨j, hj, _⟩ => absurd hj (Nat.not_lt_zero _)⟩⟩
  | m + 1, hm => by
    obtain ⟨ih1, ih2⟩ := comp_le d hs m (by omega)
    rw [Lib.compactUpTo_succ]
    by_cases hk : Lib.keeps d m = true
    · rw [if_pos hk]
      have hk' : m = 0 ∨ d[m]! ≠ d[m - 1]! := by unfold Lib.keeps at hk; simpa using hk
      refine ⟨?_, fun x => ?_⟩
      · rw [List.pairwise_append]
        refine ⟨ih1, List.pairwise_singleton _ _, fun x hx y hy => ?_⟩
        rw [List.mem_singleton] at hy
        subst hy
        obtain ⟨j, hj, rfl⟩ := (ih2 x).1 hx
        rcases hk' with h | h
        · omega
        · have h2 := hs (m - 1) m (by omega) (by omega)
          by_cases hjm : j = m - 1
          · subst hjm; omega
          · have h1 := hs j (m - 1) (by omega) (by omega)
            omega
      · rw [List.mem_append, ih2, List.mem_singleton]
        constructor
        · rintro (⟨j, hj, rfl⟩ | rfl)
          · exact ⟨j, by omega, rfl⟩
          · exact ⟨m, by omega, rfl⟩
        · rintro ⟨j, hj, rfl⟩
          by_cases h : j = m
          · subst h; exact .inr rfl
          · exact .inl ⟨j, by omega, rfl⟩
    · rw [if_neg hk, List.append_nil]
      have hk' : ¬ (m = 0 ∨ d[m]! ≠ d[m - 1]!) := by unfold Lib.keeps at hk; simpa using hk
      refine ⟨ih1, fun x => (ih2 x).trans ⟨?_, ?_⟩⟩
      · rintro ⟨j, hj, rfl⟩; exact ⟨j, by omega, rfl⟩
      · rintro ⟨j, hj, rfl⟩
        by_cases h : j = m
        · subst h
          refine ⟨j - 1, by omega, ?_⟩
          by_cases e : d[j]! = d[j - 1]!
          · exact e.symm
          · exact absurd (.inr e) hk'
        · exact ⟨j, by omega, rfl⟩
theorem comp_sort (zs : List Int) : (Lib.compact (sortI zs)).Pairwise (· < ·) ∧ ∀ x, x ∈ Lib.compact (sortI zs) ↔ x ∈ zs := by
  have hp := List.pairwise_iff_getElem.1 (sort_le zs)
  have hd : ∀ i (h : i < (sortI zs).length), (sortI zs).toArray[i]! = (sortI zs)[i] := fun i h => by simp [h]
  obtain ⟨h1, h2⟩ := comp_le (sortI zs).toArray (fun i j hij hj => by
    have hj' : j < (sortI zs).length := by simpa using hj
    rw [hd i (by omega), hd j hj']
    exact hp i j (by omega) hj' hij) (sortI zs).length (by simp)
  refine ⟨h1, fun x => (h2 x).trans ?_⟩
  rw [← sort_mem zs x]
  constructor
  · rintro ⟨j, hj, rfl⟩
    rw [hd j hj]
    exact List.getElem_mem hj
  · intro hx
    obtain ⟨j, hj, rfl⟩ := List.getElem_of_mem hx
    exact ⟨j, hj, hd j hj⟩
theorem nodup_len : ∀ (m : Nat) (R : List Int), R.Nodup → (∀ x ∈ R, 0 ≤ x ∧ x < m) → R.length ≤ m
  | 0, R, _, h => by
    cases R with
    | nil => exact Nat.le_refl _
    | cons x xs => have := h x List.mem_cons_self; omega
  | m + 1, R, hd, h => by
    have h1 := nodup_len m (R.erase (m : Int)) (hd.erase _) fun x hx => by
      have := (hd.mem_erase_iff).1 hx
      have h2 := h x this.2
      omega
    rw [List.length_erase] at h1
    split at h1 <;> omega
/-- the numbers below n of which p holds, ascending -/
noncomputable def ascP (p : Nat → Prop) (n : Nat) : List Int := ((List.range n).filter fun x => @decide (p x) (Classical.propDecidable _)).map fun x : Nat => (x : Int)
theorem ascP_mem (p : Nat → Prop) (n : Nat) (x : Int) : x ∈ ascP p n ↔ ∃ k : Nat, x = k ∧ k < n ∧ p k := by
  unfold ascP
  simp only [List.mem_map, List.mem_filter, List.mem_range, decide_eq_true_eq]
  constructor
  · rintro ⟨k, ⟨h1, h2⟩, rfl⟩; exact ⟨k, rfl, h1, h2⟩
  · rintro ⟨k, rfl, h1, h2⟩; exact ⟨k, ⟨h1, h2⟩, rfl⟩
theorem ascP_asc (p : Nat → Prop) (n : Nat) : (ascP p n).Pairwise (· < ·) := by
  unfold ascP
  rw [List.pairwise_map]
  exact (List.pairwise_lt_range.filter _).imp fun h => by omega
theorem ascP_zero (p : Nat → Prop) : ascP p 0 = [] := by simp [ascP]
theorem ascP_yes {p : Nat → Prop} {n : Nat} (h : p n) : ascP p (n + 1) = ascP p n ++ [(n : Int)] := by
  unfold ascP
  rw [List.range_succ, List.filter_append, List.map_append]
  simp [h]
theorem ascP_no {p : Nat → Prop} {n : Nat} (h : ¬ p n) : ascP p (n + 1) = ascP p n := by
  unfold ascP
  rw [List.range_succ, List.filter_append, List.map_append]
  simp [h]
theorem ascP_len (p : Nat → Prop) (n : Nat) : (ascP p n).length ≤ n := by
  unfold ascP
  rw [List.length_map]
  exact Nat.le_trans (List.length_filter_le _ _) (by simp)
theorem ascP_congr {p q : Nat → Prop} (h : ∀ x, p x ↔ q x) (n : Nat) : ascP p n = ascP q n := by
  rw [show p = q from funext fun x => propext (h x)]
/-- an ascending list with the elements of another one, sorted -/
theorem ascP_sort {p : Nat → Prop} {n : Nat} {R : List Int} (hd : R.Nodup) (h : ∀ x : Int, x ∈ R ↔ ∃ k : Nat, x = k ∧ k < n ∧ p k) : sortI R = ascP p n :=
  asc_eq _ _ (sort_asc hd) (ascP_asc p n) fun x => by rw [sort_mem, ascP_mem, h]
theorem ascP_comp {p : Nat → Prop} {n : Nat} {R : List Int} (h : ∀ x : Int, x ∈ R ↔ ∃ k : Nat, x = k ∧ k < n ∧ p k) : Lib.compact (sortI R) = ascP p n :=
  asc_eq _ _ (comp_sort R).1 (ascP_asc p n) fun x => by rw [(comp_sort R).2, ascP_mem, h]
end Go.Proofs.Ytnhagmjknfiphab
