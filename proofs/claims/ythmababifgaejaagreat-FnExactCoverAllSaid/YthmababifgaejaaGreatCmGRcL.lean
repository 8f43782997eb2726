/- Ascending lists of ints: they are told by their elements; sorted and compacted lists are ascending. No condition. The model of CoverOf: the edges of a run in order, and how the specification puts them into an ascending list. No condition. -/
import Derived.Test.YthmababifgaejaaGreatCmGNxO
import Derived.Test.YthmababifgaejaaGreatCmGStM
namespace Go.Proofs.YthmababifgaejaaGreat
open Go.ChangeShapes Go.WideShapes Go.ChangeAt Go.RowKit
theorem asc_eq : ∀ (a b : List Int), a.Pairwise (· < ·) → b.Pairwise (· < ·) → (∀ x, x ∈ a ↔ x ∈ b) → a = b
  | [], [], _, _, _ => rfl
  | [], y :: ys, _, _, h => by have := (h y).2 (List.mem_cons_self); cases this
  | x :: xs, [], _, _, h => by have := (h x).1 (List.mem_cons_self); cases this
  | x :: xs, y :: ys, ha, hb, h => by
    rw [List.pairwise_cons] at ha hb
    have hxy : x = y := by
      rcases List.mem_cons.1 ((h x).1 List.mem_cons_self) with e | e
      · exact e
      · rcases List.mem_cons.1 ((h y).2 List.mem_cons_self) with e2 | e2
        · exact e2.symm
        · have h1 := hb.1 x e
          have h2 := ha.1 y e2
          omega
    subst hxy
    rw [asc_eq xs ys ha.2 hb.2 fun z => ⟨fun hz => ?_, fun hz => ?_⟩]
    · rcases List.mem_cons.1 ((h z).1 (List.mem_cons_of_mem _ hz)) with e | e
      · have := ha.1 z hz; omega
      · exact e
    · rcases List.mem_cons.1 ((h z).2 (List.mem_cons_of_mem _ hz)) with e | e
      · have := hb.1 z hz; omega
      · exact e
theorem sort_le (zs : List Int) : (sortI zs).Pairwise (· ≤ ·) := by
  have h := List.pairwise_mergeSort (le := fun x y : Int => decide (x ≤ y)) (fun a b c h1 h2 => by simp at *; omega) (fun a b => by simp; omega) zs
  exact h.imp fun h => by simpa using h
theorem sort_mem (zs : List Int) (x : Int) : x ∈ sortI zs ↔ x ∈ zs := List.mem_mergeSort
theorem sort_asc {zs : List Int} (h : zs.Nodup) : (sortI zs).Pairwise (· < ·) := by
  have h1 := sort_le zs
  have h2 : (sortI zs).Nodup := (List.mergeSort_perm zs _).nodup_iff.2 h
  exact (h1.and h2).imp fun ⟨a, b⟩ => by omega
theorem comp_le (d : Array Int) (hs : ∀ i j, i < j → j < d.size → d[i]! ≤ d[j]!) : ∀ m, m ≤ d.size →
    (Lib.compactUpTo d m).Pairwise (· < ·) ∧ ∀ x, x ∈ Lib.compactUpTo d m ↔ ∃ j, j < m ∧ d[j]! = x
  | 0, _ => by
    have h0 : Lib.compactUpTo d 0 = [] := rfl
    rw [h0]
    exact ⟨List.Pairwise.nil, fun x => ⟨fun h => by simp at h, fun ⟨j, hj, _⟩ => absurd hj (Nat.not_lt_zero _)⟩⟩
  | m + 1, hm => by
    obtain ⟨ih1, ih2⟩ := comp_le d hs m (by omega)
    rw [Lib.compactUpTo_succ]
    by_cases hk : Lib.keeps d m = true
    · rw [if_pos hk]
      have hk' : m = 0 ∨ d[m]! ≠ d[m - 1]! := by unfold Lib.keeps at hk; simpa using hk
      refine ⟨?_, fun x => ?_⟩
      · rw [List.pairwise_append]
        refine ⟨ih1, List.pairwise_singleton _ _, fun x hx y hy => ?_⟩
        rw [List.mem_singleton] at hy
        subst hy
        obtain ⟨j, hj, rfl⟩ := (ih2 x).1 hx
        rcases hk' with h | h
        · omega
        · have h2 := hs (m - 1) m (by omega) (by omega)
          by_cases hjm : j = m - 1
          · subst hjm; omega
          · have h1 := hs j (m - 1) (by omega) (by omega)
            omega
      · rw [List.mem_append, ih2, List.mem_singleton]
        constructor
        · rintro (⟨j, hj, rfl⟩ | rfl)
          · exact ⟨j, by omega, rfl⟩
          · exact ⟨m, by omega, rfl⟩
        · rintro ⟨j, hj, rfl⟩
          by_cases h : j = m
          · subst h; exact .inr rfl
          · exact .inl ⟨j, by omega, rfl⟩
    · rw [if_neg hk, List.append_nil]
      have hk' : ¬ (m = 0 ∨ d[m]! ≠ d[m - 1]!) := by unfold Lib.keeps at hk; simpa using hk
      refine ⟨ih1, fun x => (ih2 x).trans ⟨?_, ?_⟩⟩
      · rintro ⟨j, hj, rfl⟩; exact ⟨j, by omega, rfl⟩
      · rintro ⟨j, hj, rfl⟩
        by_cases h : j = m
        · subst h
          refine ⟨j - 1, by omega, ?_⟩
          by_cases e : d[j]! = d[j - 1]!
          · exact e.symm
          · exact absurd (.inr e) hk'
        · exact ⟨j, by omega, rfl⟩
theorem comp_sort (zs : List Int) : (Lib.compact (sortI zs)).Pairwise (· < ·) ∧ ∀ x, x ∈ Lib.compact (sortI zs) ↔ x ∈ zs := by
  have hp := List.pairwise_iff_getElem.1 (sort_le zs)
  have hd : ∀ i (h : i < (sortI zs).length), (sortI zs).toArray[i]! = (sortI zs)[i] := fun i h => by simp [h]
  obtain ⟨h1, h2⟩ := comp_le (sortI zs).toArray (fun i j hij hj => by
    have hj' : j < (sortI zs).length := by simpa using hj
    rw [hd i (by omega), hd j hj']
    exact hp i j (by omega) hj' hij) (sortI zs).length (by simp)
  refine ⟨h1, fun x => (h2 x).trans ?_⟩
  rw [← sort_mem zs x]
  constructor
  · rintro ⟨j, hj, rfl⟩
    rw [hd j hj]
    exact List.getElem_mem hj
  · intro hx
    obtain ⟨j, hj, rfl⟩ := List.getElem_of_mem hx
    exact ⟨j, hj, hd j hj⟩
theorem nodup_len : ∀ (m : Nat) (R : List Int), R.Nodup → (∀ x ∈ R, 0 ≤ x ∧ x < m) → R.length ≤ m
  | 0, R, _, h => by
    cases R with
    | nil => exact Nat.le_refl _
    | cons x xs => have := h x List.mem_cons_self; omega
  | m + 1, R, hd, h => by
    have h1 := nodup_len m (R.erase (m : Int)) (hd.erase _) fun x hx => by
      have := (hd.mem_erase_iff).1 hx
      have h2 := h x this.2
      omega
    rw [List.length_erase] at h1
    split at h1 <;> omega
/-- the numbers below n of which p holds, ascending -/
noncomputable def ascP (p : Nat → Prop) (n : Nat) : List Int := ((List.range n).filter fun x => @decide (p x) (Classical.propDecidable _)).map fun x : Nat => (x : Int)
theorem ascP_mem (p : Nat → Prop) (n : Nat) (x : Int) : x ∈ ascP p n ↔ ∃ k : Nat, x = k ∧ k < n ∧ p k := by
  unfold ascP
  simp only [List.mem_map, List.mem_filter, List.mem_range, decide_eq_true_eq]
  constructor
  · rintro ⟨k, ⟨h1, h2⟩, rfl⟩; exact ⟨k, rfl, h1, h2⟩
  · rintro ⟨k, rfl, h1, h2⟩; exact ⟨k, ⟨h1, h2⟩, rfl⟩
theorem ascP_asc (p : Nat → Prop) (n : Nat) : (ascP p n).Pairwise (· < ·) := by
  unfold ascP
  rw [List.pairwise_map]
  exact (List.pairwise_lt_range.filter _).imp fun h => by omega
theorem ascP_zero (p : Nat → Prop) : ascP p 0 = [] := by simp [ascP]
theorem ascP_yes {p : Nat → Prop} {n : Nat} (h : p n) : ascP p (n + 1) = ascP p n ++ [(n : Int)] := by
  unfold ascP
  rw [List.range_succ, List.filter_append, List.map_append]
  simp [h]
theorem ascP_no {p : Nat → Prop} {n : Nat} (h : ¬ p n) : ascP p (n + 1) = ascP p n := by
  unfold ascP
  rw [List.range_succ, List.filter_append, List.map_append]
  simp [h]
theorem ascP_len (p : Nat → Prop) (n : Nat) : (ascP p n).length ≤ n := by
  unfold ascP
  rw [List.length_map]
  exact Nat.le_trans (List.length_filter_le _ _) (by simp)
theorem ascP_congr {p q : Nat → Prop} (h : ∀ x, p x ↔ q x) (n : Nat) : ascP p n = ascP q n := by
  rw [show p = q from funext fun x => propext (h x)]
/-- an ascending list with the elements of another one, sorted -/
theorem ascP_sort {p : Nat → Prop} {n : Nat} {R : List Int} (hd : R.Nodup) (h : ∀ x : Int, x ∈ R ↔ ∃ k : Nat, x = k ∧ k < n ∧ p k) : sortI R = ascP p n :=
  asc_eq _ _ (sort_asc hd) (ascP_asc p n) fun x => by rw [sort_mem, ascP_mem, h]
theorem ascP_comp {p : Nat → Prop} {n : Nat} {R : List Int} (h : ∀ x : Int, x ∈ R ↔ ∃ k : Nat, x = k ∧ k < n ∧ p k) : Lib.compact (sortI R) = ascP p n :=
  asc_eq _ _ (comp_sort R).1 (ascP_asc p n) fun x => by rw [(comp_sort R).2, ascP_mem, h]
end Go.Proofs.YthmababifgaejaaGreat
namespace Go.Proofs.YthmababifgaejaaGreat
open Go.ChangeShapes Go.WideShapes Go.ChangeAt Go.RowKit
/-- the instruction at the place of a state -/
def insV (L : List InsR) (x : StR) : InsR := L.getD x.pc.toNat ⟨0, 0, 0, 0⟩
/-- the edge that a state takes at a branch -/
def edV (L : List InsR) (x : StR) : Int := 2 * x.pc + (if atI x.R (insV L x).f1 = 0 then 1 else 0)
/-- the edges of so many steps, in their order -/
def cvN (vw vm vi : Int) (L : List InsR) (I : List Int) : Nat → List Int
  | 0 => []
  | n + 1 => if begunB L.length (stN vw vm vi L I n) = true ∧ (insV L (stN vw vm vi L I n)).f0 = 10 then cvN vw vm vi L I n ++ [edV L (stN vw vm vi L I n)] else cvN vw vm vi L I n
def ceV (vw vm vi : Int) (L : List InsR) (I : List Int) (f : Int) : List Int := if rnB vw vm vi L I f = true then cvN vw vm vi L I f.toNat else []
def cvV (vw vm vi : Int) (L : List InsR) (I : List Int) (f : Int) : List Int := Lib.compact (sortI (ceV vw vm vi L I f))
/-- a number is put into a list behind the smaller ones that it begins with -/
def insI : List Int → Int → List Int
  | [], x => [x]
  | a :: l, x => if a < x then a :: insI l x else if a = x then a :: l else x :: a :: l
theorem insI_at : ∀ (l : List Int) (x : Int) (k : Nat), k ≤ l.length → (∀ (i : Nat) (h : i < l.length), i < k → l[i] < x) → (∀ h : k < l.length, ¬ l[k] < x) → insI l x = if l[k]? = some x then l else l.take k ++ [x] ++ l.drop k
  | [], x, k, hk, _, _ => by
    have h0 : k = 0 := by simpa using hk
    subst h0
    simp [insI]
  | a :: l, x, 0, _, _, h2 => by
    have h := h2 (by simp)
    simp only [List.getElem_cons_zero] at h
    unfold insI
    rw [if_neg h]
    by_cases e : a = x
    · simp [e]
    · simp [e]
  | a :: l, x, k + 1, hk, h1, h2 => by
    have h := h1 0 (by simp) (by omega)
    simp only [List.getElem_cons_zero] at h
    unfold insI
    rw [if_pos h, insI_at l x k (by simpa using hk) (fun i hi hik => by
      have := h1 (i + 1) (by simp; omega) (by omega)
      simpa using this) (fun hkl => by
      have := h2 (by simp; omega)
      simpa using this)]
    simp only [List.getElem?_cons_succ, List.take_succ_cons, List.drop_succ_cons]
    split
    · rfl
    · simp
theorem insI_mem : ∀ (l : List Int) (x y : Int), y ∈ insI l x ↔ y ∈ l ∨ y = x
  | [], x, y => by simp [insI]
  | a :: l, x, y => by
    unfold insI
    split
    · rw [List.mem_cons, insI_mem l x y, List.mem_cons, or_assoc]
    · split
      · rename_i h
        subst h
        rw [List.mem_cons]
        constructor
        · exact .inl
        · rintro (h | h)
          · exact h
          · exact .inl h
      · rw [List.mem_cons]
        constructor
        · rintro (h | h)
          · exact .inr h
          · exact .inl h
        · rintro (h | h)
          · exact .inr h
          · exact .inl h
theorem insI_asc : ∀ (l : List Int) (x : Int), l.Pairwise (· < ·) → (insI l x).Pairwise (· < ·)
  | [], x, _ => by simp [insI]
  | a :: l, x, h => by
    have h9 := h
    rw [List.pairwise_cons] at h
    unfold insI
    split
    · rename_i hax
      rw [List.pairwise_cons]
      refine ⟨fun y hy => ?_, insI_asc l x h.2⟩
      rcases (insI_mem l x y).1 hy with e | e
      · exact h.1 y e
      · rw [e]; exact hax
    · split
      · exact h9
      · rename_i h1 h2
        rw [List.pairwise_cons]
        refine ⟨fun y hy => ?_, h9⟩
        rcases List.mem_cons.1 hy with e | e
        · omega
        · have := h.1 y e; omega
theorem insI_len (l : List Int) (x : Int) : (insI l x).length ≤ l.length + 1 := by
  induction l with
  | nil => simp [insI]
  | cons a l ih =>
    unfold insI
    split
    · simp; omega
    · split
      · simp
      · simp
/-- several numbers, one after the other -/
def insL (l : List Int) (es : List Int) : List Int := es.foldl insI l
theorem insL_put (l es : List Int) (x : Int) : insL l (es ++ [x]) = insI (insL l es) x := by simp [insL]
theorem insL_mem : ∀ (es l : List Int) (y : Int), y ∈ insL l es ↔ y ∈ l ∨ y ∈ es
  | [], l, y => by simp [insL]
  | e :: es, l, y => by
    show y ∈ insL (insI l e) es ↔ _
    rw [insL_mem es, insI_mem, List.mem_cons, or_assoc]
theorem insL_asc : ∀ (es l : List Int), l.Pairwise (· < ·) → (insL l es).Pairwise (· < ·)
  | [], _l, h => h
  | e :: es, l, h => insL_asc es (insI l e) (insI_asc l e h)
theorem insL_len : ∀ (es l : List Int), (insL l es).length ≤ l.length + es.length
  | [], l => by simp [insL]
  | e :: es, l => by
    have h1 := insL_len es (insI l e)
    have h2 := insI_len l e
    show (insL (insI l e) es).length ≤ _
    simp only [List.length_cons]
    omega
/-- put into nothing: the sorted list, each number once -/
theorem insL_comp (es : List Int) : insL [] es = Lib.compact (sortI es) :=
  asc_eq _ _ (insL_asc es [] List.Pairwise.nil) (comp_sort es).1 fun x => by rw [insL_mem, (comp_sort es).2]; simp
section
variable {vw vm vi : Int} {L : List InsR} {I : List Int}
theorem cvN_yes {n : Nat} {x : StR} (hx : stN vw vm vi L I n = x) (h : begunB L.length x = true) (h2 : (insV L x).f0 = 10) : cvN vw vm vi L I (n + 1) = cvN vw vm vi L I n ++ [edV L x] := by
  subst hx
  show (if _ ∧ _ then _ else _) = _
  rw [if_pos ⟨h, h2⟩]
theorem cvN_no {n : Nat} {x : StR} (hx : stN vw vm vi L I n = x) (h : ¬ (begunB L.length x = true ∧ (insV L x).f0 = 10)) : cvN vw vm vi L I (n + 1) = cvN vw vm vi L I n := by
  subst hx
  show (if _ ∧ _ then _ else _) = _
  rw [if_neg h]
theorem cvN_len : ∀ n, (cvN vw vm vi L I n).length ≤ n
  | 0 => Nat.le_refl _
  | n + 1 => by
    have := cvN_len n
    show (if _ ∧ _ then _ else _ : List Int).length ≤ n + 1
    split
    · rw [List.length_append]; simp only [List.length_singleton]; omega
    · omega
theorem ceV_len (vw vm vi : Int) (L : List InsR) (I : List Int) (f : Int) : (ceV vw vm vi L I f).length ≤ 400 := by
  unfold ceV
  split
  · rename_i h
    unfold rnB at h
    simp only [Bool.and_eq_true, decide_eq_true_eq] at h
    have := cvN_len (vw := vw) (vm := vm) (vi := vi) (L := L) (I := I) f.toNat
    omega
  · simp
theorem cvV_len (vw vm vi : Int) (L : List InsR) (I : List Int) (f : Int) : (cvV vw vm vi L I f).length ≤ 400 := by
  have h1 := ceV_len vw vm vi L I f
  have h2 := insL_len (ceV vw vm vi L I f) []
  rw [insL_comp] at h2
  unfold cvV
  simp only [List.length_nil] at h2
  omega
/-- behind a state that has ended, or that stands at the end, no edge is taken -/
theorem cvN_stop {n : Nat} (h : (stN vw vm vi L I n).cd ≠ 0 ∨ (stN vw vm vi L I n).pc = L.length) : ∀ m, cvN vw vm vi L I (n + m) = cvN vw vm vi L I n ∧ ((stN vw vm vi L I (n + m)).cd ≠ 0 ∨ (stN vw vm vi L I (n + m)).pc = L.length)
  | 0 => ⟨rfl, h⟩
  | m + 1 => by
    obtain ⟨h1, h2⟩ := cvN_stop h m
    have e : n + (m + 1) = (n + m) + 1 := rfl
    rw [e]
    obtain ⟨x, hx⟩ : ∃ x, stN vw vm vi L I (n + m) = x := ⟨_, rfl⟩
    rw [hx] at h2
    have hs : stN vw vm vi L I (n + m + 1) = stepV vw vm vi L I x := by show stepV vw vm vi L I (stN vw vm vi L I (n + m)) = _; rw [hx]
    refine ⟨?_, ?_⟩
    · rw [cvN_no hx (fun g => ?_), h1]
      have hb : x.cd = 0 ∧ ¬ x.st = 400 ∧ ¬ x.pc = (L.length : Int) := of_decide_eq_true g.1
      rcases h2 with h2 | h2
      · exact h2 hb.1
      · exact hb.2.2 h2
    · rw [hs]
      unfold stepV
      split
      · exact h2
      · rename_i h3
        rcases h2 with h2 | h2
        · exact absurd (.inl h2) h3
        · rw [if_pos h2]; exact .inr h2
end
end Go.Proofs.YthmababifgaejaaGreat
