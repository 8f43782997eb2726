/- The model of ReachedOf: the places that are reached. No condition. -/
import Derived.Test.YtnhagmjknfiphabRcL
namespace Go.Proofs.Ytnhagmjknfiphab
open Go.ChangeShapes Go.WideShapes Go.ChangeAt Go.RowKit
/-- a place that is reached from 0 -/
def Rch (vw vm vi : Int) (L : List InsR) (x : Nat) : Prop := ∀ C : Nat → Prop, C 0 → (∀ a b : Nat, C a → (b : Int) ∈ nxL vw vm vi L a → C b) → C x
theorem rch_zero {vw vm vi : Int} {L : List InsR} : Rch vw vm vi L 0 := fun _ h _ => h
theorem rch_next {vw vm vi : Int} {L : List InsR} {a b : Nat} (h : Rch vw vm vi L a) (hb : (b : Int) ∈ nxL vw vm vi L a) : Rch vw vm vi L b := fun C h0 hC => hC a b (h C h0 hC) hb
noncomputable def rcV (vw vm vi : Int) (L : List InsR) : List Int := if prB vw vm vi L = true then ascP (Rch vw vm vi L) (L.length + 1) else []
theorem rcV_len (vw vm vi : Int) (L : List InsR) : (rcV vw vm vi L).length ≤ 41 := by
  unfold rcV
  split
  · rename_i h
    obtain ⟨⟨-, -, -, -, -, -, -, -, h40⟩, -⟩ := pr_in h
    have := ascP_len (Rch vw vm vi L) (L.length + 1)
    omega
  · simp
theorem ins_place {r : InsR} {w size : Int} (h : insB r w size = true) (ho : r.f0 = 9 ∨ r.f0 = 10 ∨ r.f0 = 11) : 0 ≤ r.f2 ∧ r.f2 ≤ size := by
  rw [ins_in (by omega) (by omega)] at h
  simp only [Bool.and_eq_true] at h
  obtain ⟨-, h, -⟩ := h
  have hb : fB r.f0 = 3 := by unfold fB; rcases ho with h | h | h <;> simp [h]
  rw [hb, opB_place] at h
  simpa using h
theorem nx_place {vw vm vi : Int} {L : List InsR} {pc x : Int} (h : x ∈ nxL vw vm vi L pc) : 0 ≤ x ∧ x ≤ L.length := by
  unfold nxL at h
  split at h
  · rename_i hc
    obtain ⟨hp, h0, h1⟩ := hc
    have hk : pc.toNat < L.length := by omega
    have hin := (pr_in hp).2 pc.toNat hk
    rw [List.getD_eq_getElem?_getD, List.getElem?_eq_getElem hk, Option.getD_some] at h
    obtain ⟨r, hr⟩ : ∃ r, L[pc.toNat] = r := ⟨_, rfl⟩
    rw [hr] at h hin
    unfold nxR at h
    split at h
    · rename_i h9
      rw [List.mem_singleton] at h
      subst h
      exact ins_place hin (.inl h9)
    · split at h
      · cases h
      · split at h
        · rename_i h10
          have hpl := ins_place hin (.inr h10)
          split at h
          · simp only [List.mem_cons, List.not_mem_nil, or_false] at h
            rcases h with rfl | rfl
            · exact hpl
            · omega
          · split at h
            · simp only [List.mem_cons, List.not_mem_nil, or_false] at h
              rcases h with rfl | rfl
              · omega
              · exact hpl
            · simp only [List.mem_cons, List.not_mem_nil, or_false] at h
              omega
        · simp only [List.mem_cons, List.not_mem_nil, or_false] at h
          omega
  · cases h
/-- the specification's loop: places seen, places to be looked at -/
def RcS (vw vm vi : Int) (L : List InsR) (S : List Bool) (W : List Int) : Prop :=
  S.length = L.length + 1 ∧ (∀ x ∈ W, 0 ≤ x ∧ x ≤ L.length ∧ Rch vw vm vi L x.toNat) ∧ (∀ a, S.getD a false = true → Rch vw vm vi L a) ∧ ((0 : Int) ∈ W ∨ S.getD 0 false = true) ∧
    ∀ a b : Nat, S.getD a false = true → (b : Int) ∈ nxL vw vm vi L a → (b : Int) ∈ W ∨ S.getD b false = true
def rcm (S : List Bool) (W : List Int) : Nat := 3 * S.count false + W.length
theorem rcs_start (vw vm vi : Int) (L : List InsR) : RcS vw vm vi L (List.replicate (L.length + 1) false) [0] := by
  have hf : ∀ a, (List.replicate (L.length + 1) false).getD a false = false := fun a => by
    rw [List.getD_eq_getElem?_getD, List.getElem?_replicate]
    split <;> rfl
  refine ⟨by simp, fun x hx => ?_, fun a ha => ?_, .inl List.mem_cons_self, fun a b ha => ?_⟩
  · rw [List.mem_singleton] at hx; subst hx; exact ⟨by omega, by omega, rch_zero⟩
  · rw [hf] at ha; cases ha
  · rw [hf] at ha; cases ha
theorem rcs_old {vw vm vi : Int} {L : List InsR} {S : List Bool} {W : List Int} {j : Nat} (h : RcS vw vm vi L S ((j : Int) :: W)) (hj : S.getD j false = true) : RcS vw vm vi L S W := by
  obtain ⟨h1, h2, h3, h4, h5⟩ := h
  refine ⟨h1, fun x hx => h2 x (List.mem_cons_of_mem _ hx), h3, ?_, fun a b ha hb => ?_⟩
  · rcases h4 with h4 | h4
    · rcases List.mem_cons.1 h4 with e | e
      · have : j = 0 := by omega
        subst this; exact .inr hj
      · exact .inl e
    · exact .inr h4
  · rcases h5 a b ha hb with h | h
    · rcases List.mem_cons.1 h with e | e
      · have : b = j := by omega
        subst this; exact .inr hj
      · exact .inl e
    · exact .inr h
theorem getD_set {S : List Bool} {j a : Nat} (hj : j < S.length) : (S.set j true).getD a false = if a = j then true else S.getD a false := by
  rw [List.getD_eq_getElem?_getD, List.getD_eq_getElem?_getD, List.getElem?_set]
  by_cases h : a = j
  · subst h; simp [hj]
  · rw [if_neg (fun e => h e.symm), if_neg h]
theorem rcs_new {vw vm vi : Int} {L : List InsR} {S : List Bool} {W : List Int} {j : Nat} (h : RcS vw vm vi L S ((j : Int) :: W)) : RcS vw vm vi L (S.set j true) (W ++ nxL vw vm vi L j) := by
  obtain ⟨h1, h2, h3, h4, h5⟩ := h
  have hj := h2 j List.mem_cons_self
  have hjl : j < S.length := by omega
  have hr : Rch vw vm vi L j := by simpa using hj.2.2
  refine ⟨by simpa using h1, fun x hx => ?_, fun a ha => ?_, ?_, fun a b ha hb => ?_⟩
  · rcases List.mem_append.1 hx with hx | hx
    · exact h2 x (List.mem_cons_of_mem _ hx)
    · have hp := nx_place hx
      refine ⟨hp.1, hp.2, rch_next hr ?_⟩
      rw [Int.toNat_of_nonneg hp.1]
      exact hx
  · rw [getD_set hjl] at ha
    split at ha
    · rename_i e; subst e; exact hr
    · exact h3 a ha
  · rw [getD_set hjl]
    rcases h4 with h4 | h4
    · rcases List.mem_cons.1 h4 with e | e
      · exact .inr (if_pos (by omega))
      · exact .inl (List.mem_append_left _ e)
    · exact .inr (by split; rfl; exact h4)
  · rw [getD_set hjl] at ha ⊢
    split at ha
    · rename_i e; subst e; exact .inl (List.mem_append_right _ hb)
    · rcases h5 a b ha hb with h | h
      · rcases List.mem_cons.1 h with e | e
        · exact .inr (if_pos (by omega))
        · exact .inl (List.mem_append_left _ e)
      · exact .inr (by split; rfl; exact h)
theorem count_set : ∀ (S : List Bool) (j : Nat), S.getD j false = false → j < S.length → (S.set j true).count false + 1 = S.count false
  | [], j, _, h => absurd h (Nat.not_lt_zero _)
  | x :: xs, 0, h, _ => by
    have : x = false := by simpa using h
    subst this
    simp
  | x :: xs, j + 1, h, hl => by
    have ih := count_set xs j (by simpa using h) (by simpa using hl)
    rw [List.set_cons_succ, List.count_cons, List.count_cons]
    omega
theorem rcm_old (S : List Bool) (W : List Int) (x : Int) : rcm S W < rcm S (x :: W) := by unfold rcm; simp
theorem rcm_new {vw vm vi : Int} {L : List InsR} {S : List Bool} {W : List Int} {j : Nat} (h : S.getD j false = false) (hj : j < S.length) : rcm (S.set j true) (W ++ nxL vw vm vi L j) < rcm S ((j : Int) :: W) := by
  have h1 := count_set S j h hj
  have h2 := nxL_len vw vm vi L j
  unfold rcm
  rw [List.length_append, List.length_cons]
  omega
theorem rcs_len {vw vm vi : Int} {L : List InsR} {S : List Bool} {W : List Int} (_h : RcS vw vm vi L S W) (m : Nat) (hm : rcm S W ≤ m) : W.length ≤ m := by unfold rcm at hm; omega
theorem rcs_end {vw vm vi : Int} {L : List InsR} {S : List Bool} (h : RcS vw vm vi L S []) (a : Nat) : S.getD a false = true ↔ Rch vw vm vi L a := by
  obtain ⟨h1, h2, h3, h4, h5⟩ := h
  refine ⟨h3 a, fun ha => ha (fun x => S.getD x false = true) ?_ fun x y hx hy => ?_⟩
  · rcases h4 with h | h
    · cases h
    · exact h
  · rcases h5 x y hx hy with h | h
    · cases h
    · exact h
/-- the program's loop: the list of places reached, of which the first k were looked at, and of what comes next after place k the first i -/
def RcI (vw vm vi : Int) (L : List InsR) (R : List Int) (k i : Nat) : Prop :=
  R.Nodup ∧ (∀ x ∈ R, 0 ≤ x ∧ x ≤ L.length ∧ Rch vw vm vi L x.toNat) ∧ (0 : Int) ∈ R ∧ (∀ j, j < k → ∀ b, b ∈ nxL vw vm vi L (R.getD j 0) → b ∈ R) ∧ k ≤ R.length ∧
    ∀ b, b ∈ (nxL vw vm vi L (R.getD k 0)).take i → b ∈ R
theorem rci_start (vw vm vi : Int) (L : List InsR) : RcI vw vm vi L [0] 0 0 := by
  refine ⟨(by simp), fun x hx => ?_, List.mem_cons_self, fun j hj => absurd hj (Nat.not_lt_zero _), Nat.zero_le _, fun b hb => by simp at hb⟩
  rw [List.mem_singleton] at hx; subst hx; exact ⟨by omega, by omega, rch_zero⟩
theorem rci_len {vw vm vi : Int} {L : List InsR} {R : List Int} {k i : Nat} (h : RcI vw vm vi L R k i) : R.length ≤ L.length + 1 :=
  nodup_len _ R h.1 fun x hx => by have := h.2.1 x hx; omega
theorem getD_app {R T : List Int} {j : Nat} (h : j < R.length) : (R ++ T).getD j 0 = R.getD j 0 := by
  rw [List.getD_eq_getElem?_getD, List.getD_eq_getElem?_getD, List.getElem?_append_left h]
theorem rci_in {vw vm vi : Int} {L : List InsR} {R : List Int} {k i : Nat} (h : RcI vw vm vi L R k i) (hi : i < (nxL vw vm vi L (R.getD k 0)).length) (hx : (nxL vw vm vi L (R.getD k 0))[i] ∈ R) : RcI vw vm vi L R k (i + 1) := by
  obtain ⟨h1, h2, h3, h4, h5, h6⟩ := h
  refine ⟨h1, h2, h3, h4, h5, fun b hb => ?_⟩
  rw [List.take_succ_eq_append_getElem hi, List.mem_append, List.mem_singleton] at hb
  rcases hb with hb | rfl
  · exact h6 b hb
  · exact hx
theorem rci_put {vw vm vi : Int} {L : List InsR} {R : List Int} {k i : Nat} (h : RcI vw vm vi L R k i) (hk : k < R.length) (hi : i < (nxL vw vm vi L (R.getD k 0)).length) (hx : (nxL vw vm vi L (R.getD k 0))[i] ∉ R) : RcI vw vm vi L (R ++ [(nxL vw vm vi L (R.getD k 0))[i]]) k (i + 1) := by
  obtain ⟨h1, h2, h3, h4, h5, h6⟩ := h
  obtain ⟨y, hy⟩ : ∃ y, (nxL vw vm vi L (R.getD k 0))[i] = y := ⟨_, rfl⟩
  have hym : y ∈ nxL vw vm vi L (R.getD k 0) := by rw [← hy]; exact List.getElem_mem hi
  have hkm : R.getD k 0 ∈ R := by rw [List.getD_eq_getElem?_getD, List.getElem?_eq_getElem hk, Option.getD_some]; exact List.getElem_mem hk
  have hkr := h2 _ hkm
  have hpl := nx_place hym
  rw [hy] at hx ⊢
  refine ⟨?_, fun x hxm => ?_, List.mem_append_left _ h3, fun j hj b hb => ?_, by rw [List.length_append]; omega, fun b hb => ?_⟩
  · rw [List.nodup_append]
    refine ⟨h1, (by simp), fun a ha b hb => ?_⟩
    rw [List.mem_singleton] at hb
    subst hb
    intro e
    subst e
    exact hx ha
  · rcases List.mem_append.1 hxm with hxm | hxm
    · exact h2 x hxm
    · rw [List.mem_singleton] at hxm
      subst hxm
      refine ⟨hpl.1, hpl.2, rch_next hkr.2.2 ?_⟩
      rw [Int.toNat_of_nonneg hpl.1, Int.toNat_of_nonneg hkr.1]
      exact hym
  · rw [getD_app (by omega)] at hb
    exact List.mem_append_left _ (h4 j hj b hb)
  · rw [getD_app hk, List.take_succ_eq_append_getElem hi, List.mem_append, List.mem_singleton] at hb
    rcases hb with hb | hb
    · exact List.mem_append_left _ (h6 b hb)
    · rw [hb, hy]; exact List.mem_append_right _ List.mem_cons_self
theorem rci_in2 {vw vm vi : Int} {L : List InsR} {R X : List Int} {k i : Nat} {x0 : Int} (h : RcI vw vm vi L R k i) (hg : R.getD k 0 = x0) (hX : nxL vw vm vi L x0 = X) (hi : i < X.length) (hx : X[i] ∈ R) : RcI vw vm vi L R k (i + 1) := by
  subst hX
  subst hg
  exact rci_in h hi hx
theorem rci_put2 {vw vm vi : Int} {L : List InsR} {R X : List Int} {k i : Nat} {x0 : Int} (h : RcI vw vm vi L R k i) (hk : k < R.length) (hg : R.getD k 0 = x0) (hX : nxL vw vm vi L x0 = X) (hi : i < X.length) (hx : X[i] ∉ R) : RcI vw vm vi L (R ++ [X[i]]) k (i + 1) := by
  subst hX
  subst hg
  exact rci_put h hk hi hx
theorem rci_next {vw vm vi : Int} {L : List InsR} {R : List Int} {k : Nat} (h : RcI vw vm vi L R k (nxL vw vm vi L (R.getD k 0)).length) (hk : k < R.length) : RcI vw vm vi L R (k + 1) 0 := by
  obtain ⟨h1, h2, h3, h4, h5, h6⟩ := h
  refine ⟨h1, h2, h3, fun j hj b hb => ?_, by omega, fun b hb => by simp at hb⟩
  by_cases hjk : j = k
  · subst hjk
    rw [List.take_length] at h6
    exact h6 b hb
  · exact h4 j (by omega) b hb
theorem rci_end {vw vm vi : Int} {L : List InsR} {R : List Int} {i : Nat} (h : RcI vw vm vi L R R.length i) : sortI R = ascP (Rch vw vm vi L) (L.length + 1) := by
  obtain ⟨h1, h2, h3, h4, h5, h6⟩ := h
  refine ascP_sort h1 fun x => ⟨fun hx => ?_, ?_⟩
  · have := h2 x hx
    exact ⟨x.toNat, by omega, by omega, this.2.2⟩
  · rintro ⟨k, rfl, hk, hr⟩
    refine hr (fun a => (a : Int) ∈ R) h3 fun a b ha hb => ?_
    obtain ⟨j, hj, hja⟩ := List.getElem_of_mem ha
    refine h4 j hj b ?_
    rw [List.getD_eq_getElem?_getD, List.getElem?_eq_getElem hj, Option.getD_some, hja]
    exact hb
end Go.Proofs.Ytnhagmjknfiphab
