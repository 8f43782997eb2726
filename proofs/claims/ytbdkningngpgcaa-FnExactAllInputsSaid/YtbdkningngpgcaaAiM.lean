/- The model of AllInputs: all lists of words, in the order of their numbers; rows of rows that grow. No condition. -/
import Derived.Test.YtbdkningngpgcaaIntSSb
import Derived.Test.YtbdkningngpgcaaPrM
namespace Go.Proofs.Ytbdkningngpgcaa
open Go.ChangeShapes Go.WideShapes Go.ChangeAt Go.RowKit
/-- the last I digits of a number, the first one ahead -/
def dg (B : Nat) : Nat → Nat → List Int
  | 0, _ => []
  | I + 1, n => dg B I (n / B) ++ [((n % B : Nat) : Int)]
theorem dg_len (B : Nat) : ∀ I n, (dg B I n).length = I
  | 0, _ => rfl
  | I + 1, n => by rw [dg, List.length_append, dg_len B I]; rfl
theorem dg_get (B : Nat) : ∀ (I n p : Nat), p < I → (dg B I n)[p]? = some (((n / B ^ (I - 1 - p)) % B : Nat) : Int)
  | 0, _, _, h => absurd h (Nat.not_lt_zero _)
  | I + 1, n, p, h => by
    rw [dg]
    by_cases hp : p < I
    · rw [List.getElem?_append_left (by rw [dg_len]; exact hp), dg_get B I (n / B) p hp, Nat.div_div_eq_div_mul, ← Nat.pow_succ']
      rw [show (I - 1 - p).succ = I + 1 - 1 - p by omega]
    · have : p = I := by omega
      subst this
      rw [List.getElem?_append_right (by rw [dg_len]; exact Nat.le_refl _), dg_len]
      simp
theorem dg_zero (B : Nat) : ∀ I, dg B I 0 = List.replicate I 0
  | 0 => rfl
  | I + 1 => by rw [dg, Nat.zero_div, dg_zero B I, Nat.zero_mod, List.replicate_succ']; rfl
theorem dg_shift (B : Nat) (hB : 0 < B) : ∀ (j k m : Nat), dg B (k + j) (m * B ^ j) = dg B k m ++ List.replicate j 0
  | 0, k, m => by simp
  | j + 1, k, m => by
    rw [← Nat.add_assoc, dg, Nat.pow_succ, ← Nat.mul_assoc, Nat.mul_div_cancel _ hB, Nat.mul_mod_left, dg_shift B hB j k m, List.append_assoc, List.replicate_succ']
    rfl
theorem dg_last {B k m : Nat} (h : m % B + 1 < B) : dg B (k + 1) (m + 1) = dg B k (m / B) ++ [((m % B + 1 : Nat) : Int)] := by
  have hB : 0 < B := by omega
  have h1 : (m + 1) / B = m / B := by
    have e := Nat.div_add_mod m B
    rw [show m + 1 = (m % B + 1) + B * (m / B) by omega, Nat.add_mul_div_left _ _ hB, Nat.div_eq_of_lt h, Nat.zero_add]
  have h2 : (m + 1) % B = m % B + 1 := by
    have e := Nat.div_add_mod m B
    rw [show m + 1 = (m % B + 1) + B * (m / B) by omega, Nat.add_mul_mod_self_left, Nat.mod_eq_of_lt h]
  rw [dg, h1, h2]
/-- all lists -/
def aiT (B I n : Nat) : List (List Int) := (List.range n).map (dg B I)
theorem aiT_len (B I n : Nat) : (aiT B I n).length = n := by simp [aiT]
theorem aiT_succ (B I n : Nat) : aiT B I (n + 1) = aiT B I n ++ [dg B I n] := by simp [aiT, List.range_succ]
theorem aiT_ok {B I : Nat} (hB : 0 < B) (hB2 : B ≤ 256) (hI : I ≤ 3) (n : Nat) : IntSS.Ok (aiT B I n) := by
  intro l hl
  obtain ⟨k, _, rfl⟩ := List.mem_map.1 hl
  refine ⟨fun x hx => ?_, by rw [dg_len]; unfold maxLen; omega⟩
  obtain ⟨p, hp, rfl⟩ := List.getElem_of_mem hx
  have h := dg_get B I k p (by rwa [dg_len] at hp)
  rw [List.getElem?_eq_getElem hp] at h
  injection h with h
  rw [h]
  have := Nat.mod_lt (k / B ^ (I - 1 - p)) hB
  unfold IntL.Ok
  omega
theorem tot_aiT (B I : Nat) : ∀ n, cntL List.length (aiT B I n) = I * n
  | 0 => rfl
  | n + 1 => by
    have := tot_aiT B I n
    unfold cntL at *
    rw [aiT_succ, List.map_append, List.sum_append, this]
    simp [dg_len, Nat.mul_succ]
theorem costs_aiT (B I : Nat) : ∀ n, IntSS.costs (aiT B I n) = (1 + I) * n
  | 0 => rfl
  | n + 1 => by
    have := costs_aiT B I n
    unfold IntSS.costs at *
    rw [aiT_succ, List.map_append, List.sum_append, this]
    simp [dg_len, Nat.mul_succ]
def aiV (vw vm vi : Int) (L : List InsR) : List (List Int) := if prB vw vm vi L = true ∧ vw * vi ≤ 12 then aiT (2 ^ vw.toNat) vi.toNat (2 ^ (vw * vi).toNat) else []
theorem aiV_facts (vw vm vi : Int) (L : List InsR) : (aiV vw vm vi L).length ≤ 1000000 ∧ IntSS.costs (aiV vw vm vi L) ≤ 2097152 ∧ cntL List.length (aiV vw vm vi L) ≤ 1000000000 := by
  unfold aiV
  split
  · rename_i h
    obtain ⟨⟨-, -, -, -, -, hi0, hi3, -, -⟩, -⟩ := pr_in h.1
    have hN : 2 ^ (vw * vi).toNat ≤ 4096 := Nat.pow_le_pow_right (n := 2) (i := (vw * vi).toNat) (j := 12) (by decide) (by omega)
    rw [aiT_len, costs_aiT, tot_aiT]
    have h1 : (1 + vi.toNat) * 2 ^ (vw * vi).toNat ≤ 4 * 4096 := Nat.mul_le_mul (by omega) hN
    have h2 : vi.toNat * 2 ^ (vw * vi).toNat ≤ 3 * 4096 := Nat.mul_le_mul (by omega) hN
    omega
  · simp [IntSS.costs, cntL]
/-- a row that is owned is put behind rows of rows -/
theorem rows_push {base m : Nat} {A : List (List Int)} {v v' s : Value} {ys : List Value} {b1 : List Nat} {w w1 w' : World} {l : List Int} {E : TypeId}
    (how : w'.ownsRow base E 1 v' m (ys ++ [s])) (hown : (Cs.rows IntSS.c A).Own w base ys b1) (hnd : (v.ownBlock.toList ++ b1).Nodup) (hs : w.ownsRow base 3 1 s l.length (IntL.all l)) (hd : ∀ g ∈ s.ownBlock.toList, g ∉ v.ownBlock.toList ++ b1)
    (hb : Below w.heap.size w w1) (hgr : w1.grownBy w' v.ownBlock) (hat : v'.ownBlock = v.ownBlock ∨ v'.ownBlock = some w1.heap.size) : ∃ bs, (Cs.rows IntSS.c (A ++ [l])).Has w' base E 1 m v' bs ∧ bs.Nodup ∧ ∀ g ∈ bs, g ∈ v.ownBlock.toList ++ b1 ∨ g ∈ s.ownBlock.toList ∨ g = w1.heap.size := by
  have hb1 : ∀ g ∈ b1, base ≤ g ∧ g < w.heap.size := hown.lt
  have hss : ∀ g ∈ s.ownBlock.toList, base ≤ g ∧ g < w.heap.size := fun g hg => own_lt hs hg
  rw [List.nodup_append] at hnd
  obtain ⟨hn1, hn2, hn3⟩ := hnd
  have hsame : ∀ g, g < w.heap.size → g ∉ v.ownBlock.toList → w'.heap[g]? = w.heap[g]? := fun g hg hn => (hgr.block g (Nat.lt_of_lt_of_le hg hb.size) (fun h => hn (by rw [← h]; simp))).trans (hb.block g hg)
  refine ⟨v'.ownBlock.toList ++ (b1 ++ s.ownBlock.toList), ⟨_, b1 ++ s.ownBlock.toList, how, ?_, rfl⟩, ?_, fun g hg => ?_⟩
  · rw [Cs.rows_app, Cs.rows_one]
    refine Cs.own_app (hown.same fun g hg => hsame g (hb1 g hg).2 (fun h => hn3 g h g hg rfl)) ?_
    unfold IntSS.c
    rw [Cs.own_sl]
    exact ⟨s, [], s.ownBlock.toList, [], rfl, ⟨_, [], own_same hs fun g hg => hsame g (hss g hg).2 (fun h => hd g hg (List.mem_append_left _ h)), Cs.own_flat.2 ⟨rfl, rfl⟩, by simp⟩, ⟨rfl, rfl⟩, by simp⟩
  · have hvn : v'.ownBlock.toList.Nodup := by cases v'.ownBlock <;> simp
    have hsn : s.ownBlock.toList.Nodup := by cases s.ownBlock <;> simp
    rw [List.nodup_append, List.nodup_append]
    refine ⟨hvn, ⟨hn2, hsn, fun x hx y hy e => ?_⟩, fun x hx y hy e => ?_⟩
    · subst e; exact hd x hy (List.mem_append_right _ hx)
    · subst e
      rcases hat with h | h
      · rw [h] at hx
        rcases List.mem_append.1 hy with hy | hy
        · exact hn3 x hx x hy rfl
        · exact hd x hy (List.mem_append_left _ hx)
      · rw [h] at hx
        simp at hx
        subst hx
        have h2 := hb.size
        rcases List.mem_append.1 hy with hy | hy
        · have := (hb1 _ hy).2; omega
        · have := (hss _ hy).2; omega
  · rcases List.mem_append.1 hg with hg | hg
    · rcases hat with h | h
      · rw [h] at hg; exact .inl (List.mem_append_left _ hg)
      · rw [h] at hg
        simp at hg
        exact .inr (.inr hg)
    · rcases List.mem_append.1 hg with hg | hg
      · exact .inl (List.mem_append_right _ hg)
      · exact .inr (.inl hg)
theorem dg_set {B k q : Nat} {d x : Int} {Z : List Int} : ((dg B k q ++ [d]) ++ Z).set k x = dg B k q ++ [x] ++ Z := by
  rw [List.append_assoc, List.set_append_right _ _ (by rw [dg_len]; exact Nat.le_refl _), dg_len, Nat.sub_self, List.append_assoc]
  rfl
theorem ai_more {B I k j mm n : Nat} (hI : I = k + 1 + j) (hn : n < B ^ I) (he : n + 1 = (mm + 1) * B ^ j) (hd : mm % B + 1 < B) : n + 1 < B ^ I := by
  have hB : 0 < B := by omega
  rcases Nat.lt_or_ge (n + 1) (B ^ I) with h | h
  · exact h
  · have h1 : n + 1 = B ^ I := by omega
    rw [he, hI, Nat.pow_add] at h1
    have h2 := Nat.eq_of_mul_eq_mul_right (Nat.pow_pos hB) h1
    have h3 : (mm + 1) % B = 0 := by rw [h2, Nat.pow_succ, Nat.mul_mod_left]
    have h4 : (mm + 1) % B = mm % B + 1 := by
      have e := Nat.div_add_mod mm B
      rw [show mm + 1 = (mm % B + 1) + B * (mm / B) by omega, Nat.add_mul_mod_self_left, Nat.mod_eq_of_lt hd]
    omega
theorem ai_carry {B j mm n : Nat} (hB : 0 < B) (he : n + 1 = (mm + 1) * B ^ j) (hd : ¬ mm % B + 1 < B) : n + 1 = (mm / B + 1) * B ^ (j + 1) := by
  have h1 : mm % B < B := Nat.mod_lt _ hB
  have h2 : mm + 1 = (mm / B + 1) * B := by
    have e := Nat.div_add_mod mm B
    rw [Nat.add_mul, Nat.one_mul, Nat.mul_comm]
    omega
  rw [he, h2, Nat.pow_succ, Nat.mul_assoc, Nat.mul_comm B]
theorem ai_end {B I mm n : Nat} (hn : n < B ^ I) (he : n + 1 = (mm + 1) * B ^ I) : n + 1 = B ^ I := by
  rcases Nat.eq_zero_or_pos mm with h | h
  · rw [he, h]; omega
  · have : 2 * B ^ I ≤ (mm + 1) * B ^ I := Nat.mul_le_mul_right _ (by omega)
    omega
end Go.Proofs.Ytbdkningngpgcaa
