/- ParseInt over lists of bytes: the model's loop and Atoi's give the same number at every text. No program in this text. -/
import Derived.Lib.ItoaNum
import Derived.Lib.ItoaMem
import Derived.Lib.AtoiAll
import Derived.Lib.AtoiAllCases
namespace Go.Proofs.YtoiakdhmdkcibaaDoor.Parse
open Go.Lib
theorem nDigits_le : ∀ (d n : Nat), n < 10 ^ (d + 1) → nDigits n ≤ d + 1
  | 0, n, h => by rw [nDigits_small (by simpa using h)]; exact Nat.le_refl _
  | d + 1, n, h => by
    by_cases h9 : n < 10
    · rw [nDigits_small h9]; omega
    · have := nDigits_le d (n / 10) (by rw [Nat.pow_succ] at h; omega)
      rw [nDigits, dif_neg h9]; omega
theorem dec_step (u : Nat) (h : ¬ u < 10) : decDigits u = decDigits (u / 10) ++ [UInt8.ofNat (48 + u % 10)] := by
  rw [decDigits, dif_neg h]
theorem dig_nat (d : Nat) (h : d < 10) : (UInt8.ofNat (48 + d)).toNat = 48 + d := by simp; omega
theorem dec_digits (u : Nat) : ∀ c ∈ decDigits u, 48 ≤ c.toNat ∧ c.toNat ≤ 57 := by
  induction u using Nat.strongRecOn with
  | ind u ih =>
    intro c hc
    by_cases h : u < 10
    · rw [decDigits_one h] at hc
      have := List.mem_singleton.1 hc
      subst this
      rw [dig_nat u h]; omega
    · rw [dec_step u h, List.mem_append] at hc
      rcases hc with hc | hc
      · exact ih (u / 10) (by omega) c hc
      · have := List.mem_singleton.1 hc
        subst this
        rw [dig_nat _ (by omega)]; omega

def loopP : List UInt8 → Int → Option Int
  | [], n => some n
  | c :: r, n => if 48 ≤ c.toNat ∧ c.toNat ≤ 57 ∧ -9223372036854775808 ≤ n * 10 - ((c.toNat : Int) - 48) then loopP r (n * 10 - ((c.toNat : Int) - 48)) else none
theorem loopP_append (a b : List UInt8) : ∀ n, loopP (a ++ b) n = (loopP a n).bind (loopP b) := by
  induction a with
  | nil => intro n; rfl
  | cons c r ih =>
    intro n
    simp only [List.cons_append, loopP]
    split
    · exact ih _
    · rfl
theorem loopP_dec (u : Nat) (hu : u ≤ 9223372036854775808) : loopP (decDigits u) 0 = some (-(u : Int)) := by
  induction u using Nat.strongRecOn with
  | ind u ih =>
    by_cases h : u < 10
    · rw [decDigits_one h]
      simp only [loopP]
      rw [dig_nat u h, if_pos (by omega)]
      congr 1
      omega
    · rw [dec_step u h, loopP_append, ih (u / 10) (by omega) (by omega)]
      simp only [Option.bind_some, loopP]
      rw [dig_nat (u % 10) (by omega), if_pos (by omega)]
      congr 1
      omega
theorem loopP_range : ∀ (l : List UInt8) (n k : Int), -9223372036854775808 ≤ n → n ≤ 0 → loopP l n = some k → -9223372036854775808 ≤ k ∧ k ≤ 0
  | [], n, k, h1, h2, h => by
    simp only [loopP] at h
    injection h with h
    omega
  | c :: r, n, k, h1, h2, h => by
    simp only [loopP] at h
    split at h
    · rename_i hc
      exact loopP_range r _ k (by omega) (by omega) h
    · cases h

def chk (l : List UInt8) (m : Int) : Int × Bool := if itoa m = l then (m, true) else (0, false)
def fin (l : List UInt8) (neg : Bool) : Option Int → Int × Bool
  | none => (0, false)
  | some n => if neg = true then chk l n else if n = -9223372036854775808 then (0, false) else chk l (-n)
def specT (l t : List UInt8) (neg : Bool) : Int × Bool := if t.length < 1 ∨ 19 < t.length then (0, false) else fin l neg (loopP t 0)
def specP (l : List UInt8) : Int × Bool := match l with
  | [] => (0, false)
  | c :: r => if c.toNat = 45 then specT l r true else specT l l false

theorem chk_cases (l : List UInt8) (m : Int) : (chk l m = (m, true) ∧ itoa m = l) ∨ chk l m = (0, false) := by
  unfold chk; split
  · exact Or.inl ⟨rfl, ‹_›⟩
  · exact Or.inr rfl
theorem specT_sound (l t : List UInt8) (neg : Bool) : specT l t neg = (0, false) ∨ ∃ m, specT l t neg = (m, true) ∧ itoa m = l ∧ -9223372036854775808 ≤ m ∧ m ≤ 9223372036854775807 := by
  unfold specT
  split
  · exact Or.inl rfl
  · cases hq : loopP t 0 with
    | none => exact Or.inl rfl
    | some n =>
      have hr := loopP_range t 0 n (by omega) (by omega) hq
      simp only [fin]
      split
      · rcases chk_cases l n with ⟨h1, h2⟩ | h
        · exact Or.inr ⟨n, h1, h2, by omega, by omega⟩
        · exact Or.inl h
      · split
        · exact Or.inl rfl
        · rcases chk_cases l (-n) with ⟨h1, h2⟩ | h
          · exact Or.inr ⟨-n, h1, h2, by omega, by omega⟩
          · exact Or.inl h
theorem specP_sound (l : List UInt8) : specP l = (0, false) ∨ ∃ m, specP l = (m, true) ∧ itoa m = l ∧ -9223372036854775808 ≤ m ∧ m ≤ 9223372036854775807 := by
  unfold specP
  split
  · exact Or.inl rfl
  · split
    · exact specT_sound _ _ _
    · exact specT_sound _ _ _
theorem chk_self (m : Int) : chk (itoa m) m = (m, true) := by simp [chk]
theorem dec_length (u : Nat) (h : u ≤ 9223372036854775808) : ¬ ((decDigits u).length < 1 ∨ 19 < (decDigits u).length) := by
  rw [decDigits_length]
  have h1 := nDigits_le 18 u (by omega)
  have h2 : 1 ≤ nDigits u := by rw [nDigits]; split <;> omega
  omega
theorem specP_itoa (v : Int) (h0 : -9223372036854775808 ≤ v) (h1 : v ≤ 9223372036854775807) : specP (itoa v) = (v, true) := by
  by_cases h : v < 0
  · obtain ⟨u, rfl⟩ : ∃ u : Nat, v = -(u : Int) := ⟨v.natAbs, by omega⟩
    have e := itoa_neg u (by omega)
    have : specP (45 :: decDigits u) = specT (45 :: decDigits u) (decDigits u) true := by simp [specP]
    rw [e, this, specT, if_neg (dec_length u (by omega)), loopP_dec u (by omega)]
    simp only [fin, if_true]
    rw [← e]
    exact chk_self _
  · obtain ⟨u, rfl⟩ : ∃ u : Nat, v = u := ⟨v.toNat, by omega⟩
    have e := itoa_nonneg u
    have hl := dec_length u (by omega)
    have hd := dec_digits u
    have : specP (decDigits u) = specT (decDigits u) (decDigits u) false := by
      cases hc : decDigits u with
      | nil => rw [hc] at hl; simp at hl
      | cons c r =>
        have := hd c (by rw [hc]; exact List.mem_cons_self)
        simp only [specP]
        rw [if_neg (by omega)]
    rw [e, this, specT, if_neg hl, loopP_dec u (by omega)]
    simp only [fin]
    rw [if_neg (by simp), if_neg (by omega), Int.neg_neg, ← e]
    exact chk_self _

theorem pu_append (a b : List UInt8) : ∀ acc, parseUint10 acc (a ++ b) = (match parseUint10 acc a with | .ok x => parseUint10 x b | e => e) := by
  induction a with
  | nil => intro acc; rfl
  | cons c r ih =>
    intro acc
    simp only [List.cons_append, parseUint10]
    split
    · split
      · rfl
      · split
        · rfl
        · exact ih _
    · rfl
theorem pu_dec (u : Nat) (hu : u ≤ 9223372036854775808) : parseUint10 0 (decDigits u) = .ok u := by
  induction u using Nat.strongRecOn with
  | ind u ih =>
    by_cases h : u < 10
    · rw [decDigits_one h]
      simp only [parseUint10]
      rw [dig_nat u h, if_pos (by omega), if_neg (by omega), if_neg (by omega)]
      congr 1
      omega
    · rw [dec_step u h, pu_append, ih (u / 10) (by omega) (by omega)]
      simp only [parseUint10]
      rw [dig_nat (u % 10) (by omega), if_pos (by omega), if_neg (by omega), if_neg (by omega)]
      congr 1
      omega
theorem mag_dec (u : Nat) (hu : u ≤ 9223372036854775808) : parseMag (decDigits u) = .ok u := by
  unfold parseMag
  rw [if_neg, pu_dec u hu]
  intro h
  have := dec_length u hu
  rw [h] at this
  simp at this
theorem atoi_itoa (v : Int) (h0 : -9223372036854775808 ≤ v) (h1 : v ≤ 9223372036854775807) : atoiAll (itoa v) = .ok v := by
  by_cases h : v < 0
  · obtain ⟨u, rfl⟩ : ∃ u : Nat, v = -(u : Int) := ⟨v.natAbs, by omega⟩
    rw [itoa_neg u (by omega)]
    have e1 : ((45 : UInt8).toNat = 43 ∨ (45 : UInt8).toNat = 45) := Or.inr rfl
    have e2 : (45 : UInt8).toNat = 45 := rfl
    simp only [atoiAll]
    rw [if_pos e1, mag_dec u (by omega)]
    simp only [e2]
    rw [if_neg (fun h => h.1 trivial), if_neg (fun h => by have := h.2; omega)]
    simp
  · obtain ⟨u, rfl⟩ : ∃ u : Nat, v = u := ⟨v.toNat, by omega⟩
    rw [itoa_nonneg]
    have hl := dec_length u (by omega)
    have hd := dec_digits u
    have hm := mag_dec u (by omega)
    cases hc : decDigits u with
    | nil => rw [hc] at hl; simp at hl
    | cons c r =>
      have := hd c (by rw [hc]; exact List.mem_cons_self)
      rw [hc] at hm
      simp only [atoiAll]
      rw [if_neg (by omega), hm]
      simp only []
      rw [if_neg (by omega), if_neg (by omega), if_neg (by omega)]

def implP (l : List UInt8) : Int × Bool := match atoiAll l with
  | .ok v => chk l v
  | _ => (0, false)
theorem implP_eq (l : List UInt8) : implP l = specP l := by
  rcases specP_sound l with h | ⟨m, h, hm, h0, h1⟩
  · rw [h]
    unfold implP
    cases hq : atoiAll l
    · rename_i v
      have hb := atoiAll_bounds hq
      rcases chk_cases l v with ⟨_, h2⟩ | h2
      · have := specP_itoa v hb.1 hb.2
        rw [h2, h] at this
        injection this with _ hf
        cases hf
      · exact h2
    · rfl
    · rfl
  · rw [h]
    subst hm
    unfold implP
    rw [atoi_itoa m h0 h1]
    exact chk_self m
end Go.Proofs.YtoiakdhmdkcibaaDoor.Parse
