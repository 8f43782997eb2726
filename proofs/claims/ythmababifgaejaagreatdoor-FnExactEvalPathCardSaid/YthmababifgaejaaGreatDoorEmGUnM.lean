/- What unary operations, joined, cut and wider words are. No condition. What comes of operations on words are words. No condition. What the unary operations on a word return. No condition. -/
import Derived.Test.YthmababifgaejaaGreatDoorEmGPaM
import Derived.Laws.BitsAllLaws
import Derived.Laws.BitsLemmas
import Derived.Test.YthmababifgaejaaGreatDoorEmBin
namespace Go.Proofs.YthmababifgaejaaGreatDoor
open Go.ChangeShapes Go.WideShapes Go.ChangeAt Go.RowKit
theorem pow_add_toNat (w v : Int) (h1 : 1 ≤ w) (g1 : 1 ≤ v) : (2 : Int) ^ (w + v).toNat = 2 ^ w.toNat * 2 ^ v.toNat := by
  have : (w + v).toNat = w.toNat + v.toNat := by omega
  rw [this, Int.pow_add]
theorem join_lt (w a v b : Int) (h1 : 1 ≤ w) (h3 : 0 ≤ a) (h4 : a ≤ 2 ^ w.toNat - 1) (g1 : 1 ≤ v) (_k3 : 0 ≤ b) (k4 : b ≤ 2 ^ v.toNat - 1) (g3 : w + v ≤ 16) : 0 ≤ a * 2 ^ v.toNat ∧ a * 2 ^ v.toNat + b ≤ 2 ^ (w + v).toNat - 1 ∧ (2 : Int) ^ (w + v).toNat ≤ 65536 := by
  have hp := (pw (w + v) (by omega) g3).2
  have e := pow_add_toNat w v h1 g1
  have hv : 0 < (2 : Int) ^ v.toNat := Int.pow_pos (by decide)
  have h5 : 0 ≤ a * 2 ^ v.toNat := Int.mul_nonneg h3 (by omega)
  have h6 : a * 2 ^ v.toNat ≤ (2 ^ w.toNat - 1) * 2 ^ v.toNat := Int.mul_le_mul_of_nonneg_right h4 (by omega)
  rw [Int.sub_mul, Int.one_mul] at h6
  rw [e] at hp ⊢
  generalize (2 : Int) ^ w.toNat * 2 ^ v.toNat = p at *
  omega
def unM (op w a : Int) : Int := if op = 1 then 2 ^ w.toNat - 1 - a else mask w (-a)
def joinM (a v b : Int) : Int := a * 2 ^ v.toNat + b
def cutM (a l n : Int) : Int := mask n (a / 2 ^ l.toNat)
def widenM (w a n : Int) (s : Bool) : Int := if s = true then mask n (sgM w a) else a
end Go.Proofs.YthmababifgaejaaGreatDoor
namespace Go.Proofs.YthmababifgaejaaGreatDoor
open Go.ChangeShapes Go.WideShapes Go.ChangeAt Go.RowKit
/-- a number that is a word of a width -/
def IsW (w a : Int) : Prop := 1 ≤ w ∧ w ≤ 16 ∧ 0 ≤ a ∧ a ≤ 2 ^ w.toNat - 1
theorem isW_of {w a : Int} (h : wkB w a = true) : IsW w a := by
  rcases ok_cases w a with ⟨_, e⟩ | ⟨_, _, e⟩ | ⟨_, _, _, e⟩ | ⟨_, _, _, _, e⟩ | ⟨h1, h2, h3, h4, _⟩
  · rw [e] at h; cases h
  · rw [e] at h; cases h
  · rw [e] at h; cases h
  · rw [e] at h; cases h
  · exact ⟨h1, h2, h3, h4⟩
theorem wk_of {w a : Int} (h : IsW w a) : wkB w a = true := by
  obtain ⟨h1, h2, h3, h4⟩ := h
  rcases ok_cases w a with ⟨q, e⟩ | ⟨_, q, e⟩ | ⟨_, _, q, e⟩ | ⟨_, _, _, q, e⟩ | ⟨_, _, _, _, e⟩
  · omega
  · omega
  · omega
  · omega
  · exact e
theorem pow_nat (k : Nat) : (2 : Int) ^ k = ((2 ^ k : Nat) : Int) := by simp
theorem mask_nat (k : Nat) (hk : k ≤ 16) (n : Int) : bits .and .i64 n ((2 : Int) ^ k - 1) = n % 2 ^ k := by
  have hp : (2 : Nat) ^ k ≤ 65536 := by
    have := Nat.pow_le_pow_right (n := 2) (by decide) hk
    simpa using this
  have hp0 : 0 < (2 : Nat) ^ k := Nat.pow_pos (by decide)
  have e1 : (BitVec.ofInt 64 ((2 : Int) ^ k - 1)).toNat = 2 ^ k - 1 := by
    have : (2 : Int) ^ k - 1 = ((2 ^ k - 1 : Nat) : Int) := by rw [pow_nat]; omega
    rw [this, BitVec.ofInt_natCast, BitVec.toNat_ofNat]
    exact Nat.mod_eq_of_lt (by omega)
  show IntKind.i64.wrap ((BitVec.ofInt 64 n &&& BitVec.ofInt 64 ((2 : Int) ^ k - 1)).toNat : Int) = _
  rw [BitVec.toNat_and, e1, Nat.and_two_pow_sub_one_eq_mod]
  have e2 : ((BitVec.ofInt 64 n).toNat : Int) = n % 18446744073709551616 := by
    rw [BitVec.toNat_ofInt]
    simp
    omega
  have e3 : (((BitVec.ofInt 64 n).toNat % 2 ^ k : Nat) : Int) = n % 2 ^ k := by
    rw [Int.natCast_emod, e2, ← pow_nat]
    refine Int.emod_emod_of_dvd n ?_
    have : (18446744073709551616 : Int) = 2 ^ k * 2 ^ (64 - k) := by
      rw [← Int.pow_add, show k + (64 - k) = 64 by omega]; decide
    rw [this]
    exact Int.dvd_mul_right _ _
  rw [e3, IntKind.wrap_i64]
  have h3 : 0 ≤ n % 2 ^ k := Int.emod_nonneg _ (by rw [pow_nat]; omega)
  have h4 : n % 2 ^ k < 2 ^ k := Int.emod_lt_of_pos _ (by rw [pow_nat]; omega)
  rw [pow_nat] at h3 h4 ⊢
  omega
theorem mask_eq {w : Int} (h2 : w ≤ 16) (n : Int) : mask w n = n % 2 ^ w.toNat := mask_nat w.toNat (by omega) n
theorem mask_w {w n : Int} (h1 : 1 ≤ w) (h2 : w ≤ 16) : IsW w (mask w n) := by
  have hp := pw w h1 h2
  rw [mask_eq h2 n]
  have h3 : 0 ≤ n % 2 ^ w.toNat := Int.emod_nonneg _ (by omega)
  have h4 : n % 2 ^ w.toNat < 2 ^ w.toNat := Int.emod_lt_of_pos _ (by omega)
  exact ⟨h1, h2, h3, by omega⟩
theorem ofInt_i64 (a : Nat) (ha : a < 9223372036854775808) : (BitVec.ofInt 64 (a : Int)).toNat = a := by
  rw [BitVec.ofInt_natCast, BitVec.toNat_ofNat]; exact Nat.mod_eq_of_lt (by omega)
theorem bits_w {w a b : Int} (ha : IsW w a) (hb : IsW w b) : IsW w (bits .and .i64 a b) ∧ IsW w (bits .or .i64 a b) ∧ IsW w (bits .xor .i64 a b) := by
  obtain ⟨h1, h2, h3, h4⟩ := ha
  obtain ⟨_, _, k3, k4⟩ := hb
  have hp := pw w h1 h2
  obtain ⟨x, rfl⟩ := Int.eq_ofNat_of_zero_le h3
  obtain ⟨y, rfl⟩ := Int.eq_ofNat_of_zero_le k3
  have hx : x < 2 ^ w.toNat := by rw [pow_nat] at h4; omega
  have hy : y < 2 ^ w.toNat := by rw [pow_nat] at k4; omega
  rw [pow_nat] at hp
  have e1 := Nat.and_lt_two_pow x hy
  have e2 := Nat.or_lt_two_pow hx hy
  have e3 := Nat.xor_lt_two_pow hx hy
  refine ⟨?_, ?_, ?_⟩
  · have : bits .and .i64 (x : Int) (y : Int) = ((x &&& y : Nat) : Int) := by
      show IntKind.i64.wrap ((BitVec.ofInt 64 (x : Int) &&& BitVec.ofInt 64 (y : Int)).toNat : Int) = _
      rw [BitVec.toNat_and, ofInt_i64 x (by omega), ofInt_i64 y (by omega), IntKind.wrap_i64]
      omega
    rw [this]
    exact ⟨h1, h2, by omega, by rw [pow_nat]; omega⟩
  · have : bits .or .i64 (x : Int) (y : Int) = ((x ||| y : Nat) : Int) := by
      show IntKind.i64.wrap ((BitVec.ofInt 64 (x : Int) ||| BitVec.ofInt 64 (y : Int)).toNat : Int) = _
      rw [BitVec.toNat_or, ofInt_i64 x (by omega), ofInt_i64 y (by omega), IntKind.wrap_i64]
      omega
    rw [this]
    exact ⟨h1, h2, by omega, by rw [pow_nat]; omega⟩
  · have : bits .xor .i64 (x : Int) (y : Int) = ((x ^^^ y : Nat) : Int) := by
      show IntKind.i64.wrap ((BitVec.ofInt 64 (x : Int) ^^^ BitVec.ofInt 64 (y : Int)).toNat : Int) = _
      rw [BitVec.toNat_xor, ofInt_i64 x (by omega), ofInt_i64 y (by omega), IntKind.wrap_i64]
      omega
    rw [this]
    exact ⟨h1, h2, by omega, by rw [pow_nat]; omega⟩
theorem one_w {w : Int} {c : Prop} [Decidable c] (h : w = 1) : IsW w (if c then 1 else 0) := by
  subst h
  split
  · exact ⟨by decide, by decide, by decide, by decide⟩
  · exact ⟨by decide, by decide, by decide, by decide⟩
theorem div_w {w a : Int} (k : Nat) (h : IsW w a) : IsW w (a / 2 ^ k) := by
  obtain ⟨h1, h2, h3, h4⟩ := h
  have hp : (0 : Int) < 2 ^ k := Int.pow_pos (by decide)
  exact ⟨h1, h2, Int.ediv_nonneg h3 (by omega), Int.le_trans (Int.ediv_le_self _ h3) h4⟩
/-- the width of what an operation on two words returns -/
def rw2 (op w : Int) : Int := if 14 ≤ op then 1 else w
theorem bin_w {op w a b : Int} (ho : 3 ≤ op ∧ op ≤ 16) (ha : IsW w a) (hb : IsW w b) : IsW (rw2 op w) (binM op w a b) := by
  have hop : op = 3 ∨ op = 4 ∨ op = 5 ∨ op = 6 ∨ op = 7 ∨ op = 8 ∨ op = 9 ∨ op = 10 ∨ op = 11 ∨ op = 12 ∨ op = 13 ∨ op = 14 ∨ op = 15 ∨ op = 16 := by omega
  have hab := bits_w ha hb
  have ha' := ha
  obtain ⟨h1, h2, h3, h4⟩ := ha
  obtain ⟨_, _, k3, k4⟩ := hb
  have hp := pw w h1 h2
  have hz : IsW w 0 := ⟨h1, h2, by omega, by omega⟩
  rcases hop with rfl | rfl | rfl | rfl | rfl | rfl | rfl | rfl | rfl | rfl | rfl | rfl | rfl | rfl
  · exact mask_w h1 h2
  · exact mask_w h1 h2
  · exact mask_w h1 h2
  · by_cases h : b = 0
    · rw [bin_6z w a b h]; exact (show IsW w _ from ⟨h1, h2, by omega, by omega⟩)
    · rw [bin_6n w a b h]; exact ⟨h1, h2, Int.ediv_nonneg h3 k3, Int.le_trans (Int.ediv_le_self _ h3) h4⟩
  · by_cases h : b = 0
    · rw [bin_7z w a b h]; exact ha'
    · rw [bin_7n w a b h]; exact (show IsW w _ from ⟨h1, h2, Int.emod_nonneg _ h, by have := Int.emod_lt_of_pos a (b := b) (by omega); omega⟩)
  · exact hab.1
  · exact hab.2.1
  · exact hab.2.2
  · by_cases h : b < w
    · rw [bin_11l w a b h]; exact mask_w h1 h2
    · rw [bin_11g w a b h]; exact hz
  · by_cases h : b < w
    · rw [bin_12l w a b h]; exact div_w _ ha'
    · rw [bin_12g w a b h]; exact hz
  · exact mask_w h1 h2
  · exact one_w rfl
  · exact one_w rfl
  · exact one_w rfl
theorem un_w {op w a : Int} (ho : op = 1 ∨ op = 2) (ha : IsW w a) : IsW w (unM op w a) := by
  obtain ⟨h1, h2, h3, h4⟩ := ha
  have hp := pw w h1 h2
  rcases ho with rfl | rfl
  · show IsW w (2 ^ w.toNat - 1 - a)
    exact ⟨h1, h2, by omega, by omega⟩
  · exact mask_w h1 h2
theorem join_w {w a v b : Int} (ha : IsW w a) (hb : IsW v b) (h : w + v ≤ 16) : IsW (w + v) (joinM a v b) := by
  obtain ⟨h1, h2, h3, h4⟩ := ha
  obtain ⟨g1, g2, k3, k4⟩ := hb
  obtain ⟨e1, e2, _⟩ := join_lt w a v b h1 h3 h4 g1 k3 k4 h
  exact ⟨by omega, h, by unfold joinM; omega, e2⟩
theorem cut_w {a l n : Int} (h1 : 1 ≤ n) (h2 : n ≤ 16) : IsW n (cutM a l n) := mask_w h1 h2
theorem widen_w {w a n : Int} {s : Bool} (ha : IsW w a) (h1 : w ≤ n) (h2 : n ≤ 16) : IsW n (widenM w a n s) := by
  obtain ⟨g1, g2, h3, h4⟩ := ha
  unfold widenM
  split
  · exact mask_w (by omega) h2
  · have : (2 : Int) ^ w.toNat ≤ 2 ^ n.toNat := by
      rw [pow_nat, pow_nat]
      have := Nat.pow_le_pow_right (n := 2) (by decide) (show w.toNat ≤ n.toNat by omega)
      omega
    exact ⟨by omega, h2, h3, by omega⟩
end Go.Proofs.YthmababifgaejaaGreatDoor
namespace Go.Proofs.YthmababifgaejaaGreatDoor
open Go.ChangeShapes Go.WideShapes Go.ChangeAt Go.RowKit
set_option maxHeartbeats 2000000 in
theorem i_u1 (w a : Int) (h1 : 1 ≤ w) (h2 : w ≤ 16) (h3 : 0 ≤ a) (h4 : a ≤ 2 ^ w.toNat - 1) (W : World) :
    Calls Tryz.prog 72 #[.int .i64 1, .int .i64 w, .int .i64 a] W fun e W' => e = .returned (.int .i64 (2 ^ w.toNat - 1 - a)) ∧ W = W' := by
  obtain ⟨hp1, hp2⟩ := pw w h1 h2
  go_enter Tryz.func72, Tryz.ntmps72
  go_wp2
  go_ret
  exact ⟨rfl, rfl⟩
set_option maxHeartbeats 2000000 in
theorem i_u2 (w a : Int) (h1 : 1 ≤ w) (h2 : w ≤ 16) (h3 : 0 ≤ a) (h4 : a ≤ 2 ^ w.toNat - 1) (W : World) :
    Calls Tryz.prog 72 #[.int .i64 2, .int .i64 w, .int .i64 a] W fun e W' => e = .returned (.int .i64 (mask w (-a))) ∧ W = W' := by
  obtain ⟨hp1, hp2⟩ := pw w h1 h2
  go_enter Tryz.func72, Tryz.ntmps72
  go_wp2
  go_ret
  exact ⟨rfl, rfl⟩
set_option maxHeartbeats 2000000 in
theorem s_u1 (w a : Int) (h1 : 1 ≤ w) (h2 : w ≤ 16) (h3 : 0 ≤ a) (h4 : a ≤ 2 ^ w.toNat - 1) (W : World) :
    Calls Tryz.prog 80 #[.int .i64 1, .int .i64 w, .int .i64 a] W fun e W' => e = .returned (.int .i64 (2 ^ w.toNat - 1 - a)) ∧ W = W' := by
  obtain ⟨hp1, hp2⟩ := pw w h1 h2
  go_enter Tryz.func80, Tryz.ntmps80
  go_wp2
  go_ret
  exact ⟨rfl, rfl⟩
set_option maxHeartbeats 2000000 in
theorem s_u2 (w a : Int) (h1 : 1 ≤ w) (h2 : w ≤ 16) (h3 : 0 ≤ a) (h4 : a ≤ 2 ^ w.toNat - 1) (W : World) :
    Calls Tryz.prog 80 #[.int .i64 2, .int .i64 w, .int .i64 a] W fun e W' => e = .returned (.int .i64 (mask w (-a))) ∧ W = W' := by
  obtain ⟨hp1, hp2⟩ := pw w h1 h2
  go_enter Tryz.func80, Tryz.ntmps80
  go_wp2
  go_ret
  exact ⟨rfl, rfl⟩
theorem i_un (op w a : Int) (ho : op = 1 ∨ op = 2) (h1 : 1 ≤ w) (h2 : w ≤ 16) (h3 : 0 ≤ a) (h4 : a ≤ 2 ^ w.toNat - 1) (W : World) :
    Calls Tryz.prog 72 #[.int .i64 op, .int .i64 w, .int .i64 a] W fun e W' => e = .returned (.int .i64 (unM op w a)) ∧ W = W' := by
  rcases ho with rfl | rfl
  · exact i_u1 w a h1 h2 h3 h4 W
  · exact i_u2 w a h1 h2 h3 h4 W
theorem s_un (op w a : Int) (ho : op = 1 ∨ op = 2) (h1 : 1 ≤ w) (h2 : w ≤ 16) (h3 : 0 ≤ a) (h4 : a ≤ 2 ^ w.toNat - 1) (W : World) :
    Calls Tryz.prog 80 #[.int .i64 op, .int .i64 w, .int .i64 a] W fun e W' => e = .returned (.int .i64 (unM op w a)) ∧ W = W' := by
  rcases ho with rfl | rfl
  · exact s_u1 w a h1 h2 h3 h4 W
  · exact s_u2 w a h1 h2 h3 h4 W
end Go.Proofs.YthmababifgaejaaGreatDoor
