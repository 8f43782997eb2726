/- What unary operations, joined, cut and wider words are. No condition. -/
import Derived.Test.YtcihgechijiamaaDoorBinM
namespace Go.Proofs.YtcihgechijiamaaDoor
open Go.ChangeShapes Go.WideShapes Go.ChangeAt Go.RowKit
theorem pow_add_toNat (w v : Int) (h1 : 1 ≤ w) (g1 : 1 ≤ v) : (2 : Int) ^ (w + v).toNat = 2 ^ w.toNat * 2 ^ v.toNat := by
  have : (w + v).toNat = w.toNat + v.toNat := by omega
  rw [this, Int.pow_add]
theorem join_lt (w a v b : Int) (h1 : 1 ≤ w) (h3 : 0 ≤ a) (h4 : a ≤ 2 ^ w.toNat - 1) (g1 : 1 ≤ v) (_k3 : 0 ≤ b) (k4 : b ≤ 2 ^ v.toNat - 1) (g3 : w + v ≤ 16) : 0 ≤ a * 2 ^ v.toNat ∧ a * 2 ^ v.toNat + b ≤ 2 ^ (w + v).toNat - 1 ∧ (2 : Int) ^ (w + v).toNat ≤ 65536 := by
  have hp := (pw (w + v) (by omega) g3).2
  have e := pow_add_toNat w v h1 g1
  have hv : 0 < (2 : Int) ^ v.toNat := Int.pow_pos (by decide)
  have h5 : 0 ≤ a * 2 ^ v.toNat := Int.mul_nonneg h3 (by omega)
  have h6 : a * 2 ^ v.toNat ≤ (2 ^ w.toNat - 1) * 2 ^ v.toNat := Int.mul_le_mul_of_nonneg_right h4 (by omega)
  rw [Int.sub_mul, Int.one_mul] at h6
  rw [e] at hp ⊢
  generalize (2 : Int) ^ w.toNat * 2 ^ v.toNat = p at *
  omega
def unM (op w a : Int) : Int := if op = 1 then 2 ^ w.toNat - 1 - a else mask w (-a)
def joinM (a v b : Int) : Int := a * 2 ^ v.toNat + b
def cutM (a l n : Int) : Int := mask n (a / 2 ^ l.toNat)
def widenM (w a n : Int) (s : Bool) : Int := if s = true then mask n (sgM w a) else a
end Go.Proofs.YtcihgechijiamaaDoor
