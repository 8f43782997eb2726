/- Decimal digits, and the byte that becomes a string. No condition. -/
import Derived.Test.YtcihgechijiamaaDoorRows
import Derived.WalkKit
import Derived.ProofKit
import Derived.OpenShut
import Derived.ShutString
import Derived.Handy
import Derived.Lib.Hide
import Derived.Lib.Strings
import Derived.Lib.ItoaNum
import Derived.WalkLawsBesides
import Derived.Below
import Derived.IntWalk
import Derived.Deep.RegionWith
namespace Go.Proofs.YtcihgechijiamaaDoor
open Go.ChangeShapes Go.WideShapes Go.ChangeAt Go.RowKit
theorem conv1 (w : World) (c : UInt8) (n : Int) (hn : (c.toNat : Int) = n) : (convert 97 9 (.slice (some ⟨w.heap.size, 0, none⟩) 1 1)).run Tryd.prog (w.alloc (.cells #[.int .u8 n] 5)) = .ok (.string ⟨#[c]⟩) (w.alloc (.cells #[.int .u8 n] 5)) :=
  run_convert_bytes_back (w.alloc (.cells #[.int .u8 n] 5)) 97 9 5 ⟨w.heap.size, 0, none⟩ 1 [c] Tryd.underlying97 Tryd.underlying5 Tryd.underlying9 (fun j hj => by
    have : j = 0 := by simpa using hj
    subst this
    rw [← hn]
    exact World.cell?_alloc_at _ _ _ 0 rfl)

theorem nDigits_le : ∀ (d n : Nat), n < 10 ^ (d + 1) → Lib.nDigits n ≤ d + 1
  | 0, n, h => by rw [Lib.nDigits_small (by simpa using h)]; exact Nat.le_refl _
  | d + 1, n, h => by
    by_cases h9 : n < 10
    · rw [Lib.nDigits_small h9]; omega
    · have := nDigits_le d (n / 10) (by rw [Nat.pow_succ] at h; omega)
      rw [Lib.nDigits, dif_neg h9]; omega
theorem dec_len (n : Nat) (h : n ≤ 9223372036854775808) : (Lib.decDigits n).length ≤ 20 := by
  rw [Lib.decDigits_length]
  exact nDigits_le 19 n (by omega)
theorem cat1 (x : UInt8) (acc : List UInt8) : (⟨#[x]⟩ : ByteArray) ++ ⟨acc.toArray⟩ = ⟨(x :: acc).toArray⟩ := by
  rw [ByteArray.ext_iff]
  simp
theorem digit_of (k : Nat) : ∃ c : UInt8, (c.toNat : Int) = 48 + (k : Int) % 10 ∧ (9 < k → Lib.decDigits k = Lib.decDigits (k / 10) ++ [c]) ∧ (k ≤ 9 → Lib.decDigits k = [c]) := by
  refine ⟨UInt8.ofNat (48 + k % 10), by simp; omega, fun h => ?_, fun h => ?_⟩
  · rw [Lib.decDigits, dif_neg (by omega)]
  · rw [Lib.decDigits_one (by omega), Nat.mod_eq_of_lt (by omega)]
end Go.Proofs.YtcihgechijiamaaDoor
