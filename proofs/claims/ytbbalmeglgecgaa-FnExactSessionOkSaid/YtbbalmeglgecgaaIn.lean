/- The specification's test of a range. No condition. -/
import Derived.Test.YtbbalmeglgecgaaRows
import Derived.Test.YtbbalmeglgecgaaCs
import Derived.WalkSpells
namespace Go.Proofs.Ytbbalmeglgecgaa
open Go.ChangeShapes Go.RowKit
set_option maxRecDepth 100000 in
theorem s_in_lo (x a b : Int) (h : x < a) (w : World) : Calls Try.prog 49 #[.int .i64 x, .int .i64 a, .int .i64 b] w fun e w' => e = .returned (.bool false) ∧ w = w' := by
  go_enter Try.func49, Try.ntmps49
  go_wp2
  go_ret
  exact ⟨rfl, rfl⟩
set_option maxRecDepth 100000 in
theorem s_in_hi (x a b : Int) (h : b < x) (w : World) : Calls Try.prog 49 #[.int .i64 x, .int .i64 a, .int .i64 b] w fun e w' => e = .returned (.bool false) ∧ w = w' := by
  by_cases h1 : a ≤ x
  · have h2 : decide (x ≤ b) = false := by simp; omega
    go_enter Try.func49, Try.ntmps49
    go_wp2
    go_ret
    exact ⟨rfl, rfl⟩
  · exact s_in_lo x a b (by omega) w
set_option maxRecDepth 100000 in
theorem s_in_ok (x a b : Int) (h1 : a ≤ x) (h2 : x ≤ b) (w : World) : Calls Try.prog 49 #[.int .i64 x, .int .i64 a, .int .i64 b] w fun e w' => e = .returned (.bool true) ∧ w = w' := by
  go_enter Try.func49, Try.ntmps49
  go_wp2
  go_ret
  exact ⟨rfl, rfl⟩
theorem sz_arr (l : List UInt8) : (⟨l.toArray⟩ : ByteArray).size = l.length := by simp [ByteArray.size]
end Go.Proofs.Ytbbalmeglgecgaa
