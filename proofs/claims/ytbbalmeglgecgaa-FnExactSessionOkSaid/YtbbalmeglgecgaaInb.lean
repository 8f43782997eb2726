/- The specification's test of a range, as a bool. No condition. -/
import Derived.Test.YtbbalmeglgecgaaIn
namespace Go.Proofs.Ytbbalmeglgecgaa
open Go.ChangeShapes Go.RowKit
set_option maxRecDepth 100000 in
theorem s_rng (x a b : Int) (c : Bool) (h : (decide (a ≤ x) && decide (x ≤ b)) = c) (w : World) : Calls Try.prog 49 #[.int .i64 x, .int .i64 a, .int .i64 b] w fun e w' => e = .returned (.bool c) ∧ w = w' := by
  subst h
  by_cases h1 : a ≤ x
  · by_cases h2 : x ≤ b
    · go_enter Try.func49, Try.ntmps49
      go_wp2
      go_ret
      exact ⟨by simp [h1, h2], rfl⟩
    · go_enter Try.func49, Try.ntmps49
      go_wp2
      go_ret
      exact ⟨by simp [h2], rfl⟩
  · go_enter Try.func49, Try.ntmps49
    go_wp2
    go_ret
    exact ⟨by rw [show decide (a ≤ x) = false from by simp; omega]; rfl, rfl⟩
end Go.Proofs.Ytbbalmeglgecgaa
