/- The specification's test of a range, as a bool. No condition. -/
import Derived.Test.YthmababifgaejaaGreatCmGStS
namespace Go.Proofs.YthmababifgaejaaGreat
open Go.ChangeShapes Go.RowKit
set_option maxRecDepth 100000 in
theorem s_rng (x a b : Int) (c : Bool) (h : (decide (a ≤ x) && decide (x ≤ b)) = c) (w : World) : Calls Tryz.prog 20 #[.int .i64 x, .int .i64 a, .int .i64 b] w fun e w' => e = .returned (.bool c) ∧ w = w' := by
  subst h
  by_cases h1 : a ≤ x
  · by_cases h2 : x ≤ b
    · go_enter Tryz.func20, Tryz.ntmps20
      go_wp2
      go_ret
      exact ⟨by simp [h1, h2], rfl⟩
    · go_enter Tryz.func20, Tryz.ntmps20
      go_wp2
      go_ret
      exact ⟨by simp [h2], rfl⟩
  · go_enter Tryz.func20, Tryz.ntmps20
    go_wp2
    go_ret
    exact ⟨by rw [show decide (a ≤ x) = false from by simp; omega]; rfl, rfl⟩
end Go.Proofs.YthmababifgaejaaGreat
