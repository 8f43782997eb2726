/- The size of a slice of ints, as the laws take it. No condition. -/
import Derived.Test.YtbbalmeglgecgaaFlInt
namespace Go.Proofs.Ytbbalmeglgecgaa
open Go.ChangeShapes Go.WideShapes Go.ChangeAt Go.RowKit
set_option maxRecDepth 100000 in
theorem sz_Int (L : List Int) (v : Value) (l : Nat) (w : World) (hl : l ≤ 1048576) (hv : Cs.Shows w 0 1 v L.length (IntL.all L)) (hlen : L.length ≤ maxLen) :
    Calls Try.prog 84 #[v, .int .i64 l] w fun e w' => e = .returned (.int .i64 (left l L.length)) ∧ Below w.heap.size w w' := by
  have hml : maxLen = 9223372036854775807 := rfl
  obtain ⟨_, q, cap, rfl, _⟩ := hv
  generalize L.length = n at *
  by_cases h : n ≤ l
  · have he : left l n = (l : Int) - n := by unfold left; rw [if_pos h]
    rw [he]
    have hlo : 0 ≤ (l : Int) - n := by omega
    clear he
    go_enter Try.func84, Try.ntmps84
    go_wp2
    go_ret
    exact ⟨rfl, Below.refl _ _⟩
  · have he : left l n = -1 := by unfold left; rw [if_neg h]
    rw [he]
    have hlo : (l : Int) - n < 0 := by omega
    clear he
    go_enter Try.func84, Try.ntmps84
    go_wp2
    go_ret
    exact ⟨rfl, Below.refl _ _⟩
end Go.Proofs.Ytbbalmeglgecgaa
