/- Whether a session is one. No condition. -/
import Derived.Test.YtbbalmeglgecgaaPrM
import Derived.Test.YtbbalmeglgecgaaAoM
namespace Go.Proofs.Ytbbalmeglgecgaa
open Go.ChangeShapes Go.WideShapes Go.ChangeAt Go.RowKit
def seB (vw vm vi fu : Int) (L : List InsR) (T : List (List Int)) : Bool := prB vw vm vi L && ((decide (1 ≤ fu) && decide (fu ≤ 60)) && (decide (T.length ≤ 64) && aoB vw vm vi L T))
theorem se_1 {vw vm vi fu : Int} {L : List InsR} {T : List (List Int)} (h : prB vw vm vi L = false) : seB vw vm vi fu L T = false := by unfold seB; rw [h]; rfl
theorem se_2 {vw vm vi fu : Int} {L : List InsR} {T : List (List Int)} (h : (decide (1 ≤ fu) && decide (fu ≤ 60)) = false) : seB vw vm vi fu L T = false := by unfold seB; rw [h]; simp
theorem se_3 {vw vm vi fu : Int} {L : List InsR} {T : List (List Int)} (h : ¬ T.length ≤ 64) : seB vw vm vi fu L T = false := by unfold seB; rw [decide_eq_false h]; simp
theorem se_4 {vw vm vi fu : Int} {L : List InsR} {T : List (List Int)} (h1 : prB vw vm vi L = true) (h2 : (decide (1 ≤ fu) && decide (fu ≤ 60)) = true) (h3 : T.length ≤ 64) : seB vw vm vi fu L T = aoB vw vm vi L T := by unfold seB; rw [h1, h2, decide_eq_true h3]; rfl
end Go.Proofs.Ytbbalmeglgecgaa
