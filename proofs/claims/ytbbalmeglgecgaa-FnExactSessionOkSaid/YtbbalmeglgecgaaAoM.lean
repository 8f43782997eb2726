/- Lists of tests: whether all of them are inputs of a program. No condition. -/
import Derived.Test.YtbbalmeglgecgaaInM
import Derived.Test.YtbbalmeglgecgaaIntSSb
namespace Go.Proofs.Ytbbalmeglgecgaa
open Go.ChangeShapes Go.WideShapes Go.ChangeAt Go.RowKit
def aoB (vw vm vi : Int) (L : List InsR) (T : List (List Int)) : Bool := T.all fun I => inB vw vm vi L I
theorem ao_at {vw vm vi : Int} {L : List InsR} {T : List (List Int)} (h : aoB vw vm vi L T = true) (j : Nat) (hj : j < T.length) : inB vw vm vi L T[j] = true := List.all_eq_true.1 h _ (List.getElem_mem hj)
theorem ao_no {vw vm vi : Int} {L : List InsR} {T : List (List Int)} (j : Nat) (hj : j < T.length) (h : inB vw vm vi L T[j] = false) : aoB vw vm vi L T = false := by
  rw [Bool.eq_false_iff]
  intro h2
  rw [ao_at h2 j hj] at h
  cases h
theorem ao_yes {vw vm vi : Int} {L : List InsR} {T : List (List Int)} (h : ∀ j (hj : j < T.length), inB vw vm vi L T[j] = true) : aoB vw vm vi L T = true := List.all_eq_true.2 fun I hI => by
  obtain ⟨j, hj, rfl⟩ := List.getElem_of_mem hI
  exact h j hj
end Go.Proofs.Ytbbalmeglgecgaa
