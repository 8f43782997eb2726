/- The model of what are inputs of a program, and of what is a state of it. No condition. -/
import Derived.Test.YtbbalmeglgecgaaPrM
import Derived.Test.YtbbalmeglgecgaaFlInt
namespace Go.Proofs.Ytbbalmeglgecgaa
open Go.ChangeShapes Go.WideShapes Go.ChangeAt Go.RowKit
/-- all are operands of one kind -/
def oprB (o w size : Int) (l : List Int) : Bool := l.all fun n => opB o n w size
theorem oprB_ok {o w size : Int} {l : List Int} (h : ∀ j (hj : j < l.length), opB o l[j] w size = true) : oprB o w size l = true := by
  unfold oprB
  rw [List.all_eq_true]
  intro r hr
  obtain ⟨j, hj, rfl⟩ := List.getElem_of_mem hr
  exact h j hj
theorem oprB_bad {o w size : Int} {l : List Int} {j : Nat} (hj : j < l.length) (h : opB o l[j] w size = false) : oprB o w size l = false := by
  refine Bool.eq_false_iff.2 fun hh => ?_
  unfold oprB at hh
  have := List.all_eq_true.1 hh _ (List.getElem_mem hj)
  rw [h] at this
  cases this
/-- the list is inputs of the program -/
def inB (vw vm vi : Int) (L : List InsR) (l : List Int) : Bool := prB vw vm vi L && (decide ((l.length : Int) = vi) && oprB 2 vw L.length l)
end Go.Proofs.Ytbbalmeglgecgaa
