/- The model of PathOk. No condition. -/
import Derived.Test.YtbdkningngpgcaaPath
import Derived.Test.YtbdkningngpgcaaTmM
import Derived.Test.YtbdkningngpgcaaPrM
namespace Go.Proofs.Ytbdkningngpgcaa
open Go.ChangeShapes Go.WideShapes Go.ChangeAt Go.RowKit
def rgB (lo hi : Int) (l : List Int) : Bool := l.all fun x => decide (lo ≤ x) && decide (x ≤ hi)
theorem rg_bad {lo hi : Int} {l : List Int} {j : Nat} (h : j < l.length) (hb : (decide (lo ≤ l[j]) && decide (l[j] ≤ hi)) = false) : rgB lo hi l = false := by
  refine Bool.eq_false_iff.2 fun hh => ?_
  have := List.all_eq_true.1 hh _ (List.getElem_mem h)
  rw [hb] at this
  cases this
theorem rg_ok {lo hi : Int} {l : List Int} (h : ∀ j (hj : j < l.length), (decide (lo ≤ l[j]) && decide (l[j] ≤ hi)) = true) : rgB lo hi l = true := by
  unfold rgB
  rw [List.all_eq_true]
  intro x hx
  obtain ⟨j, hj, rfl⟩ := List.getElem_of_mem hx
  exact h j hj
noncomputable def paB (vw vm vi : Int) (L : List InsR) (x : PaR) : Bool :=
  prB vw vm vi L && ((decide (0 ≤ x.pc) && decide (x.pc ≤ L.length)) && (decide ((x.R.len : Int) = 4) && (decide ((x.M.len : Int) = vm) && (decide ((x.S.length : Int) ≤ 3) && ((decide (0 ≤ x.inn) && decide (x.inn ≤ vi)) && (decide ((x.O.len : Int) ≤ 6) &&
    ((decide (0 ≤ x.cd) && decide (x.cd ≤ 9)) && ((decide (0 ≤ x.st) && decide (x.st ≤ 400)) && (decide ((x.C.len : Int) ≤ 60) && (decide ((x.U.length : Int) ≤ 60) && (rgB 0 L.length x.S && (rgB 0 1 x.U && (tmB x.R vw && (tmB x.M vw && (tmB x.O vw && tmB x.C 1)))))))))))))))
end Go.Proofs.Ytbdkningngpgcaa
