/- Values as rows of three cells. No condition.  -/
import Derived.Test.YtkgdmamafemniaaDoorRows
import Derived.Test.YtkgdmamafemniaaDoorFlat
import Derived.WalkKit
import Derived.ProofKit
import Derived.OpenShut
import Derived.Handy
import Derived.Lib.Hide
import Derived.Below
import Derived.IntWalk
import Derived.WalkLawsBesides
import Derived.Deep.QuietTactic
import Derived.BigQuiet
import Derived.OwnWalk
import Derived.Laws.OwnMore
import Derived.Deep.OwnRows
import Derived.Deep.MidRow
import Derived.WalkSmall
import Derived.StillTailTactics
import Derived.KernelRfl
import Derived.Outline
namespace Go.Proofs.YtkgdmamafemniaaDoor
open Go.ChangeShapes Go.WideShapes Go.ChangeAt Go.RowKit
structure ValueR where
  f0 : ByteArray
  f1 : Int
  f2 : Int
namespace ValueR
def cells (r : ValueR) : List Value := [.string r.f0, .int .i64 r.f1, .int .i64 r.f2]
def Ok (r : ValueR) : Prop := r.f0.size ≤ maxLen ∧ (-9223372036854775808 ≤ r.f1 ∧ r.f1 ≤ 9223372036854775807) ∧ (-9223372036854775808 ≤ r.f2 ∧ r.f2 ≤ 9223372036854775807)
def cost (r : ValueR) : Nat := r.f0.size
theorem len (r : ValueR) : r.cells.length = 3 := rfl
/-- the cells of a list -/
def all (L : List ValueR) : List Value := L.flatMap cells
def costs (L : List ValueR) : Nat := (L.map fun r => 1 + r.cost).sum
theorem costs_take (L : List ValueR) (j : Nat) (h : j < L.length) : costs (L.take (j + 1)) = costs (L.take j) + (1 + L[j].cost) := by
  unfold costs
  rw [List.take_succ_eq_append_getElem h, List.map_append, List.sum_append]
  simp
theorem len_le (L : List ValueR) : L.length ≤ costs L := by
  unfold costs
  induction L with
  | nil => simp
  | cons r L ih => simp only [List.map_cons, List.sum_cons, List.length_cons]; omega
theorem costs_le (L : List ValueR) (j : Nat) : costs (L.take j) + (L.length - j) ≤ costs L := by
  have h : costs L = costs (L.take j) + costs (L.drop j) := by
    unfold costs
    rw [← List.sum_append, ← List.map_append, List.take_append_drop]
  have h2 := len_le (L.drop j)
  rw [List.length_drop] at h2
  omega
theorem cost_lt (L : List ValueR) (j : Nat) (h : j < L.length) : L[j].cost < costs L := by
  have h1 := costs_take L j h
  have h2 := costs_le L (j + 1)
  omega
end ValueR
open ValueR (all costs)
theorem zero_Value : (Tryd.prog.info? 74).map (fun i => (i.zero, i.size, i.bytes)) = some (some (.agg #[.string ByteArray.empty, .int .i64 0, .int .i64 0]), 3, 32) := by kernel_rfl
end Go.Proofs.YtkgdmamafemniaaDoor
