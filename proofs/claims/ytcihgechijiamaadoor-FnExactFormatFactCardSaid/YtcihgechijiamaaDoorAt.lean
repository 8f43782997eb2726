/- Values that lie one behind the other in memory. -/
import Derived.Test.YtcihgechijiamaaDoorRows
import Derived.WalkKit
import Derived.ProofKit
import Derived.OpenShut
import Derived.Handy
import Derived.Lib.Hide
import Derived.Below
import Derived.IntWalk
import Derived.WalkLawsBesides
import Derived.Deep.QuietTactic
import Derived.BigQuiet
import Derived.OwnWalk
import Derived.Laws.OwnMore
import Derived.Deep.OwnRows
import Derived.WalkSmall
namespace Go.Proofs.YtcihgechijiamaaDoor
open Go.ChangeShapes Go.WideShapes Go.ChangeAt Go.RowKit
/-- the cells behind an address are these values -/
def At (w : World) (b o : Nat) (xs : List Value) : Prop := ∀ j u, xs[j]? = some u → w.cell? ⟨b, o + j, none⟩ = some u
theorem At.below {w w' : World} {b o : Nat} {xs : List Value} {B : Nat} (h : At w b o xs) (hb : Below B w w') (hlt : b < B) : At w' b o xs := fun j u hu => (hb.cell (p := ⟨b, o + j, none⟩) hlt).trans (h j u hu)
theorem At.int {w : World} {b o : Nat} {zs : List Int} (h : At w b o (zs.map (Value.int .i64))) (k : Nat) (hk : k < zs.length) : w.cell? ⟨b, o + k, none⟩ = some (.int .i64 zs[k]) := h k _ (by simp [hk])
end Go.Proofs.YtcihgechijiamaaDoor
