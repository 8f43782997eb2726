/- Strings that lie one behind the other in memory; what the seat's program says of a string's type. -/
import Derived.Test.YtcihgechijiamaaDoorAt
import Derived.Lib.Strings
namespace Go.Proofs.YtcihgechijiamaaDoor
open Go.ChangeShapes Go.WideShapes Go.ChangeAt Go.RowKit
theorem At.str {w : World} {b o : Nat} {xs : List ByteArray} (h : At w b o (xs.map Value.string)) (k : Nat) (hk : k < xs.length) : w.cell? ⟨b, o + k, none⟩ = some (.string xs[k]) := h k _ (by simp [hk])
theorem infoStr : (Tryd.prog.info? 9).map (fun i => (i.zero, i.size, i.bytes)) = some (some (.string ByteArray.empty), 1, 16) := by kernel_rfl
end Go.Proofs.YtcihgechijiamaaDoor
