/- The model of SameRun. No condition. -/
import Derived.Test.YtogmiahkccmfbabState
namespace Go.Proofs.Ytogmiahkccmfbab
open Go.ChangeShapes Go.WideShapes Go.ChangeAt Go.RowKit
def srB (x y : StR) : Bool := decide (x.cd = y.cd) && decide (x.O = y.O)
end Go.Proofs.Ytogmiahkccmfbab
