/- Operands behind a text. No condition. -/
import Derived.Test.YtcihgechijiamaaDoorWk
import Derived.Lib.Strings
import Derived.Lib.ItoaNum
namespace Go.Proofs.YtcihgechijiamaaDoor
open Go.ChangeShapes Go.WideShapes Go.ChangeAt Go.RowKit
def itB (n : Int) : ByteArray := ⟨(Lib.itoa n).toArray⟩
/-- an operand behind a text -/
def wrV (o : Int) (s : ByteArray) (n : Int) : ByteArray := if o = 1 then s ++ ⟨#[32, 114]⟩ ++ itB n else if o = 2 ∨ o = 3 then s ++ ⟨#[32]⟩ ++ itB n else s
end Go.Proofs.YtcihgechijiamaaDoor
