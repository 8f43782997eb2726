/- The model of the text of a fact. No condition. -/
import Derived.Test.YtcihgechijiamaaDoorFcM
import Derived.Test.YtcihgechijiamaaDoorWrM
namespace Go.Proofs.YtcihgechijiamaaDoor
open Go.ChangeShapes Go.WideShapes Go.ChangeAt Go.RowKit
/-- the names of facts -/
def fnL (k : Int) : List UInt8 := if k = 1 then [105, 115] else if k = 2 then [115, 97, 109, 101] else if k = 3 then [109, 111, 115, 116] else if k = 4 then [98, 105, 116] else if k = 5 then [115, 117, 109] else [111, 114, 100, 101, 114]
/-- the text of a fact: the register, the name, the operands -/
def fxT (k a b n : Int) : ByteArray := wrV (fkN k) (wrV (fkB k) ((⟨#[114]⟩ : ByteArray) ++ itB a ++ ⟨#[32]⟩ ++ ⟨(fnL k).toArray⟩) b) n
def fxV (vw vm vi : Int) (L : List InsR) (k a b n : Int) : ByteArray := if fcB vw vm vi L k a b n = true then fxT k a b n else ⟨#[]⟩
theorem fn_size (k : Int) : (⟨(fnL k).toArray⟩ : ByteArray).size ≤ 5 := by
  have h : (⟨(fnL k).toArray⟩ : ByteArray).size = (fnL k).length := by simp [ByteArray.size]
  rw [h]
  unfold fnL
  repeat (first | decide | split)
theorem fk_word {k : Int} : fkB k = 0 ∨ fkB k = 1 ∨ fkB k = 2 ∨ fkB k = 3 ∨ fkB k = 4 := by
  unfold fkB
  split
  · simp
  · split <;> simp
theorem fk_num {k : Int} : fkN k = 0 ∨ fkN k = 1 ∨ fkN k = 2 ∨ fkN k = 3 ∨ fkN k = 4 := by
  unfold fkN
  split <;> simp
end Go.Proofs.YtcihgechijiamaaDoor
