/- The model of the text of an instruction. No condition. -/
import Derived.Test.YtmmcpjdcfhgkiabDoorPrM
import Derived.Test.YtmmcpjdcfhgkiabDoorOpTb
import Derived.Lib.Strings
import Derived.Lib.ItoaNum
namespace Go.Proofs.YtmmcpjdcfhgkiabDoor
open Go.ChangeShapes Go.WideShapes Go.ChangeAt Go.RowKit
/-- the names of instructions -/
def inL (op : Int) : List UInt8 :=
  if op = 1 then [115, 101, 116] else if op = 2 then [109, 111, 118, 101] else if op = 4 then [110, 111, 116] else if op = 5 then [105, 110] else if op = 6 then [111, 117, 116] else if op = 7 then [108, 111, 97, 100] else if op = 8 then [115, 116, 111, 114, 101] else if op = 9 then [106, 117, 109, 112] else if op = 10 then [122, 101, 114, 111] else if op = 11 then [99, 97, 108, 108] else if op = 12 then [114, 101, 116] else if op = 13 then [99, 104, 101, 99, 107] else if op = 14 then [104, 97, 108, 116] else []
def itB (n : Int) : ByteArray := ⟨(Lib.itoa n).toArray⟩
/-- an operand behind a text -/
def wrV (o : Int) (s : ByteArray) (n : Int) : ByteArray := if o = 1 then s ++ ⟨#[32, 114]⟩ ++ itB n else if o = 2 ∨ o = 3 then s ++ ⟨#[32]⟩ ++ itB n else s
/-- the word of an instruction -/
def wdV (op c : Int) : ByteArray := if op = 3 then nm c.toNat else ⟨(inL op).toArray⟩
/-- the text of an instruction that can be in a program -/
def itV (r : InsR) : ByteArray := wrV (fB r.f0) (wrV (fA r.f0) (wdV r.f0 r.f3) r.f1) r.f2
/-- .. of any one -/
def fiB (r : InsR) (w size : Int) : Bool := (decide (2 ≤ w) && decide (w ≤ 8)) && ((decide (1 ≤ size) && decide (size ≤ 40)) && insB r w size)
def fiV (r : InsR) (w size : Int) : ByteArray := if fiB r w size = true then itV r else ⟨#[]⟩
theorem nm_size (k : Nat) : (nm k).size ≤ 10 := by
  by_cases h : k < 17
  · have : k = 0 ∨ k = 1 ∨ k = 2 ∨ k = 3 ∨ k = 4 ∨ k = 5 ∨ k = 6 ∨ k = 7 ∨ k = 8 ∨ k = 9 ∨ k = 10 ∨ k = 11 ∨ k = 12 ∨ k = 13 ∨ k = 14 ∨ k = 15 ∨ k = 16 := by omega
    rcases this with h | h | h | h | h | h | h | h | h | h | h | h | h | h | h | h | h <;> subst h <;> decide
  · unfold nm
    rw [List.getD_eq_getElem?_getD, List.getElem?_eq_none (by simp [nmL]; omega)]
    decide
theorem inL_len (op : Int) : (inL op).length ≤ 5 := by
  rcases op_cases op with rfl | rfl | rfl | rfl | rfl | rfl | rfl | rfl | rfl | rfl | rfl | rfl | rfl | rfl | hop
  any_goals decide
  unfold inL
  repeat (rw [if_neg (by omega)])
  decide
theorem wd_size (op c : Int) : (wdV op c).size ≤ 10 := by
  unfold wdV
  split
  · exact nm_size _
  · have h : (⟨(inL op).toArray⟩ : ByteArray).size = (inL op).length := by simp [ByteArray.size]
    have := inL_len op
    omega
end Go.Proofs.YtmmcpjdcfhgkiabDoor
