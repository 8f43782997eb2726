/-
  NARROWER THAN 'FOR EVERY INPUT', by the rows' own cells (each row's printed sentence says how): FnExactCodeName: laid.
  DERIVED. THE GIVEN ROWS OF THIS SEAT. 1 by the template 'for every input the law returns true; each argument reads behind the call as it read before'; 0 by the template 'total and deterministic' (their statements: YtogmiahkccmfbabDoorTotals.lean).
  GIVEN WITH THE SEED: the statements are not yours to turn. If you find one false, say at which input.
  Laid BY PROGRAM, IN A SANDBOX (cutbox-rows.mjs): the forced cells as the released guide's own fill.sh prints them over the translation 34c1a01164bc7bc4… (all of the seat's roots in one cut). By AI agents, Wed Nov 11 2026. No macro, syntax, notation, axiom, sorry.
-/
import Derived.Test.YtogmiahkccmfbabDoorChecked
import GoSem.Claim
import GoSem.ClaimJoined
import GoSem.ClaimMapViews
import Derived.JoinedTies
import Derived.KernelRfl
namespace Go.Proofs.YtogmiahkccmfbabDoor
/- THE CELL 'sum', in the pinned program and in every row, IS THE sha256 OF THE DUMP (.gsa) THAT YtogmiahkccmfbabDoorProg.lean LOADS. Nothing in Lean hashes anything: it is a label: what it is worth is what the hold of that sum in a sandbox is worth. -/
noncomputable def Tryd.pinned : Pinned := { name := "ytogmiahkccmfbabdoor", sum := "34c1a01164bc7bc4113997f589e771d8b43c1768ce1b0937a7adf8d6e6ea1d03", checked := Tryd.checked }
namespace Rows
def none {H : Type} : Left H := { results := [], args := [] }

/- WHAT THE LISTED PACKAGE-LEVEL VARIABLES READ AS WHEN THE CALL BEGINS. Each datum BY PROGRAM (the guide's laid-datum.mjs) off the statement by which the dump's own 'gosem.cut.vars' lays the variable. In a bare row this is a premise. The card (YtogmiahkccmfbabDoorCards.lean) ties it to the program's text. -/
def laid_loop_example_g03219_impl_codeNames {H : Type} : DataW H := .agg [.lit (.string [114, 117, 110, 110, 105, 110, 103]), .lit (.string [104, 97, 108, 116, 101, 100]), .lit (.string [101, 110, 100]), .lit (.string [105, 110, 112, 117, 116]), .lit (.string [111, 117, 116, 112, 117, 116]), .lit (.string [97, 100, 100, 114, 101, 115, 115]), .lit (.string [100, 105, 118, 105, 115, 105, 111, 110]), .lit (.string [115, 116, 97, 99, 107]), .lit (.string [99, 104, 101, 99, 107]), .lit (.string [98, 105, 103])]

/-- 'laws.FnExactCodeName': WHATEVER THE INPUT: true; the input reads as it did. -/
def fnExactCodeNameSpec : ChangeSpec := { name := "fnExactCodeName", vars := ["loop.example/g03219/impl.codeNames"], fn := fun _ => fun
  | [d, g1] => { results := [.lit (.bool true)], args := [d], vars := [g1] }
  | _ => none }
def fnExactCodeNameRow : OpenClaim := { program := "ytogmiahkccmfbabdoor", sum := "34c1a01164bc7bc4113997f589e771d8b43c1768ce1b0937a7adf8d6e6ea1d03", func := "loop.example/g03219/laws.FnExactCodeName", spec := "fnExactCodeName", named := ["loop.example/g03219/impl.codeNames"], apart := false, laid := [("loop.example/g03219/impl.codeNames", laid_loop_example_g03219_impl_codeNames)] }
def FnExactCodeNameSaid : Prop := fnExactCodeNameRow.holds Tryd.pinned (OpenSpec.ofChange fnExactCodeNameSpec)

/-- ITS FALSE NEIGHBOUR: 'it returns false'. Refute it at one input. -/
def fnExactCodeNameWrong : ChangeSpec := { name := "fnExactCodeName", vars := ["loop.example/g03219/impl.codeNames"], fn := fun _ => fun
  | [d, g1] => { results := [.lit (.bool false)], args := [d], vars := [g1] }
  | _ => none }
def FnExactCodeNameWrongFalsely : Prop := fnExactCodeNameRow.holds Tryd.pinned (OpenSpec.ofChange fnExactCodeNameWrong)

/- THE SECOND FORM. 'bulk': how many values and letters a reading holds, each counted each time it is reached (what is shared counts as often as it is met; a slice's spare places count too). A statement '..UptoSaid' is the law's where the arguments, and the package variables that the reading takes, are together of bulk at most 1048576: NARROWER than '..Said'. Prove '..Said' where nothing that the law and all that it calls make is longer than what came in: it says more and counts as full. Else prove '..UptoSaid'. A law counts once. -/
mutual
def uptoBulk {H : Type} : DataW H → Nat
  | .lit (.string bytes) => bytes.length + 1
  | .lit _ => 1
  | .nil => 1
  | .ptr d => uptoBulk d + 1
  | .slice elems spare => uptoBulkAll elems + uptoBulkAll spare + 1
  | .agg parts => uptoBulkAll parts + 1
  | .iface _ d => uptoBulk d + 1
  | .map entries => uptoBulkEntries entries + 1
  | .held _ => 1
def uptoBulkAll {H : Type} : List (DataW H) → Nat
  | [] => 0
  | d :: r => uptoBulk d + uptoBulkAll r
def uptoBulkEntries {H : Type} : List (Lit × DataW H) → Nat
  | [] => 0
  | x :: r => uptoBulkEntry x + uptoBulkEntries r
def uptoBulkEntry {H : Type} : Lit × DataW H → Nat
  | (.string bytes, d) => bytes.length + uptoBulk d + 1
  | (_, d) => uptoBulk d + 1
 end
def uptoSmall : (H : Type) → List (DataW H) → Bool := fun _ ds => decide (uptoBulkAll ds ≤ 1048576)
def OpenSpec.upto (s : _root_.Go.ChangeSpec) : _root_.Go.OpenSpec := { _root_.Go.OpenSpec.ofChange s with cond := some uptoSmall }

/-- 'laws.FnExactCodeName', WHERE WHAT IT READS IS OF BULK AT MOST 1048576: true; the input reads as it did. -/
def fnExactCodeNameUptoRow : OpenClaim := { program := "ytogmiahkccmfbabdoor", sum := "34c1a01164bc7bc4113997f589e771d8b43c1768ce1b0937a7adf8d6e6ea1d03", func := "loop.example/g03219/laws.FnExactCodeName", spec := "fnExactCodeName", named := ["loop.example/g03219/impl.codeNames"], apart := false, laid := [("loop.example/g03219/impl.codeNames", laid_loop_example_g03219_impl_codeNames)], narrowed := true }
def FnExactCodeNameUptoSaid : Prop := fnExactCodeNameUptoRow.holds Tryd.pinned (OpenSpec.upto fnExactCodeNameSpec)

end Rows
end Go.Proofs.YtogmiahkccmfbabDoor
