/-
  NARROWER THAN 'FOR EVERY INPUT', by the rows' own cells (each row's printed sentence says how): FnExactPathOk: loops.
  DERIVED. THE GIVEN ROWS OF THIS SEAT. 6 by the template 'for every input the law returns true; each argument reads behind the call as it read before'; 0 by the template 'total and deterministic' (their statements: YtbdkningngpgcaaTotals.lean).
  GIVEN WITH THE SEED: the statements are not yours to turn. If you find one false, say at which input.
  Laid BY PROGRAM, IN A SANDBOX (cutbox-rows.mjs): the forced cells as the released guide's own fill.sh prints them over the translation df1d286508cb1dbe… (all of the seat's roots in one cut). By AI agents, Wed Nov 11 2026. No macro, syntax, notation, axiom, sorry.
-/
import Derived.Test.YtbdkningngpgcaaChecked
import GoSem.Claim
import GoSem.ClaimJoined
import GoSem.ClaimMapViews
import Derived.JoinedTies
import Derived.KernelRfl
namespace Go.Proofs.Ytbdkningngpgcaa
/- THE CELL 'sum', in the pinned program and in every row, IS THE sha256 OF THE DUMP (.gsa) THAT YtbdkningngpgcaaProg.lean LOADS. Nothing in Lean hashes anything: it is a label: what it is worth is what the hold of that sum in a sandbox is worth. -/
noncomputable def Try.pinned : Pinned := { name := "ytbdkningngpgcaa", sum := "df1d286508cb1dbed1e6e4a636407d172d1ea62c87be8cc7f3e3de076e56d92b", checked := Try.checked }
namespace Rows
def none {H : Type} : Left H := { results := [], args := [] }

/-- 'laws.FnExactAllInputs': WHATEVER THE INPUT: true; the input reads as it did. -/
def fnExactAllInputsSpec : ChangeSpec := { name := "fnExactAllInputs", fn := fun _ => fun
  | [d] => { results := [.lit (.bool true)], args := [d] }
  | _ => none }
def fnExactAllInputsRow : OpenClaim := { program := "ytbdkningngpgcaa", sum := "df1d286508cb1dbed1e6e4a636407d172d1ea62c87be8cc7f3e3de076e56d92b", func := "loop.example/g03219/laws.FnExactAllInputs", spec := "fnExactAllInputs", apart := false }
def FnExactAllInputsSaid : Prop := fnExactAllInputsRow.holds Try.pinned (OpenSpec.ofChange fnExactAllInputsSpec)

/-- ITS FALSE NEIGHBOUR: 'it returns false'. Refute it at one input. -/
def fnExactAllInputsWrong : ChangeSpec := { name := "fnExactAllInputs", fn := fun _ => fun
  | [d] => { results := [.lit (.bool false)], args := [d] }
  | _ => none }
def FnExactAllInputsWrongFalsely : Prop := fnExactAllInputsRow.holds Try.pinned (OpenSpec.ofChange fnExactAllInputsWrong)

/-- 'laws.FnExactStepState': WHATEVER THE INPUT: true; the input reads as it did. -/
def fnExactStepStateSpec : ChangeSpec := { name := "fnExactStepState", fn := fun _ => fun
  | [d1, d2, d3] => { results := [.lit (.bool true)], args := [d1, d2, d3] }
  | _ => none }
def fnExactStepStateRow : OpenClaim := { program := "ytbdkningngpgcaa", sum := "df1d286508cb1dbed1e6e4a636407d172d1ea62c87be8cc7f3e3de076e56d92b", func := "loop.example/g03219/laws.FnExactStepState", spec := "fnExactStepState", unfollowed := true, recurses := true, apart := false }
def FnExactStepStateSaid : Prop := fnExactStepStateRow.holds Try.pinned (OpenSpec.ofChange fnExactStepStateSpec)

/-- ITS FALSE NEIGHBOUR: 'it returns false'. Refute it at one input. -/
def fnExactStepStateWrong : ChangeSpec := { name := "fnExactStepState", fn := fun _ => fun
  | [d1, d2, d3] => { results := [.lit (.bool false)], args := [d1, d2, d3] }
  | _ => none }
def FnExactStepStateWrongFalsely : Prop := fnExactStepStateRow.holds Try.pinned (OpenSpec.ofChange fnExactStepStateWrong)

/-- 'laws.FnExactReachedOf': WHATEVER THE INPUT: true; the input reads as it did. -/
def fnExactReachedOfSpec : ChangeSpec := { name := "fnExactReachedOf", fn := fun _ => fun
  | [d] => { results := [.lit (.bool true)], args := [d] }
  | _ => none }
def fnExactReachedOfRow : OpenClaim := { program := "ytbdkningngpgcaa", sum := "df1d286508cb1dbed1e6e4a636407d172d1ea62c87be8cc7f3e3de076e56d92b", func := "loop.example/g03219/laws.FnExactReachedOf", spec := "fnExactReachedOf", recurses := true, apart := false }
def FnExactReachedOfSaid : Prop := fnExactReachedOfRow.holds Try.pinned (OpenSpec.ofChange fnExactReachedOfSpec)

/-- ITS FALSE NEIGHBOUR: 'it returns false'. Refute it at one input. -/
def fnExactReachedOfWrong : ChangeSpec := { name := "fnExactReachedOf", fn := fun _ => fun
  | [d] => { results := [.lit (.bool false)], args := [d] }
  | _ => none }
def FnExactReachedOfWrongFalsely : Prop := fnExactReachedOfRow.holds Try.pinned (OpenSpec.ofChange fnExactReachedOfWrong)

/-- 'laws.FnExactLoopHeads': WHATEVER THE INPUT: true; the input reads as it did. -/
def fnExactLoopHeadsSpec : ChangeSpec := { name := "fnExactLoopHeads", fn := fun _ => fun
  | [d] => { results := [.lit (.bool true)], args := [d] }
  | _ => none }
def fnExactLoopHeadsRow : OpenClaim := { program := "ytbdkningngpgcaa", sum := "df1d286508cb1dbed1e6e4a636407d172d1ea62c87be8cc7f3e3de076e56d92b", func := "loop.example/g03219/laws.FnExactLoopHeads", spec := "fnExactLoopHeads", recurses := true, apart := false }
def FnExactLoopHeadsSaid : Prop := fnExactLoopHeadsRow.holds Try.pinned (OpenSpec.ofChange fnExactLoopHeadsSpec)

/-- ITS FALSE NEIGHBOUR: 'it returns false'. Refute it at one input. -/
def fnExactLoopHeadsWrong : ChangeSpec := { name := "fnExactLoopHeads", fn := fun _ => fun
  | [d] => { results := [.lit (.bool false)], args := [d] }
  | _ => none }
def FnExactLoopHeadsWrongFalsely : Prop := fnExactLoopHeadsRow.holds Try.pinned (OpenSpec.ofChange fnExactLoopHeadsWrong)

/-- 'laws.FnExactPathOk': WHATEVER THE INPUT: true; the input reads as it did. -/
def fnExactPathOkSpec : ChangeSpec := { name := "fnExactPathOk", fn := fun _ => fun
  | [d1, d2] => { results := [.lit (.bool true)], args := [d1, d2] }
  | _ => none }
def fnExactPathOkRow : OpenClaim := { program := "ytbdkningngpgcaa", sum := "df1d286508cb1dbed1e6e4a636407d172d1ea62c87be8cc7f3e3de076e56d92b", func := "loop.example/g03219/laws.FnExactPathOk", spec := "fnExactPathOk", inPlace := ["internal/bytealg.abigen_runtime_cmpstring", "slices.overlaps[loop.example/g03219/impl.Value]"], unfollowed := true, recurses := true, loops := true, apart := false }
def FnExactPathOkSaid : Prop := fnExactPathOkRow.holds Try.pinned (OpenSpec.ofChange fnExactPathOkSpec)

/-- ITS FALSE NEIGHBOUR: 'it returns false'. Refute it at one input. -/
def fnExactPathOkWrong : ChangeSpec := { name := "fnExactPathOk", fn := fun _ => fun
  | [d1, d2] => { results := [.lit (.bool false)], args := [d1, d2] }
  | _ => none }
def FnExactPathOkWrongFalsely : Prop := fnExactPathOkRow.holds Try.pinned (OpenSpec.ofChange fnExactPathOkWrong)

/-- 'laws.FnExactStartPath': WHATEVER THE INPUT: true; the input reads as it did. -/
def fnExactStartPathSpec : ChangeSpec := { name := "fnExactStartPath", fn := fun _ => fun
  | [d] => { results := [.lit (.bool true)], args := [d] }
  | _ => none }
def fnExactStartPathRow : OpenClaim := { program := "ytbdkningngpgcaa", sum := "df1d286508cb1dbed1e6e4a636407d172d1ea62c87be8cc7f3e3de076e56d92b", func := "loop.example/g03219/laws.FnExactStartPath", spec := "fnExactStartPath", recurses := true, apart := false }
def FnExactStartPathSaid : Prop := fnExactStartPathRow.holds Try.pinned (OpenSpec.ofChange fnExactStartPathSpec)

/-- ITS FALSE NEIGHBOUR: 'it returns false'. Refute it at one input. -/
def fnExactStartPathWrong : ChangeSpec := { name := "fnExactStartPath", fn := fun _ => fun
  | [d] => { results := [.lit (.bool false)], args := [d] }
  | _ => none }
def FnExactStartPathWrongFalsely : Prop := fnExactStartPathRow.holds Try.pinned (OpenSpec.ofChange fnExactStartPathWrong)

/- THE SECOND FORM. 'bulk': how many values and letters a reading holds, each counted each time it is reached (what is shared counts as often as it is met; a slice's spare places count too). A statement '..UptoSaid' is the law's where the arguments, and the package variables that the reading takes, are together of bulk at most 1048576: NARROWER than '..Said'. Prove '..Said' where nothing that the law and all that it calls make is longer than what came in: it says more and counts as full. Else prove '..UptoSaid'. A law counts once. -/
mutual
def uptoBulk {H : Type} : DataW H → Nat
  | .lit (.string bytes) => bytes.length + 1
  | .lit _ => 1
  | .nil => 1
  | .ptr d => uptoBulk d + 1
  | .slice elems spare => uptoBulkAll elems + uptoBulkAll spare + 1
  | .agg parts => uptoBulkAll parts + 1
  | .iface _ d => uptoBulk d + 1
  | .map entries => uptoBulkEntries entries + 1
  | .held _ => 1
def uptoBulkAll {H : Type} : List (DataW H) → Nat
  | [] => 0
  | d :: r => uptoBulk d + uptoBulkAll r
def uptoBulkEntries {H : Type} : List (Lit × DataW H) → Nat
  | [] => 0
  | x :: r => uptoBulkEntry x + uptoBulkEntries r
def uptoBulkEntry {H : Type} : Lit × DataW H → Nat
  | (.string bytes, d) => bytes.length + uptoBulk d + 1
  | (_, d) => uptoBulk d + 1
 end
def uptoSmall : (H : Type) → List (DataW H) → Bool := fun _ ds => decide (uptoBulkAll ds ≤ 1048576)
def OpenSpec.upto (s : _root_.Go.ChangeSpec) : _root_.Go.OpenSpec := { _root_.Go.OpenSpec.ofChange s with cond := some uptoSmall }

/-- 'laws.FnExactAllInputs', WHERE WHAT IT READS IS OF BULK AT MOST 1048576: true; the input reads as it did. -/
def fnExactAllInputsUptoRow : OpenClaim := { program := "ytbdkningngpgcaa", sum := "df1d286508cb1dbed1e6e4a636407d172d1ea62c87be8cc7f3e3de076e56d92b", func := "loop.example/g03219/laws.FnExactAllInputs", spec := "fnExactAllInputs", apart := false, narrowed := true }
def FnExactAllInputsUptoSaid : Prop := fnExactAllInputsUptoRow.holds Try.pinned (OpenSpec.upto fnExactAllInputsSpec)

/-- 'laws.FnExactStepState', WHERE WHAT IT READS IS OF BULK AT MOST 1048576: true; the input reads as it did. -/
def fnExactStepStateUptoRow : OpenClaim := { program := "ytbdkningngpgcaa", sum := "df1d286508cb1dbed1e6e4a636407d172d1ea62c87be8cc7f3e3de076e56d92b", func := "loop.example/g03219/laws.FnExactStepState", spec := "fnExactStepState", unfollowed := true, recurses := true, apart := false, narrowed := true }
def FnExactStepStateUptoSaid : Prop := fnExactStepStateUptoRow.holds Try.pinned (OpenSpec.upto fnExactStepStateSpec)

/-- 'laws.FnExactReachedOf', WHERE WHAT IT READS IS OF BULK AT MOST 1048576: true; the input reads as it did. -/
def fnExactReachedOfUptoRow : OpenClaim := { program := "ytbdkningngpgcaa", sum := "df1d286508cb1dbed1e6e4a636407d172d1ea62c87be8cc7f3e3de076e56d92b", func := "loop.example/g03219/laws.FnExactReachedOf", spec := "fnExactReachedOf", recurses := true, apart := false, narrowed := true }
def FnExactReachedOfUptoSaid : Prop := fnExactReachedOfUptoRow.holds Try.pinned (OpenSpec.upto fnExactReachedOfSpec)

/-- 'laws.FnExactLoopHeads', WHERE WHAT IT READS IS OF BULK AT MOST 1048576: true; the input reads as it did. -/
def fnExactLoopHeadsUptoRow : OpenClaim := { program := "ytbdkningngpgcaa", sum := "df1d286508cb1dbed1e6e4a636407d172d1ea62c87be8cc7f3e3de076e56d92b", func := "loop.example/g03219/laws.FnExactLoopHeads", spec := "fnExactLoopHeads", recurses := true, apart := false, narrowed := true }
def FnExactLoopHeadsUptoSaid : Prop := fnExactLoopHeadsUptoRow.holds Try.pinned (OpenSpec.upto fnExactLoopHeadsSpec)

/-- 'laws.FnExactPathOk', WHERE WHAT IT READS IS OF BULK AT MOST 1048576: true; the input reads as it did. -/
def fnExactPathOkUptoRow : OpenClaim := { program := "ytbdkningngpgcaa", sum := "df1d286508cb1dbed1e6e4a636407d172d1ea62c87be8cc7f3e3de076e56d92b", func := "loop.example/g03219/laws.FnExactPathOk", spec := "fnExactPathOk", inPlace := ["internal/bytealg.abigen_runtime_cmpstring", "slices.overlaps[loop.example/g03219/impl.Value]"], unfollowed := true, recurses := true, loops := true, apart := false, narrowed := true }
def FnExactPathOkUptoSaid : Prop := fnExactPathOkUptoRow.holds Try.pinned (OpenSpec.upto fnExactPathOkSpec)

/-- 'laws.FnExactStartPath', WHERE WHAT IT READS IS OF BULK AT MOST 1048576: true; the input reads as it did. -/
def fnExactStartPathUptoRow : OpenClaim := { program := "ytbdkningngpgcaa", sum := "df1d286508cb1dbed1e6e4a636407d172d1ea62c87be8cc7f3e3de076e56d92b", func := "loop.example/g03219/laws.FnExactStartPath", spec := "fnExactStartPath", recurses := true, apart := false, narrowed := true }
def FnExactStartPathUptoSaid : Prop := fnExactStartPathUptoRow.holds Try.pinned (OpenSpec.upto fnExactStartPathSpec)

end Rows
end Go.Proofs.Ytbdkningngpgcaa
