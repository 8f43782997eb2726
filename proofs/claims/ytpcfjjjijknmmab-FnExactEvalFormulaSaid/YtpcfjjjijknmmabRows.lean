/-
  NARROWER THAN 'FOR EVERY INPUT', by the rows' own cells (each row's printed sentence says how): FnExactIsSimple: loops · FnExactTableOf: loops.
  DERIVED. THE GIVEN ROWS OF THIS SEAT. 7 by the template 'for every input the law returns true; each argument reads behind the call as it read before'; 0 by the template 'total and deterministic' (their statements: YtpcfjjjijknmmabTotals.lean).
  GIVEN WITH THE SEED: the statements are not yours to turn. If you find one false, say at which input.
  Laid BY PROGRAM, IN A SANDBOX (cutbox-rows.mjs): the forced cells as the released guide's own fill.sh prints them over the translation 3ef8745d2dfcafc5… (all of the seat's roots in one cut). By AI agents, Wed Nov 11 2026. No macro, syntax, notation, axiom, sorry.
-/
import Derived.Test.YtpcfjjjijknmmabChecked
import GoSem.Claim
import GoSem.ClaimJoined
import GoSem.ClaimMapViews
import Derived.JoinedTies
import Derived.KernelRfl
namespace Go.Proofs.Ytpcfjjjijknmmab
/- THE CELL 'sum', in the pinned program and in every row, IS THE sha256 OF THE DUMP (.gsa) THAT YtpcfjjjijknmmabProg.lean LOADS. Nothing in Lean hashes anything: it is a label: what it is worth is what the hold of that sum in a sandbox is worth. -/
noncomputable def Try.pinned : Pinned := { name := "ytpcfjjjijknmmab", sum := "3ef8745d2dfcafc5be1fef5beea23cf431917490b046ea3cd4c8022e5b0a4198", checked := Try.checked }
namespace Rows
def none {H : Type} : Left H := { results := [], args := [] }

/-- 'laws.FnExactIsSimple': WHATEVER THE INPUT: true; the input reads as it did. -/
def fnExactIsSimpleSpec : ChangeSpec := { name := "fnExactIsSimple", fn := fun _ => fun
  | [d] => { results := [.lit (.bool true)], args := [d] }
  | _ => none }
def fnExactIsSimpleRow : OpenClaim := { program := "ytpcfjjjijknmmab", sum := "3ef8745d2dfcafc5be1fef5beea23cf431917490b046ea3cd4c8022e5b0a4198", func := "loop.example/g03219/laws.FnExactIsSimple", spec := "fnExactIsSimple", inPlace := ["internal/bytealg.abigen_runtime_cmpstring", "slices.overlaps[loop.example/g03219/impl.Value]"], unfollowed := true, recurses := true, loops := true, apart := false }
def FnExactIsSimpleSaid : Prop := fnExactIsSimpleRow.holds Try.pinned (OpenSpec.ofChange fnExactIsSimpleSpec)

/-- ITS FALSE NEIGHBOUR: 'it returns false'. Refute it at one input. -/
def fnExactIsSimpleWrong : ChangeSpec := { name := "fnExactIsSimple", fn := fun _ => fun
  | [d] => { results := [.lit (.bool false)], args := [d] }
  | _ => none }
def FnExactIsSimpleWrongFalsely : Prop := fnExactIsSimpleRow.holds Try.pinned (OpenSpec.ofChange fnExactIsSimpleWrong)

/-- 'laws.FnExactTableOf': WHATEVER THE INPUT: true; the input reads as it did. -/
def fnExactTableOfSpec : ChangeSpec := { name := "fnExactTableOf", fn := fun _ => fun
  | [d] => { results := [.lit (.bool true)], args := [d] }
  | _ => none }
def fnExactTableOfRow : OpenClaim := { program := "ytpcfjjjijknmmab", sum := "3ef8745d2dfcafc5be1fef5beea23cf431917490b046ea3cd4c8022e5b0a4198", func := "loop.example/g03219/laws.FnExactTableOf", spec := "fnExactTableOf", inPlace := ["internal/bytealg.abigen_runtime_cmpstring", "slices.overlaps[loop.example/g03219/impl.Value]"], unfollowed := true, recurses := true, loops := true, apart := false }
def FnExactTableOfSaid : Prop := fnExactTableOfRow.holds Try.pinned (OpenSpec.ofChange fnExactTableOfSpec)

/-- ITS FALSE NEIGHBOUR: 'it returns false'. Refute it at one input. -/
def fnExactTableOfWrong : ChangeSpec := { name := "fnExactTableOf", fn := fun _ => fun
  | [d] => { results := [.lit (.bool false)], args := [d] }
  | _ => none }
def FnExactTableOfWrongFalsely : Prop := fnExactTableOfRow.holds Try.pinned (OpenSpec.ofChange fnExactTableOfWrong)

/-- 'laws.FnExactFormulaOk': WHATEVER THE INPUT: true; the input reads as it did. -/
def fnExactFormulaOkSpec : ChangeSpec := { name := "fnExactFormulaOk", fn := fun _ => fun
  | [d] => { results := [.lit (.bool true)], args := [d] }
  | _ => none }
def fnExactFormulaOkRow : OpenClaim := { program := "ytpcfjjjijknmmab", sum := "3ef8745d2dfcafc5be1fef5beea23cf431917490b046ea3cd4c8022e5b0a4198", func := "loop.example/g03219/laws.FnExactFormulaOk", spec := "fnExactFormulaOk", apart := false }
def FnExactFormulaOkSaid : Prop := fnExactFormulaOkRow.holds Try.pinned (OpenSpec.ofChange fnExactFormulaOkSpec)

/-- ITS FALSE NEIGHBOUR: 'it returns false'. Refute it at one input. -/
def fnExactFormulaOkWrong : ChangeSpec := { name := "fnExactFormulaOk", fn := fun _ => fun
  | [d] => { results := [.lit (.bool false)], args := [d] }
  | _ => none }
def FnExactFormulaOkWrongFalsely : Prop := fnExactFormulaOkRow.holds Try.pinned (OpenSpec.ofChange fnExactFormulaOkWrong)

/-- 'laws.FnExactMakeClause': WHATEVER THE INPUT: true; the input reads as it did. -/
def fnExactMakeClauseSpec : ChangeSpec := { name := "fnExactMakeClause", fn := fun _ => fun
  | [d] => { results := [.lit (.bool true)], args := [d] }
  | _ => none }
def fnExactMakeClauseRow : OpenClaim := { program := "ytpcfjjjijknmmab", sum := "3ef8745d2dfcafc5be1fef5beea23cf431917490b046ea3cd4c8022e5b0a4198", func := "loop.example/g03219/laws.FnExactMakeClause", spec := "fnExactMakeClause", unfollowed := true, recurses := true, apart := false }
def FnExactMakeClauseSaid : Prop := fnExactMakeClauseRow.holds Try.pinned (OpenSpec.ofChange fnExactMakeClauseSpec)

/-- ITS FALSE NEIGHBOUR: 'it returns false'. Refute it at one input. -/
def fnExactMakeClauseWrong : ChangeSpec := { name := "fnExactMakeClause", fn := fun _ => fun
  | [d] => { results := [.lit (.bool false)], args := [d] }
  | _ => none }
def FnExactMakeClauseWrongFalsely : Prop := fnExactMakeClauseRow.holds Try.pinned (OpenSpec.ofChange fnExactMakeClauseWrong)

/-- 'laws.FnExactEvalFormula': WHATEVER THE INPUT: true; the input reads as it did. -/
def fnExactEvalFormulaSpec : ChangeSpec := { name := "fnExactEvalFormula", fn := fun _ => fun
  | [d1, d2] => { results := [.lit (.bool true)], args := [d1, d2] }
  | _ => none }
def fnExactEvalFormulaRow : OpenClaim := { program := "ytpcfjjjijknmmab", sum := "3ef8745d2dfcafc5be1fef5beea23cf431917490b046ea3cd4c8022e5b0a4198", func := "loop.example/g03219/laws.FnExactEvalFormula", spec := "fnExactEvalFormula", unfollowed := true, recurses := true, apart := false }
def FnExactEvalFormulaSaid : Prop := fnExactEvalFormulaRow.holds Try.pinned (OpenSpec.ofChange fnExactEvalFormulaSpec)

/-- ITS FALSE NEIGHBOUR: 'it returns false'. Refute it at one input. -/
def fnExactEvalFormulaWrong : ChangeSpec := { name := "fnExactEvalFormula", fn := fun _ => fun
  | [d1, d2] => { results := [.lit (.bool false)], args := [d1, d2] }
  | _ => none }
def FnExactEvalFormulaWrongFalsely : Prop := fnExactEvalFormulaRow.holds Try.pinned (OpenSpec.ofChange fnExactEvalFormulaWrong)

/-- 'laws.FnExactPropagate': WHATEVER THE INPUT: true; the input reads as it did. -/
def fnExactPropagateSpec : ChangeSpec := { name := "fnExactPropagate", fn := fun _ => fun
  | [d1, d2] => { results := [.lit (.bool true)], args := [d1, d2] }
  | _ => none }
def fnExactPropagateRow : OpenClaim := { program := "ytpcfjjjijknmmab", sum := "3ef8745d2dfcafc5be1fef5beea23cf431917490b046ea3cd4c8022e5b0a4198", func := "loop.example/g03219/laws.FnExactPropagate", spec := "fnExactPropagate", apart := false }
def FnExactPropagateSaid : Prop := fnExactPropagateRow.holds Try.pinned (OpenSpec.ofChange fnExactPropagateSpec)

/-- ITS FALSE NEIGHBOUR: 'it returns false'. Refute it at one input. -/
def fnExactPropagateWrong : ChangeSpec := { name := "fnExactPropagate", fn := fun _ => fun
  | [d1, d2] => { results := [.lit (.bool false)], args := [d1, d2] }
  | _ => none }
def FnExactPropagateWrongFalsely : Prop := fnExactPropagateRow.holds Try.pinned (OpenSpec.ofChange fnExactPropagateWrong)

/-- 'laws.FnExactSearch': WHATEVER THE INPUT: true; the input reads as it did. -/
def fnExactSearchSpec : ChangeSpec := { name := "fnExactSearch", fn := fun _ => fun
  | [d1, d2, d3] => { results := [.lit (.bool true)], args := [d1, d2, d3] }
  | _ => none }
def fnExactSearchRow : OpenClaim := { program := "ytpcfjjjijknmmab", sum := "3ef8745d2dfcafc5be1fef5beea23cf431917490b046ea3cd4c8022e5b0a4198", func := "loop.example/g03219/laws.FnExactSearch", spec := "fnExactSearch", unfollowed := true, recurses := true, apart := false }
def FnExactSearchSaid : Prop := fnExactSearchRow.holds Try.pinned (OpenSpec.ofChange fnExactSearchSpec)

/-- ITS FALSE NEIGHBOUR: 'it returns false'. Refute it at one input. -/
def fnExactSearchWrong : ChangeSpec := { name := "fnExactSearch", fn := fun _ => fun
  | [d1, d2, d3] => { results := [.lit (.bool false)], args := [d1, d2, d3] }
  | _ => none }
def FnExactSearchWrongFalsely : Prop := fnExactSearchRow.holds Try.pinned (OpenSpec.ofChange fnExactSearchWrong)

/- THE SECOND FORM. 'bulk': how many values and letters a reading holds, each counted each time it is reached (what is shared counts as often as it is met; a slice's spare places count too). A statement '..UptoSaid' is the law's where the arguments, and the package variables that the reading takes, are together of bulk at most 1048576: NARROWER than '..Said'. Prove '..Said' where nothing that the law and all that it calls make is longer than what came in: it says more and counts as full. Else prove '..UptoSaid'. A law counts once. -/
mutual
def uptoBulk {H : Type} : DataW H → Nat
  | .lit (.string bytes) => bytes.length + 1
  | .lit _ => 1
  | .nil => 1
  | .ptr d => uptoBulk d + 1
  | .slice elems spare => uptoBulkAll elems + uptoBulkAll spare + 1
  | .agg parts => uptoBulkAll parts + 1
  | .iface _ d => uptoBulk d + 1
  | .map entries => uptoBulkEntries entries + 1
  | .held _ => 1
def uptoBulkAll {H : Type} : List (DataW H) → Nat
  | [] => 0
  | d :: r => uptoBulk d + uptoBulkAll r
def uptoBulkEntries {H : Type} : List (Lit × DataW H) → Nat
  | [] => 0
  | x :: r => uptoBulkEntry x + uptoBulkEntries r
def uptoBulkEntry {H : Type} : Lit × DataW H → Nat
  | (.string bytes, d) => bytes.length + uptoBulk d + 1
  | (_, d) => uptoBulk d + 1
 end
def uptoSmall : (H : Type) → List (DataW H) → Bool := fun _ ds => decide (uptoBulkAll ds ≤ 1048576)
def OpenSpec.upto (s : _root_.Go.ChangeSpec) : _root_.Go.OpenSpec := { _root_.Go.OpenSpec.ofChange s with cond := some uptoSmall }

/-- 'laws.FnExactIsSimple', WHERE WHAT IT READS IS OF BULK AT MOST 1048576: true; the input reads as it did. -/
def fnExactIsSimpleUptoRow : OpenClaim := { program := "ytpcfjjjijknmmab", sum := "3ef8745d2dfcafc5be1fef5beea23cf431917490b046ea3cd4c8022e5b0a4198", func := "loop.example/g03219/laws.FnExactIsSimple", spec := "fnExactIsSimple", inPlace := ["internal/bytealg.abigen_runtime_cmpstring", "slices.overlaps[loop.example/g03219/impl.Value]"], unfollowed := true, recurses := true, loops := true, apart := false, narrowed := true }
def FnExactIsSimpleUptoSaid : Prop := fnExactIsSimpleUptoRow.holds Try.pinned (OpenSpec.upto fnExactIsSimpleSpec)

/-- 'laws.FnExactTableOf', WHERE WHAT IT READS IS OF BULK AT MOST 1048576: true; the input reads as it did. -/
def fnExactTableOfUptoRow : OpenClaim := { program := "ytpcfjjjijknmmab", sum := "3ef8745d2dfcafc5be1fef5beea23cf431917490b046ea3cd4c8022e5b0a4198", func := "loop.example/g03219/laws.FnExactTableOf", spec := "fnExactTableOf", inPlace := ["internal/bytealg.abigen_runtime_cmpstring", "slices.overlaps[loop.example/g03219/impl.Value]"], unfollowed := true, recurses := true, loops := true, apart := false, narrowed := true }
def FnExactTableOfUptoSaid : Prop := fnExactTableOfUptoRow.holds Try.pinned (OpenSpec.upto fnExactTableOfSpec)

/-- 'laws.FnExactFormulaOk', WHERE WHAT IT READS IS OF BULK AT MOST 1048576: true; the input reads as it did. -/
def fnExactFormulaOkUptoRow : OpenClaim := { program := "ytpcfjjjijknmmab", sum := "3ef8745d2dfcafc5be1fef5beea23cf431917490b046ea3cd4c8022e5b0a4198", func := "loop.example/g03219/laws.FnExactFormulaOk", spec := "fnExactFormulaOk", apart := false, narrowed := true }
def FnExactFormulaOkUptoSaid : Prop := fnExactFormulaOkUptoRow.holds Try.pinned (OpenSpec.upto fnExactFormulaOkSpec)

/-- 'laws.FnExactMakeClause', WHERE WHAT IT READS IS OF BULK AT MOST 1048576: true; the input reads as it did. -/
def fnExactMakeClauseUptoRow : OpenClaim := { program := "ytpcfjjjijknmmab", sum := "3ef8745d2dfcafc5be1fef5beea23cf431917490b046ea3cd4c8022e5b0a4198", func := "loop.example/g03219/laws.FnExactMakeClause", spec := "fnExactMakeClause", unfollowed := true, recurses := true, apart := false, narrowed := true }
def FnExactMakeClauseUptoSaid : Prop := fnExactMakeClauseUptoRow.holds Try.pinned (OpenSpec.upto fnExactMakeClauseSpec)

/-- 'laws.FnExactEvalFormula', WHERE WHAT IT READS IS OF BULK AT MOST 1048576: true; the input reads as it did. -/
def fnExactEvalFormulaUptoRow : OpenClaim := { program := "ytpcfjjjijknmmab", sum := "3ef8745d2dfcafc5be1fef5beea23cf431917490b046ea3cd4c8022e5b0a4198", func := "loop.example/g03219/laws.FnExactEvalFormula", spec := "fnExactEvalFormula", unfollowed := true, recurses := true, apart := false, narrowed := true }
def FnExactEvalFormulaUptoSaid : Prop := fnExactEvalFormulaUptoRow.holds Try.pinned (OpenSpec.upto fnExactEvalFormulaSpec)

/-- 'laws.FnExactPropagate', WHERE WHAT IT READS IS OF BULK AT MOST 1048576: true; the input reads as it did. -/
def fnExactPropagateUptoRow : OpenClaim := { program := "ytpcfjjjijknmmab", sum := "3ef8745d2dfcafc5be1fef5beea23cf431917490b046ea3cd4c8022e5b0a4198", func := "loop.example/g03219/laws.FnExactPropagate", spec := "fnExactPropagate", apart := false, narrowed := true }
def FnExactPropagateUptoSaid : Prop := fnExactPropagateUptoRow.holds Try.pinned (OpenSpec.upto fnExactPropagateSpec)

/-- 'laws.FnExactSearch', WHERE WHAT IT READS IS OF BULK AT MOST 1048576: true; the input reads as it did. -/
def fnExactSearchUptoRow : OpenClaim := { program := "ytpcfjjjijknmmab", sum := "3ef8745d2dfcafc5be1fef5beea23cf431917490b046ea3cd4c8022e5b0a4198", func := "loop.example/g03219/laws.FnExactSearch", spec := "fnExactSearch", unfollowed := true, recurses := true, apart := false, narrowed := true }
def FnExactSearchUptoSaid : Prop := fnExactSearchUptoRow.holds Try.pinned (OpenSpec.upto fnExactSearchSpec)

end Rows
end Go.Proofs.Ytpcfjjjijknmmab
