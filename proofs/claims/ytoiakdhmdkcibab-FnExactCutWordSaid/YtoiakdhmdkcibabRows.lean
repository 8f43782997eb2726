/-
  No cell of these rows narrows 'for every input' (looked for: loops, veiled, ifaces, maps, wideKeys, modest, calm, conditions, laid).
  DERIVED. THE GIVEN ROWS OF THIS SEAT. 5 by the template 'for every input the law returns true; each argument reads behind the call as it read before'; 0 by the template 'total and deterministic' (their statements: YtoiakdhmdkcibabTotals.lean).
  GIVEN WITH THE SEED: the statements are not yours to turn. If you find one false, say at which input.
  Laid BY PROGRAM, IN A SANDBOX (cutbox-rows.mjs): the forced cells as the released guide's own fill.sh prints them over the translation 787d638955ff1926… (all of the seat's roots in one cut). By AI agents, Wed Nov 11 2026. No macro, syntax, notation, axiom, sorry.
-/
import Derived.Test.YtoiakdhmdkcibabChecked
import GoSem.Claim
import GoSem.ClaimJoined
import GoSem.ClaimMapViews
import Derived.JoinedTies
import Derived.KernelRfl
namespace Go.Proofs.Ytoiakdhmdkcibab
/- THE CELL 'sum', in the pinned program and in every row, IS THE sha256 OF THE DUMP (.gsa) THAT YtoiakdhmdkcibabProg.lean LOADS. Nothing in Lean hashes anything: it is a label: what it is worth is what the hold of that sum in a sandbox is worth. -/
noncomputable def Try.pinned : Pinned := { name := "ytoiakdhmdkcibab", sum := "787d638955ff1926803a7eddc7b560966a60f71b1805d5d65145ef5de8a062b6", checked := Try.checked }
namespace Rows
def none {H : Type} : Left H := { results := [], args := [] }

/-- 'laws.FnExactApplyBinary': WHATEVER THE INPUT: true; the input reads as it did. -/
def fnExactApplyBinarySpec : ChangeSpec := { name := "fnExactApplyBinary", fn := fun _ => fun
  | [d1, d2, d3, d4] => { results := [.lit (.bool true)], args := [d1, d2, d3, d4] }
  | _ => none }
def fnExactApplyBinaryRow : OpenClaim := { program := "ytoiakdhmdkcibab", sum := "787d638955ff1926803a7eddc7b560966a60f71b1805d5d65145ef5de8a062b6", func := "loop.example/g03219/laws.FnExactApplyBinary", spec := "fnExactApplyBinary", apart := false }
def FnExactApplyBinarySaid : Prop := fnExactApplyBinaryRow.holds Try.pinned (OpenSpec.ofChange fnExactApplyBinarySpec)

/-- ITS FALSE NEIGHBOUR: 'it returns false'. Refute it at one input. -/
def fnExactApplyBinaryWrong : ChangeSpec := { name := "fnExactApplyBinary", fn := fun _ => fun
  | [d1, d2, d3, d4] => { results := [.lit (.bool false)], args := [d1, d2, d3, d4] }
  | _ => none }
def FnExactApplyBinaryWrongFalsely : Prop := fnExactApplyBinaryRow.holds Try.pinned (OpenSpec.ofChange fnExactApplyBinaryWrong)

/-- 'laws.FnExactResultWidth': WHATEVER THE INPUT: true; the input reads as it did. -/
def fnExactResultWidthSpec : ChangeSpec := { name := "fnExactResultWidth", fn := fun _ => fun
  | [d1, d2] => { results := [.lit (.bool true)], args := [d1, d2] }
  | _ => none }
def fnExactResultWidthRow : OpenClaim := { program := "ytoiakdhmdkcibab", sum := "787d638955ff1926803a7eddc7b560966a60f71b1805d5d65145ef5de8a062b6", func := "loop.example/g03219/laws.FnExactResultWidth", spec := "fnExactResultWidth", apart := false }
def FnExactResultWidthSaid : Prop := fnExactResultWidthRow.holds Try.pinned (OpenSpec.ofChange fnExactResultWidthSpec)

/-- ITS FALSE NEIGHBOUR: 'it returns false'. Refute it at one input. -/
def fnExactResultWidthWrong : ChangeSpec := { name := "fnExactResultWidth", fn := fun _ => fun
  | [d1, d2] => { results := [.lit (.bool false)], args := [d1, d2] }
  | _ => none }
def FnExactResultWidthWrongFalsely : Prop := fnExactResultWidthRow.holds Try.pinned (OpenSpec.ofChange fnExactResultWidthWrong)

/-- 'laws.FnExactCutWord': WHATEVER THE INPUT: true; the input reads as it did. -/
def fnExactCutWordSpec : ChangeSpec := { name := "fnExactCutWord", fn := fun _ => fun
  | [d1, d2, d3, d4] => { results := [.lit (.bool true)], args := [d1, d2, d3, d4] }
  | _ => none }
def fnExactCutWordRow : OpenClaim := { program := "ytoiakdhmdkcibab", sum := "787d638955ff1926803a7eddc7b560966a60f71b1805d5d65145ef5de8a062b6", func := "loop.example/g03219/laws.FnExactCutWord", spec := "fnExactCutWord", apart := false }
def FnExactCutWordSaid : Prop := fnExactCutWordRow.holds Try.pinned (OpenSpec.ofChange fnExactCutWordSpec)

/-- ITS FALSE NEIGHBOUR: 'it returns false'. Refute it at one input. -/
def fnExactCutWordWrong : ChangeSpec := { name := "fnExactCutWord", fn := fun _ => fun
  | [d1, d2, d3, d4] => { results := [.lit (.bool false)], args := [d1, d2, d3, d4] }
  | _ => none }
def FnExactCutWordWrongFalsely : Prop := fnExactCutWordRow.holds Try.pinned (OpenSpec.ofChange fnExactCutWordWrong)

/-- 'laws.FnExactJoinWords': WHATEVER THE INPUT: true; the input reads as it did. -/
def fnExactJoinWordsSpec : ChangeSpec := { name := "fnExactJoinWords", fn := fun _ => fun
  | [d1, d2, d3, d4] => { results := [.lit (.bool true)], args := [d1, d2, d3, d4] }
  | _ => none }
def fnExactJoinWordsRow : OpenClaim := { program := "ytoiakdhmdkcibab", sum := "787d638955ff1926803a7eddc7b560966a60f71b1805d5d65145ef5de8a062b6", func := "loop.example/g03219/laws.FnExactJoinWords", spec := "fnExactJoinWords", apart := false }
def FnExactJoinWordsSaid : Prop := fnExactJoinWordsRow.holds Try.pinned (OpenSpec.ofChange fnExactJoinWordsSpec)

/-- ITS FALSE NEIGHBOUR: 'it returns false'. Refute it at one input. -/
def fnExactJoinWordsWrong : ChangeSpec := { name := "fnExactJoinWords", fn := fun _ => fun
  | [d1, d2, d3, d4] => { results := [.lit (.bool false)], args := [d1, d2, d3, d4] }
  | _ => none }
def FnExactJoinWordsWrongFalsely : Prop := fnExactJoinWordsRow.holds Try.pinned (OpenSpec.ofChange fnExactJoinWordsWrong)

/-- 'laws.FnExactWidenWord': WHATEVER THE INPUT: true; the input reads as it did. -/
def fnExactWidenWordSpec : ChangeSpec := { name := "fnExactWidenWord", fn := fun _ => fun
  | [d1, d2, d3, d4] => { results := [.lit (.bool true)], args := [d1, d2, d3, d4] }
  | _ => none }
def fnExactWidenWordRow : OpenClaim := { program := "ytoiakdhmdkcibab", sum := "787d638955ff1926803a7eddc7b560966a60f71b1805d5d65145ef5de8a062b6", func := "loop.example/g03219/laws.FnExactWidenWord", spec := "fnExactWidenWord", apart := false }
def FnExactWidenWordSaid : Prop := fnExactWidenWordRow.holds Try.pinned (OpenSpec.ofChange fnExactWidenWordSpec)

/-- ITS FALSE NEIGHBOUR: 'it returns false'. Refute it at one input. -/
def fnExactWidenWordWrong : ChangeSpec := { name := "fnExactWidenWord", fn := fun _ => fun
  | [d1, d2, d3, d4] => { results := [.lit (.bool false)], args := [d1, d2, d3, d4] }
  | _ => none }
def FnExactWidenWordWrongFalsely : Prop := fnExactWidenWordRow.holds Try.pinned (OpenSpec.ofChange fnExactWidenWordWrong)

/- THE SECOND FORM. 'bulk': how many values and letters a reading holds, each counted each time it is reached (what is shared counts as often as it is met; a slice's spare places count too). A statement '..UptoSaid' is the law's where the arguments, and the package variables that the reading takes, are together of bulk at most 1048576: NARROWER than '..Said'. Prove '..Said' where nothing that the law and all that it calls make is longer than what came in: it says more and counts as full. Else prove '..UptoSaid'. A law counts once. -/
mutual
def uptoBulk {H : Type} : DataW H → Nat
  | .lit (.string bytes) => bytes.length + 1
  | .lit _ => 1
  | .nil => 1
  | .ptr d => uptoBulk d + 1
  | .slice elems spare => uptoBulkAll elems + uptoBulkAll spare + 1
  | .agg parts => uptoBulkAll parts + 1
  | .iface _ d => uptoBulk d + 1
  | .map entries => uptoBulkEntries entries + 1
  | .held _ => 1
def uptoBulkAll {H : Type} : List (DataW H) → Nat
  | [] => 0
  | d :: r => uptoBulk d + uptoBulkAll r
def uptoBulkEntries {H : Type} : List (Lit × DataW H) → Nat
  | [] => 0
  | x :: r => uptoBulkEntry x + uptoBulkEntries r
def uptoBulkEntry {H : Type} : Lit × DataW H → Nat
  | (.string bytes, d) => bytes.length + uptoBulk d + 1
  | (_, d) => uptoBulk d + 1
 end
def uptoSmall : (H : Type) → List (DataW H) → Bool := fun _ ds => decide (uptoBulkAll ds ≤ 1048576)
def OpenSpec.upto (s : _root_.Go.ChangeSpec) : _root_.Go.OpenSpec := { _root_.Go.OpenSpec.ofChange s with cond := some uptoSmall }

/-- 'laws.FnExactApplyBinary', WHERE WHAT IT READS IS OF BULK AT MOST 1048576: true; the input reads as it did. -/
def fnExactApplyBinaryUptoRow : OpenClaim := { program := "ytoiakdhmdkcibab", sum := "787d638955ff1926803a7eddc7b560966a60f71b1805d5d65145ef5de8a062b6", func := "loop.example/g03219/laws.FnExactApplyBinary", spec := "fnExactApplyBinary", apart := false, narrowed := true }
def FnExactApplyBinaryUptoSaid : Prop := fnExactApplyBinaryUptoRow.holds Try.pinned (OpenSpec.upto fnExactApplyBinarySpec)

/-- 'laws.FnExactResultWidth', WHERE WHAT IT READS IS OF BULK AT MOST 1048576: true; the input reads as it did. -/
def fnExactResultWidthUptoRow : OpenClaim := { program := "ytoiakdhmdkcibab", sum := "787d638955ff1926803a7eddc7b560966a60f71b1805d5d65145ef5de8a062b6", func := "loop.example/g03219/laws.FnExactResultWidth", spec := "fnExactResultWidth", apart := false, narrowed := true }
def FnExactResultWidthUptoSaid : Prop := fnExactResultWidthUptoRow.holds Try.pinned (OpenSpec.upto fnExactResultWidthSpec)

/-- 'laws.FnExactCutWord', WHERE WHAT IT READS IS OF BULK AT MOST 1048576: true; the input reads as it did. -/
def fnExactCutWordUptoRow : OpenClaim := { program := "ytoiakdhmdkcibab", sum := "787d638955ff1926803a7eddc7b560966a60f71b1805d5d65145ef5de8a062b6", func := "loop.example/g03219/laws.FnExactCutWord", spec := "fnExactCutWord", apart := false, narrowed := true }
def FnExactCutWordUptoSaid : Prop := fnExactCutWordUptoRow.holds Try.pinned (OpenSpec.upto fnExactCutWordSpec)

/-- 'laws.FnExactJoinWords', WHERE WHAT IT READS IS OF BULK AT MOST 1048576: true; the input reads as it did. -/
def fnExactJoinWordsUptoRow : OpenClaim := { program := "ytoiakdhmdkcibab", sum := "787d638955ff1926803a7eddc7b560966a60f71b1805d5d65145ef5de8a062b6", func := "loop.example/g03219/laws.FnExactJoinWords", spec := "fnExactJoinWords", apart := false, narrowed := true }
def FnExactJoinWordsUptoSaid : Prop := fnExactJoinWordsUptoRow.holds Try.pinned (OpenSpec.upto fnExactJoinWordsSpec)

/-- 'laws.FnExactWidenWord', WHERE WHAT IT READS IS OF BULK AT MOST 1048576: true; the input reads as it did. -/
def fnExactWidenWordUptoRow : OpenClaim := { program := "ytoiakdhmdkcibab", sum := "787d638955ff1926803a7eddc7b560966a60f71b1805d5d65145ef5de8a062b6", func := "loop.example/g03219/laws.FnExactWidenWord", spec := "fnExactWidenWord", apart := false, narrowed := true }
def FnExactWidenWordUptoSaid : Prop := fnExactWidenWordUptoRow.holds Try.pinned (OpenSpec.upto fnExactWidenWordSpec)

end Rows
end Go.Proofs.Ytoiakdhmdkcibab
