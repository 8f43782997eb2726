/-
  No cell of these rows narrows 'for every input' (looked for: loops, veiled, ifaces, maps, wideKeys, modest, calm, conditions, laid).
  DERIVED. THE GIVEN ROWS OF THIS SEAT. 6 by the template 'for every input the law returns true; each argument reads behind the call as it read before'; 0 by the template 'total and deterministic' (their statements: YtimjkgciakbolabTotals.lean).
  GIVEN WITH THE SEED: the statements are not yours to turn. If you find one false, say at which input.
  Laid BY PROGRAM, IN A SANDBOX (cutbox-rows.mjs): the forced cells as the released guide's own fill.sh prints them over the translation 326b87cf52a08bc5… (all of the seat's roots in one cut). By AI agents, Wed Nov 11 2026. No macro, syntax, notation, axiom, sorry.
-/
import Derived.Test.YtimjkgciakbolabChecked
import GoSem.Claim
import GoSem.ClaimJoined
import GoSem.ClaimMapViews
import Derived.JoinedTies
import Derived.KernelRfl
namespace Go.Proofs.Ytimjkgciakbolab
/- THE CELL 'sum', in the pinned program and in every row, IS THE sha256 OF THE DUMP (.gsa) THAT YtimjkgciakbolabProg.lean LOADS. Nothing in Lean hashes anything: it is a label: what it is worth is what the hold of that sum in a sandbox is worth. -/
noncomputable def Try.pinned : Pinned := { name := "ytimjkgciakbolab", sum := "326b87cf52a08bc5d9f6179d68e4c18ea51a3672d9a3d201f0b7a5f6b2fe33c4", checked := Try.checked }
namespace Rows
def none {H : Type} : Left H := { results := [], args := [] }

/-- 'laws.FnExactCircuitOk': WHATEVER THE INPUT: true; the input reads as it did. -/
def fnExactCircuitOkSpec : ChangeSpec := { name := "fnExactCircuitOk", fn := fun _ => fun
  | [d] => { results := [.lit (.bool true)], args := [d] }
  | _ => none }
def fnExactCircuitOkRow : OpenClaim := { program := "ytimjkgciakbolab", sum := "326b87cf52a08bc5d9f6179d68e4c18ea51a3672d9a3d201f0b7a5f6b2fe33c4", func := "loop.example/g03219/laws.FnExactCircuitOk", spec := "fnExactCircuitOk", plainKeys := false, apart := false }
def FnExactCircuitOkSaid : Prop := fnExactCircuitOkRow.holds Try.pinned (OpenSpec.ofChange fnExactCircuitOkSpec)

/-- ITS FALSE NEIGHBOUR: 'it returns false'. Refute it at one input. -/
def fnExactCircuitOkWrong : ChangeSpec := { name := "fnExactCircuitOk", fn := fun _ => fun
  | [d] => { results := [.lit (.bool false)], args := [d] }
  | _ => none }
def FnExactCircuitOkWrongFalsely : Prop := fnExactCircuitOkRow.holds Try.pinned (OpenSpec.ofChange fnExactCircuitOkWrong)

/-- 'laws.FnExactAndOf': WHATEVER THE INPUT: true; the input reads as it did. -/
def fnExactAndOfSpec : ChangeSpec := { name := "fnExactAndOf", fn := fun _ => fun
  | [d1, d2, d3] => { results := [.lit (.bool true)], args := [d1, d2, d3] }
  | _ => none }
def fnExactAndOfRow : OpenClaim := { program := "ytimjkgciakbolab", sum := "326b87cf52a08bc5d9f6179d68e4c18ea51a3672d9a3d201f0b7a5f6b2fe33c4", func := "loop.example/g03219/laws.FnExactAndOf", spec := "fnExactAndOf", unfollowed := true, recurses := true, plainKeys := false, apart := false }
def FnExactAndOfSaid : Prop := fnExactAndOfRow.holds Try.pinned (OpenSpec.ofChange fnExactAndOfSpec)

/-- ITS FALSE NEIGHBOUR: 'it returns false'. Refute it at one input. -/
def fnExactAndOfWrong : ChangeSpec := { name := "fnExactAndOf", fn := fun _ => fun
  | [d1, d2, d3] => { results := [.lit (.bool false)], args := [d1, d2, d3] }
  | _ => none }
def FnExactAndOfWrongFalsely : Prop := fnExactAndOfRow.holds Try.pinned (OpenSpec.ofChange fnExactAndOfWrong)

/-- 'laws.FnExactOrOf': WHATEVER THE INPUT: true; the input reads as it did. -/
def fnExactOrOfSpec : ChangeSpec := { name := "fnExactOrOf", fn := fun _ => fun
  | [d1, d2, d3] => { results := [.lit (.bool true)], args := [d1, d2, d3] }
  | _ => none }
def fnExactOrOfRow : OpenClaim := { program := "ytimjkgciakbolab", sum := "326b87cf52a08bc5d9f6179d68e4c18ea51a3672d9a3d201f0b7a5f6b2fe33c4", func := "loop.example/g03219/laws.FnExactOrOf", spec := "fnExactOrOf", unfollowed := true, recurses := true, plainKeys := false, apart := false }
def FnExactOrOfSaid : Prop := fnExactOrOfRow.holds Try.pinned (OpenSpec.ofChange fnExactOrOfSpec)

/-- ITS FALSE NEIGHBOUR: 'it returns false'. Refute it at one input. -/
def fnExactOrOfWrong : ChangeSpec := { name := "fnExactOrOf", fn := fun _ => fun
  | [d1, d2, d3] => { results := [.lit (.bool false)], args := [d1, d2, d3] }
  | _ => none }
def FnExactOrOfWrongFalsely : Prop := fnExactOrOfRow.holds Try.pinned (OpenSpec.ofChange fnExactOrOfWrong)

/-- 'laws.FnExactXorOf': WHATEVER THE INPUT: true; the input reads as it did. -/
def fnExactXorOfSpec : ChangeSpec := { name := "fnExactXorOf", fn := fun _ => fun
  | [d1, d2, d3] => { results := [.lit (.bool true)], args := [d1, d2, d3] }
  | _ => none }
def fnExactXorOfRow : OpenClaim := { program := "ytimjkgciakbolab", sum := "326b87cf52a08bc5d9f6179d68e4c18ea51a3672d9a3d201f0b7a5f6b2fe33c4", func := "loop.example/g03219/laws.FnExactXorOf", spec := "fnExactXorOf", unfollowed := true, recurses := true, plainKeys := false, apart := false }
def FnExactXorOfSaid : Prop := fnExactXorOfRow.holds Try.pinned (OpenSpec.ofChange fnExactXorOfSpec)

/-- ITS FALSE NEIGHBOUR: 'it returns false'. Refute it at one input. -/
def fnExactXorOfWrong : ChangeSpec := { name := "fnExactXorOf", fn := fun _ => fun
  | [d1, d2, d3] => { results := [.lit (.bool false)], args := [d1, d2, d3] }
  | _ => none }
def FnExactXorOfWrongFalsely : Prop := fnExactXorOfRow.holds Try.pinned (OpenSpec.ofChange fnExactXorOfWrong)

/-- 'laws.FnExactIfOf': WHATEVER THE INPUT: true; the input reads as it did. -/
def fnExactIfOfSpec : ChangeSpec := { name := "fnExactIfOf", fn := fun _ => fun
  | [d1, d2, d3, d4] => { results := [.lit (.bool true)], args := [d1, d2, d3, d4] }
  | _ => none }
def fnExactIfOfRow : OpenClaim := { program := "ytimjkgciakbolab", sum := "326b87cf52a08bc5d9f6179d68e4c18ea51a3672d9a3d201f0b7a5f6b2fe33c4", func := "loop.example/g03219/laws.FnExactIfOf", spec := "fnExactIfOf", unfollowed := true, recurses := true, plainKeys := false, apart := false }
def FnExactIfOfSaid : Prop := fnExactIfOfRow.holds Try.pinned (OpenSpec.ofChange fnExactIfOfSpec)

/-- ITS FALSE NEIGHBOUR: 'it returns false'. Refute it at one input. -/
def fnExactIfOfWrong : ChangeSpec := { name := "fnExactIfOf", fn := fun _ => fun
  | [d1, d2, d3, d4] => { results := [.lit (.bool false)], args := [d1, d2, d3, d4] }
  | _ => none }
def FnExactIfOfWrongFalsely : Prop := fnExactIfOfRow.holds Try.pinned (OpenSpec.ofChange fnExactIfOfWrong)

/-- 'laws.FnExactEvalCircuit': WHATEVER THE INPUT: true; the input reads as it did. -/
def fnExactEvalCircuitSpec : ChangeSpec := { name := "fnExactEvalCircuit", fn := fun _ => fun
  | [d1, d2] => { results := [.lit (.bool true)], args := [d1, d2] }
  | _ => none }
def fnExactEvalCircuitRow : OpenClaim := { program := "ytimjkgciakbolab", sum := "326b87cf52a08bc5d9f6179d68e4c18ea51a3672d9a3d201f0b7a5f6b2fe33c4", func := "loop.example/g03219/laws.FnExactEvalCircuit", spec := "fnExactEvalCircuit", plainKeys := false, apart := false }
def FnExactEvalCircuitSaid : Prop := fnExactEvalCircuitRow.holds Try.pinned (OpenSpec.ofChange fnExactEvalCircuitSpec)

/-- ITS FALSE NEIGHBOUR: 'it returns false'. Refute it at one input. -/
def fnExactEvalCircuitWrong : ChangeSpec := { name := "fnExactEvalCircuit", fn := fun _ => fun
  | [d1, d2] => { results := [.lit (.bool false)], args := [d1, d2] }
  | _ => none }
def FnExactEvalCircuitWrongFalsely : Prop := fnExactEvalCircuitRow.holds Try.pinned (OpenSpec.ofChange fnExactEvalCircuitWrong)

/- THE SECOND FORM. 'bulk': how many values and letters a reading holds, each counted each time it is reached (what is shared counts as often as it is met; a slice's spare places count too). A statement '..UptoSaid' is the law's where the arguments, and the package variables that the reading takes, are together of bulk at most 1048576: NARROWER than '..Said'. Prove '..Said' where nothing that the law and all that it calls make is longer than what came in: it says more and counts as full. Else prove '..UptoSaid'. A law counts once. -/
mutual
def uptoBulk {H : Type} : DataW H → Nat
  | .lit (.string bytes) => bytes.length + 1
  | .lit _ => 1
  | .nil => 1
  | .ptr d => uptoBulk d + 1
  | .slice elems spare => uptoBulkAll elems + uptoBulkAll spare + 1
  | .agg parts => uptoBulkAll parts + 1
  | .iface _ d => uptoBulk d + 1
  | .map entries => uptoBulkEntries entries + 1
  | .held _ => 1
def uptoBulkAll {H : Type} : List (DataW H) → Nat
  | [] => 0
  | d :: r => uptoBulk d + uptoBulkAll r
def uptoBulkEntries {H : Type} : List (Lit × DataW H) → Nat
  | [] => 0
  | x :: r => uptoBulkEntry x + uptoBulkEntries r
def uptoBulkEntry {H : Type} : Lit × DataW H → Nat
  | (.string bytes, d) => bytes.length + uptoBulk d + 1
  | (_, d) => uptoBulk d + 1
 end
def uptoSmall : (H : Type) → List (DataW H) → Bool := fun _ ds => decide (uptoBulkAll ds ≤ 1048576)
def OpenSpec.upto (s : _root_.Go.ChangeSpec) : _root_.Go.OpenSpec := { _root_.Go.OpenSpec.ofChange s with cond := some uptoSmall }

/-- 'laws.FnExactCircuitOk', WHERE WHAT IT READS IS OF BULK AT MOST 1048576: true; the input reads as it did. -/
def fnExactCircuitOkUptoRow : OpenClaim := { program := "ytimjkgciakbolab", sum := "326b87cf52a08bc5d9f6179d68e4c18ea51a3672d9a3d201f0b7a5f6b2fe33c4", func := "loop.example/g03219/laws.FnExactCircuitOk", spec := "fnExactCircuitOk", plainKeys := false, apart := false, narrowed := true }
def FnExactCircuitOkUptoSaid : Prop := fnExactCircuitOkUptoRow.holds Try.pinned (OpenSpec.upto fnExactCircuitOkSpec)

/-- 'laws.FnExactAndOf', WHERE WHAT IT READS IS OF BULK AT MOST 1048576: true; the input reads as it did. -/
def fnExactAndOfUptoRow : OpenClaim := { program := "ytimjkgciakbolab", sum := "326b87cf52a08bc5d9f6179d68e4c18ea51a3672d9a3d201f0b7a5f6b2fe33c4", func := "loop.example/g03219/laws.FnExactAndOf", spec := "fnExactAndOf", unfollowed := true, recurses := true, plainKeys := false, apart := false, narrowed := true }
def FnExactAndOfUptoSaid : Prop := fnExactAndOfUptoRow.holds Try.pinned (OpenSpec.upto fnExactAndOfSpec)

/-- 'laws.FnExactOrOf', WHERE WHAT IT READS IS OF BULK AT MOST 1048576: true; the input reads as it did. -/
def fnExactOrOfUptoRow : OpenClaim := { program := "ytimjkgciakbolab", sum := "326b87cf52a08bc5d9f6179d68e4c18ea51a3672d9a3d201f0b7a5f6b2fe33c4", func := "loop.example/g03219/laws.FnExactOrOf", spec := "fnExactOrOf", unfollowed := true, recurses := true, plainKeys := false, apart := false, narrowed := true }
def FnExactOrOfUptoSaid : Prop := fnExactOrOfUptoRow.holds Try.pinned (OpenSpec.upto fnExactOrOfSpec)

/-- 'laws.FnExactXorOf', WHERE WHAT IT READS IS OF BULK AT MOST 1048576: true; the input reads as it did. -/
def fnExactXorOfUptoRow : OpenClaim := { program := "ytimjkgciakbolab", sum := "326b87cf52a08bc5d9f6179d68e4c18ea51a3672d9a3d201f0b7a5f6b2fe33c4", func := "loop.example/g03219/laws.FnExactXorOf", spec := "fnExactXorOf", unfollowed := true, recurses := true, plainKeys := false, apart := false, narrowed := true }
def FnExactXorOfUptoSaid : Prop := fnExactXorOfUptoRow.holds Try.pinned (OpenSpec.upto fnExactXorOfSpec)

/-- 'laws.FnExactIfOf', WHERE WHAT IT READS IS OF BULK AT MOST 1048576: true; the input reads as it did. -/
def fnExactIfOfUptoRow : OpenClaim := { program := "ytimjkgciakbolab", sum := "326b87cf52a08bc5d9f6179d68e4c18ea51a3672d9a3d201f0b7a5f6b2fe33c4", func := "loop.example/g03219/laws.FnExactIfOf", spec := "fnExactIfOf", unfollowed := true, recurses := true, plainKeys := false, apart := false, narrowed := true }
def FnExactIfOfUptoSaid : Prop := fnExactIfOfUptoRow.holds Try.pinned (OpenSpec.upto fnExactIfOfSpec)

/-- 'laws.FnExactEvalCircuit', WHERE WHAT IT READS IS OF BULK AT MOST 1048576: true; the input reads as it did. -/
def fnExactEvalCircuitUptoRow : OpenClaim := { program := "ytimjkgciakbolab", sum := "326b87cf52a08bc5d9f6179d68e4c18ea51a3672d9a3d201f0b7a5f6b2fe33c4", func := "loop.example/g03219/laws.FnExactEvalCircuit", spec := "fnExactEvalCircuit", plainKeys := false, apart := false, narrowed := true }
def FnExactEvalCircuitUptoSaid : Prop := fnExactEvalCircuitUptoRow.holds Try.pinned (OpenSpec.upto fnExactEvalCircuitSpec)

end Rows
end Go.Proofs.Ytimjkgciakbolab
