/-
  DERIVED. GIVEN WITH THE SEED: THE CARDS: each row of YtogmiahkccmfbacDoorRows.lean that lists a variable, with what it lists TIED to the program's text (the seventh form; the later family's looks); each row that meets fmt, with fmt's text TOLD by the authors' own Lean function (tested against real Go, not proved from fmt's source: count such statements apart). THE CARD IS WHAT COUNTS. Prove the row's statement (the work); the ties are given (YtogmiahkccmfbacDoorTie.lean); close each card by the builder's one call (the guide's Derived/Test/ToyasCard.lean, 'card_holds'). Laid BY PROGRAM, IN A SANDBOX (cutbox-door.mjs). By AI agents, Wed Nov 11 2026. No macro, syntax, notation, axiom, sorry.
-/
import Derived.Test.YtogmiahkccmfbacDoorRows
import GoSem.ClaimSeven
namespace Go.Proofs.YtogmiahkccmfbacDoor
namespace Rows

/-- THE TIED CARD OF 'laws.FnExactFormatIns'. -/
def fnExactFormatInsCard : Claim7 := { stood := { row := fnExactFormatInsRow, standIns := [], harness := (true, "433262825dd9a65460396a01f4c1140bc5d0fadb23c93dab6196a95e425df093"), looks := false }, kinds := [], alts := [], laidByText := true, laidKinds := [.data, .data, .data, .data], laidTests := true, laidLooks := .later }
def FnExactFormatInsCardSaid : Prop := Claim7.holds Tryd.pinned (.plain (OpenSpec.ofChange fnExactFormatInsSpec)) fnExactFormatInsCard

/-- THE TIED CARD OF 'laws.FnExactFormatProgram'. -/
def fnExactFormatProgramCard : Claim7 := { stood := { row := fnExactFormatProgramRow, standIns := [], harness := (true, "433262825dd9a65460396a01f4c1140bc5d0fadb23c93dab6196a95e425df093"), looks := false }, kinds := [], alts := [], laidByText := true, laidKinds := [.data, .data, .data, .data], laidTests := true, laidLooks := .later }
def FnExactFormatProgramCardSaid : Prop := Claim7.holds Tryd.pinned (.plain (OpenSpec.ofChange fnExactFormatProgramSpec)) fnExactFormatProgramCard

/-- THE SECOND FORM's CARD OF 'laws.FnExactFormatIns'. -/
def fnExactFormatInsUptoCard : Claim7 := { stood := { row := fnExactFormatInsUptoRow, standIns := [], harness := (true, "433262825dd9a65460396a01f4c1140bc5d0fadb23c93dab6196a95e425df093"), looks := false }, kinds := [], alts := [], laidByText := true, laidKinds := [.data, .data, .data, .data], laidTests := true, laidLooks := .later }
def FnExactFormatInsUptoCardSaid : Prop := Claim7.holds Tryd.pinned (.plain (OpenSpec.upto fnExactFormatInsSpec)) fnExactFormatInsUptoCard

/-- THE SECOND FORM's CARD OF 'laws.FnExactFormatProgram'. -/
def fnExactFormatProgramUptoCard : Claim7 := { stood := { row := fnExactFormatProgramUptoRow, standIns := [], harness := (true, "433262825dd9a65460396a01f4c1140bc5d0fadb23c93dab6196a95e425df093"), looks := false }, kinds := [], alts := [], laidByText := true, laidKinds := [.data, .data, .data, .data], laidTests := true, laidLooks := .later }
def FnExactFormatProgramUptoCardSaid : Prop := Claim7.holds Tryd.pinned (.plain (OpenSpec.upto fnExactFormatProgramSpec)) fnExactFormatProgramUptoCard
end Rows
end Go.Proofs.YtogmiahkccmfbacDoor
