/-
  DERIVED. GIVEN WITH THE SEED: THE CARDS: each row of YthmababifgaejaaGreatDoorRows.lean that lists a variable, with what it lists TIED to the program's text (the seventh form; the later family's looks); each row that meets fmt, with fmt's text TOLD by the authors' own Lean function (tested against real Go, not proved from fmt's source: count such statements apart). THE CARD IS WHAT COUNTS. Prove the row's statement (the work); the ties are given (YthmababifgaejaaGreatDoorTie.lean); close each card by the builder's one call (the guide's Derived/Test/ToyasCard.lean, 'card_holds'). Laid BY PROGRAM, IN A SANDBOX (cutbox-door.mjs). By AI agents, Wed Nov 11 2026. No macro, syntax, notation, axiom, sorry.
-/
import Derived.Test.YthmababifgaejaaGreatDoorRows
import GoSem.ClaimSeven
namespace Go.Proofs.YthmababifgaejaaGreatDoor
namespace Rows

/-- THE TIED CARD OF 'laws.FnExactEvalPath'. -/
def fnExactEvalPathCard : Claim7 := { stood := { row := fnExactEvalPathRow, standIns := [], harness := (true, "deb552a8e0c9a078e8c4a90807eb9ae10d288b6d7d4a68d79810b5121ccf1fbf"), looks := false }, kinds := [], alts := [], laidByText := true, laidKinds := [.data, .data, .data], laidTests := true, laidLooks := .later }
def FnExactEvalPathCardSaid : Prop := Claim7.holds Tryz.pinned (.plain (OpenSpec.ofChange fnExactEvalPathSpec)) fnExactEvalPathCard

/-- THE SECOND FORM's CARD OF 'laws.FnExactEvalPath'. -/
def fnExactEvalPathUptoCard : Claim7 := { stood := { row := fnExactEvalPathUptoRow, standIns := [], harness := (true, "deb552a8e0c9a078e8c4a90807eb9ae10d288b6d7d4a68d79810b5121ccf1fbf"), looks := false }, kinds := [], alts := [], laidByText := true, laidKinds := [.data, .data, .data], laidTests := true, laidLooks := .later }
def FnExactEvalPathUptoCardSaid : Prop := Claim7.holds Tryz.pinned (.plain (OpenSpec.upto fnExactEvalPathSpec)) fnExactEvalPathUptoCard
end Rows
end Go.Proofs.YthmababifgaejaaGreatDoor
