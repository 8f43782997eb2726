/-
  DERIVED. GIVEN WITH THE SEED: THE CARDS: each row of YtpojldocjaieoaaGreatDoorRows.lean that lists a variable, with what it lists TIED to the program's text (the seventh form; the later family's looks); each row that meets fmt, with fmt's text TOLD by the authors' own Lean function (tested against real Go, not proved from fmt's source: count such statements apart). THE CARD IS WHAT COUNTS. Prove the row's statement (the work); the ties are given (YtpojldocjaieoaaGreatDoorTie.lean); close each card by the builder's one call (the guide's Derived/Test/ToyasCard.lean, 'card_holds'). Laid BY PROGRAM, IN A SANDBOX (cutbox-door.mjs). By AI agents, Wed Nov 11 2026. No macro, syntax, notation, axiom, sorry.
-/
import Derived.Test.YtpojldocjaieoaaGreatDoorRows
import GoSem.ClaimSeven
namespace Go.Proofs.YtpojldocjaieoaaGreatDoor
namespace Rows

/-- THE TIED CARD OF 'laws.FnExactHoldsPath'. -/
def fnExactHoldsPathCard : Claim7 := { stood := { row := fnExactHoldsPathRow, standIns := [], harness := (true, "08cdb0d600b29eb18b8f68af92df3f892a7d45f85a1bfacd6b0d843003388e5f"), looks := false }, kinds := [], alts := [], laidByText := true, laidKinds := [.data, .data, .data], laidTests := true, laidLooks := .later }
def FnExactHoldsPathCardSaid : Prop := Claim7.holds Tryz.pinned (.plain (OpenSpec.ofChange fnExactHoldsPathSpec)) fnExactHoldsPathCard

/-- THE TIED CARD OF 'laws.FnExactEvalPath'. -/
def fnExactEvalPathCard : Claim7 := { stood := { row := fnExactEvalPathRow, standIns := [], harness := (true, "08cdb0d600b29eb18b8f68af92df3f892a7d45f85a1bfacd6b0d843003388e5f"), looks := false }, kinds := [], alts := [], laidByText := true, laidKinds := [.data, .data, .data], laidTests := true, laidLooks := .later }
def FnExactEvalPathCardSaid : Prop := Claim7.holds Tryz.pinned (.plain (OpenSpec.ofChange fnExactEvalPathSpec)) fnExactEvalPathCard

/-- THE SECOND FORM's CARD OF 'laws.FnExactHoldsPath'. -/
def fnExactHoldsPathUptoCard : Claim7 := { stood := { row := fnExactHoldsPathUptoRow, standIns := [], harness := (true, "08cdb0d600b29eb18b8f68af92df3f892a7d45f85a1bfacd6b0d843003388e5f"), looks := false }, kinds := [], alts := [], laidByText := true, laidKinds := [.data, .data, .data], laidTests := true, laidLooks := .later }
def FnExactHoldsPathUptoCardSaid : Prop := Claim7.holds Tryz.pinned (.plain (OpenSpec.upto fnExactHoldsPathSpec)) fnExactHoldsPathUptoCard

/-- THE SECOND FORM's CARD OF 'laws.FnExactEvalPath'. -/
def fnExactEvalPathUptoCard : Claim7 := { stood := { row := fnExactEvalPathUptoRow, standIns := [], harness := (true, "08cdb0d600b29eb18b8f68af92df3f892a7d45f85a1bfacd6b0d843003388e5f"), looks := false }, kinds := [], alts := [], laidByText := true, laidKinds := [.data, .data, .data], laidTests := true, laidLooks := .later }
def FnExactEvalPathUptoCardSaid : Prop := Claim7.holds Tryz.pinned (.plain (OpenSpec.upto fnExactEvalPathSpec)) fnExactEvalPathUptoCard
end Rows
end Go.Proofs.YtpojldocjaieoaaGreatDoor
