/-
  DERIVED. GIVEN WITH THE SEED: THE CARDS: each row of YtcihgechijiamaaDoorRows.lean that lists a variable, with what it lists TIED to the program's text (the seventh form; the later family's looks); each row that meets fmt, with fmt's text TOLD by the authors' own Lean function (tested against real Go, not proved from fmt's source: count such statements apart). THE CARD IS WHAT COUNTS. Prove the row's statement (the work); the ties are given (YtcihgechijiamaaDoorTie.lean); close each card by the builder's one call (the guide's Derived/Test/ToyasCard.lean, 'card_holds'). Laid BY PROGRAM, IN A SANDBOX (cutbox-door.mjs). By AI agents, Wed Nov 11 2026. No macro, syntax, notation, axiom, sorry.
-/
import Derived.Test.YtcihgechijiamaaDoorRows
import GoSem.ClaimSeven
namespace Go.Proofs.YtcihgechijiamaaDoor
namespace Rows

/-- THE TIED CARD OF 'laws.FnExactFactOk'. -/
def fnExactFactOkCard : Claim7 := { stood := { row := fnExactFactOkRow, standIns := [], harness := (true, "6f3647083f9a68c7215efd8090152ff19dd06da69deb942ae155234e96d91e24"), looks := false }, kinds := [], alts := [], laidByText := true, laidKinds := [.data], laidTests := true, laidLooks := .later }
def FnExactFactOkCardSaid : Prop := Claim7.holds Tryd.pinned (.plain (OpenSpec.ofChange fnExactFactOkSpec)) fnExactFactOkCard

/-- THE TIED CARD OF 'laws.FnExactFactHolds'. -/
def fnExactFactHoldsCard : Claim7 := { stood := { row := fnExactFactHoldsRow, standIns := [], harness := (true, "6f3647083f9a68c7215efd8090152ff19dd06da69deb942ae155234e96d91e24"), looks := false }, kinds := [], alts := [], laidByText := true, laidKinds := [.data], laidTests := true, laidLooks := .later }
def FnExactFactHoldsCardSaid : Prop := Claim7.holds Tryd.pinned (.plain (OpenSpec.ofChange fnExactFactHoldsSpec)) fnExactFactHoldsCard

/-- THE TIED CARD OF 'laws.FnExactFormatFact'. -/
def fnExactFormatFactCard : Claim7 := { stood := { row := fnExactFormatFactRow, standIns := [], harness := (true, "6f3647083f9a68c7215efd8090152ff19dd06da69deb942ae155234e96d91e24"), looks := false }, kinds := [], alts := [], laidByText := true, laidKinds := [.data, .data, .data, .data], laidTests := true, laidLooks := .later }
def FnExactFormatFactCardSaid : Prop := Claim7.holds Tryd.pinned (.plain (OpenSpec.ofChange fnExactFormatFactSpec)) fnExactFormatFactCard

/-- THE TIED CARD OF 'laws.FnExactCandidateFacts'. -/
def fnExactCandidateFactsCard : Claim7 := { stood := { row := fnExactCandidateFactsRow, standIns := [], harness := (true, "6f3647083f9a68c7215efd8090152ff19dd06da69deb942ae155234e96d91e24"), looks := false }, kinds := [], alts := [], laidByText := true, laidKinds := [.data], laidTests := true, laidLooks := .later }
def FnExactCandidateFactsCardSaid : Prop := Claim7.holds Tryd.pinned (.plain (OpenSpec.ofChange fnExactCandidateFactsSpec)) fnExactCandidateFactsCard

/-- THE SECOND FORM's CARD OF 'laws.FnExactFactOk'. -/
def fnExactFactOkUptoCard : Claim7 := { stood := { row := fnExactFactOkUptoRow, standIns := [], harness := (true, "6f3647083f9a68c7215efd8090152ff19dd06da69deb942ae155234e96d91e24"), looks := false }, kinds := [], alts := [], laidByText := true, laidKinds := [.data], laidTests := true, laidLooks := .later }
def FnExactFactOkUptoCardSaid : Prop := Claim7.holds Tryd.pinned (.plain (OpenSpec.upto fnExactFactOkSpec)) fnExactFactOkUptoCard

/-- THE SECOND FORM's CARD OF 'laws.FnExactFactHolds'. -/
def fnExactFactHoldsUptoCard : Claim7 := { stood := { row := fnExactFactHoldsUptoRow, standIns := [], harness := (true, "6f3647083f9a68c7215efd8090152ff19dd06da69deb942ae155234e96d91e24"), looks := false }, kinds := [], alts := [], laidByText := true, laidKinds := [.data], laidTests := true, laidLooks := .later }
def FnExactFactHoldsUptoCardSaid : Prop := Claim7.holds Tryd.pinned (.plain (OpenSpec.upto fnExactFactHoldsSpec)) fnExactFactHoldsUptoCard

/-- THE SECOND FORM's CARD OF 'laws.FnExactFormatFact'. -/
def fnExactFormatFactUptoCard : Claim7 := { stood := { row := fnExactFormatFactUptoRow, standIns := [], harness := (true, "6f3647083f9a68c7215efd8090152ff19dd06da69deb942ae155234e96d91e24"), looks := false }, kinds := [], alts := [], laidByText := true, laidKinds := [.data, .data, .data, .data], laidTests := true, laidLooks := .later }
def FnExactFormatFactUptoCardSaid : Prop := Claim7.holds Tryd.pinned (.plain (OpenSpec.upto fnExactFormatFactSpec)) fnExactFormatFactUptoCard

/-- THE SECOND FORM's CARD OF 'laws.FnExactCandidateFacts'. -/
def fnExactCandidateFactsUptoCard : Claim7 := { stood := { row := fnExactCandidateFactsUptoRow, standIns := [], harness := (true, "6f3647083f9a68c7215efd8090152ff19dd06da69deb942ae155234e96d91e24"), looks := false }, kinds := [], alts := [], laidByText := true, laidKinds := [.data], laidTests := true, laidLooks := .later }
def FnExactCandidateFactsUptoCardSaid : Prop := Claim7.holds Tryd.pinned (.plain (OpenSpec.upto fnExactCandidateFactsSpec)) fnExactCandidateFactsUptoCard
end Rows
end Go.Proofs.YtcihgechijiamaaDoor
