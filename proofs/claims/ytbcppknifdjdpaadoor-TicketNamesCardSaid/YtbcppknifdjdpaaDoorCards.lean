/-
  DERIVED. GIVEN WITH THE SEED: THE CARDS: each row of YtbcppknifdjdpaaDoorRows.lean that lists a variable, with what it lists TIED to the program's text (the seventh form; the later family's looks); each row that meets fmt, with fmt's text TOLD by the authors' own Lean function (tested against real Go, not proved from fmt's source: count such statements apart). THE CARD IS WHAT COUNTS. Prove the row's statement (the work); the ties are given (YtbcppknifdjdpaaDoorTie.lean); close each card by the builder's one call (the guide's Derived/Test/ToyasCard.lean, 'card_holds'). Laid BY PROGRAM, IN A SANDBOX (cutbox-door.mjs). By AI agents, Wed Nov 11 2026. No macro, syntax, notation, axiom, sorry.
-/
import Derived.Test.YtbcppknifdjdpaaDoorRows
import GoSem.ClaimSeven
namespace Go.Proofs.YtbcppknifdjdpaaDoor
namespace Rows

/-- THE TIED CARD OF 'dipworkslaw03.TicketNames'. -/
def ticketNamesCard : Claim7 := { stood := { row := ticketNamesRow, standIns := [], harness := (true, "afa356cbe044ca38a26ef22116e77e83841a5c6ef04555d093d8cdcec818bc16"), looks := true }, kinds := [], alts := [], laidByText := true, laidKinds := [.data], laidTests := true, laidLooks := .later }
def TicketNamesCardSaid : Prop := Claim7.holds Tryd.pinned (.plain (OpenSpec.ofChange ticketNamesSpec)) ticketNamesCard

/-- THE TIED CARD OF 'dipworkslaw03.TicketTurns'. -/
def ticketTurnsCard : Claim7 := { stood := { row := ticketTurnsRow, standIns := [], harness := (true, "afa356cbe044ca38a26ef22116e77e83841a5c6ef04555d093d8cdcec818bc16"), looks := true }, kinds := [], alts := [], laidByText := true, laidKinds := [.data], laidTests := true, laidLooks := .later }
def TicketTurnsCardSaid : Prop := Claim7.holds Tryd.pinned (.plain (OpenSpec.ofChange ticketTurnsSpec)) ticketTurnsCard

/-- THE TIED CARD OF 'dipworkslaw03.TicketFree'. -/
def ticketFreeCard : Claim7 := { stood := { row := ticketFreeRow, standIns := [], harness := (true, "afa356cbe044ca38a26ef22116e77e83841a5c6ef04555d093d8cdcec818bc16"), looks := true }, kinds := [], alts := [], laidByText := true, laidKinds := [.data], laidTests := true, laidLooks := .later }
def TicketFreeCardSaid : Prop := Claim7.holds Tryd.pinned (.plain (OpenSpec.ofChange ticketFreeSpec)) ticketFreeCard

/-- THE SECOND FORM's CARD OF 'dipworkslaw03.TicketNames'. -/
def ticketNamesUptoCard : Claim7 := { stood := { row := ticketNamesUptoRow, standIns := [], harness := (true, "afa356cbe044ca38a26ef22116e77e83841a5c6ef04555d093d8cdcec818bc16"), looks := true }, kinds := [], alts := [], laidByText := true, laidKinds := [.data], laidTests := true, laidLooks := .later }
def TicketNamesUptoCardSaid : Prop := Claim7.holds Tryd.pinned (.plain (OpenSpec.upto ticketNamesSpec)) ticketNamesUptoCard

/-- THE SECOND FORM's CARD OF 'dipworkslaw03.TicketTurns'. -/
def ticketTurnsUptoCard : Claim7 := { stood := { row := ticketTurnsUptoRow, standIns := [], harness := (true, "afa356cbe044ca38a26ef22116e77e83841a5c6ef04555d093d8cdcec818bc16"), looks := true }, kinds := [], alts := [], laidByText := true, laidKinds := [.data], laidTests := true, laidLooks := .later }
def TicketTurnsUptoCardSaid : Prop := Claim7.holds Tryd.pinned (.plain (OpenSpec.upto ticketTurnsSpec)) ticketTurnsUptoCard

/-- THE SECOND FORM's CARD OF 'dipworkslaw03.TicketFree'. -/
def ticketFreeUptoCard : Claim7 := { stood := { row := ticketFreeUptoRow, standIns := [], harness := (true, "afa356cbe044ca38a26ef22116e77e83841a5c6ef04555d093d8cdcec818bc16"), looks := true }, kinds := [], alts := [], laidByText := true, laidKinds := [.data], laidTests := true, laidLooks := .later }
def TicketFreeUptoCardSaid : Prop := Claim7.holds Tryd.pinned (.plain (OpenSpec.upto ticketFreeSpec)) ticketFreeUptoCard
end Rows
end Go.Proofs.YtbcppknifdjdpaaDoor
