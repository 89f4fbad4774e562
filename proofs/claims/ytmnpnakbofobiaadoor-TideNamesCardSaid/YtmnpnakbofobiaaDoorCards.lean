/-
  DERIVED. GIVEN WITH THE SEED: THE CARDS: each row of YtmnpnakbofobiaaDoorRows.lean that lists a variable, with what it lists TIED to the program's text (the seventh form; the later family's looks); each row that meets fmt, with fmt's text TOLD by the authors' own Lean function (tested against real Go, not proved from fmt's source: count such statements apart). THE CARD IS WHAT COUNTS. Prove the row's statement (the work); the ties are given (YtmnpnakbofobiaaDoorTie.lean); close each card by the builder's one call (the guide's Derived/Test/ToyasCard.lean, 'card_holds'). Laid BY PROGRAM, IN A SANDBOX (cutbox-door.mjs). By AI agents, Wed Nov 11 2026. No macro, syntax, notation, axiom, sorry.
-/
import Derived.Test.YtmnpnakbofobiaaDoorRows
import GoSem.ClaimSeven
namespace Go.Proofs.YtmnpnakbofobiaaDoor
namespace Rows

/-- THE TIED CARD OF 'dipworkslaw01.TideNames'. -/
def tideNamesCard : Claim7 := { stood := { row := tideNamesRow, standIns := [], harness := (true, "972415cda50d1706c8296d3fa75431865848c59dd24313efbb831b5489b0ab7e"), looks := true }, kinds := [], alts := [], laidByText := true, laidKinds := [.data, .data], laidTests := true, laidLooks := .later }
def TideNamesCardSaid : Prop := Claim7.holds Tryd.pinned (.plain (OpenSpec.ofChange tideNamesSpec)) tideNamesCard

/-- THE SECOND FORM's CARD OF 'dipworkslaw01.TideNames'. -/
def tideNamesUptoCard : Claim7 := { stood := { row := tideNamesUptoRow, standIns := [], harness := (true, "972415cda50d1706c8296d3fa75431865848c59dd24313efbb831b5489b0ab7e"), looks := true }, kinds := [], alts := [], laidByText := true, laidKinds := [.data, .data], laidTests := true, laidLooks := .later }
def TideNamesUptoCardSaid : Prop := Claim7.holds Tryd.pinned (.plain (OpenSpec.upto tideNamesSpec)) tideNamesUptoCard
end Rows
end Go.Proofs.YtmnpnakbofobiaaDoor
