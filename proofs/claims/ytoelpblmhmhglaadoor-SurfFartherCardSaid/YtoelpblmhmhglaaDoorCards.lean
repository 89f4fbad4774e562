/-
  DERIVED. GIVEN WITH THE SEED: THE CARDS: each row of YtoelpblmhmhglaaDoorRows.lean that lists a variable, with what it lists TIED to the program's text (the seventh form; the later family's looks); each row that meets fmt, with fmt's text TOLD by the authors' own Lean function (tested against real Go, not proved from fmt's source: count such statements apart). THE CARD IS WHAT COUNTS. Prove the row's statement (the work); the ties are given (YtoelpblmhmhglaaDoorTie.lean); close each card by the builder's one call (the guide's Derived/Test/ToyasCard.lean, 'card_holds'). Laid BY PROGRAM, IN A SANDBOX (cutbox-door.mjs). By AI agents, Wed Nov 11 2026. No macro, syntax, notation, axiom, sorry.
-/
import Derived.Test.YtoelpblmhmhglaaDoorRows
import GoSem.ClaimSeven
namespace Go.Proofs.YtoelpblmhmhglaaDoor
namespace Rows

/-- THE TIED CARD OF 'dipworkslaw04.SurfTrue'. -/
def surfTrueCard : Claim7 := { stood := { row := surfTrueRow, standIns := [], harness := (true, "7f67318f354f61ab13eba48162fb2f87a73ccd6cc6a3f1a1eac1b2bbae2c0649"), looks := true }, kinds := [], alts := [], laidByText := true, laidKinds := [.data, .data], laidTests := true, laidLooks := .later }
def SurfTrueCardSaid : Prop := Claim7.holds Tryd.pinned (.plain (OpenSpec.ofChange surfTrueSpec)) surfTrueCard

/-- THE TIED CARD OF 'dipworkslaw04.SurfKnown'. -/
def surfKnownCard : Claim7 := { stood := { row := surfKnownRow, standIns := [], harness := (true, "7f67318f354f61ab13eba48162fb2f87a73ccd6cc6a3f1a1eac1b2bbae2c0649"), looks := true }, kinds := [], alts := [], laidByText := true, laidKinds := [.data, .data], laidTests := true, laidLooks := .later }
def SurfKnownCardSaid : Prop := Claim7.holds Tryd.pinned (.plain (OpenSpec.ofChange surfKnownSpec)) surfKnownCard

/-- THE TIED CARD OF 'dipworkslaw04.SurfEnds'. -/
def surfEndsCard : Claim7 := { stood := { row := surfEndsRow, standIns := [], harness := (true, "7f67318f354f61ab13eba48162fb2f87a73ccd6cc6a3f1a1eac1b2bbae2c0649"), looks := true }, kinds := [], alts := [], laidByText := true, laidKinds := [.data, .data], laidTests := true, laidLooks := .later }
def SurfEndsCardSaid : Prop := Claim7.holds Tryd.pinned (.plain (OpenSpec.ofChange surfEndsSpec)) surfEndsCard

/-- THE TIED CARD OF 'dipworkslaw04.SurfEnough'. -/
def surfEnoughCard : Claim7 := { stood := { row := surfEnoughRow, standIns := [], harness := (true, "7f67318f354f61ab13eba48162fb2f87a73ccd6cc6a3f1a1eac1b2bbae2c0649"), looks := true }, kinds := [], alts := [], laidByText := true, laidKinds := [.data, .data], laidTests := true, laidLooks := .later }
def SurfEnoughCardSaid : Prop := Claim7.holds Tryd.pinned (.plain (OpenSpec.ofChange surfEnoughSpec)) surfEnoughCard

/-- THE TIED CARD OF 'dipworkslaw04.SurfSave'. -/
def surfSaveCard : Claim7 := { stood := { row := surfSaveRow, standIns := [], harness := (true, "7f67318f354f61ab13eba48162fb2f87a73ccd6cc6a3f1a1eac1b2bbae2c0649"), looks := true }, kinds := [], alts := [], laidByText := true, laidKinds := [.data, .data], laidTests := true, laidLooks := .later }
def SurfSaveCardSaid : Prop := Claim7.holds Tryd.pinned (.plain (OpenSpec.ofChange surfSaveSpec)) surfSaveCard

/-- THE TIED CARD OF 'dipworkslaw04.SurfMore'. -/
def surfMoreCard : Claim7 := { stood := { row := surfMoreRow, standIns := [], harness := (true, "7f67318f354f61ab13eba48162fb2f87a73ccd6cc6a3f1a1eac1b2bbae2c0649"), looks := true }, kinds := [], alts := [], laidByText := true, laidKinds := [.data, .data], laidTests := true, laidLooks := .later }
def SurfMoreCardSaid : Prop := Claim7.holds Tryd.pinned (.plain (OpenSpec.ofChange surfMoreSpec)) surfMoreCard

/-- THE TIED CARD OF 'dipworkslaw04.SurfFarther'. -/
def surfFartherCard : Claim7 := { stood := { row := surfFartherRow, standIns := [], harness := (true, "7f67318f354f61ab13eba48162fb2f87a73ccd6cc6a3f1a1eac1b2bbae2c0649"), looks := true }, kinds := [], alts := [], laidByText := true, laidKinds := [.data, .data], laidTests := true, laidLooks := .later }
def SurfFartherCardSaid : Prop := Claim7.holds Tryd.pinned (.plain (OpenSpec.ofChange surfFartherSpec)) surfFartherCard

/-- THE SECOND FORM's CARD OF 'dipworkslaw04.SurfTrue'. -/
def surfTrueUptoCard : Claim7 := { stood := { row := surfTrueUptoRow, standIns := [], harness := (true, "7f67318f354f61ab13eba48162fb2f87a73ccd6cc6a3f1a1eac1b2bbae2c0649"), looks := true }, kinds := [], alts := [], laidByText := true, laidKinds := [.data, .data], laidTests := true, laidLooks := .later }
def SurfTrueUptoCardSaid : Prop := Claim7.holds Tryd.pinned (.plain (OpenSpec.upto surfTrueSpec)) surfTrueUptoCard

/-- THE SECOND FORM's CARD OF 'dipworkslaw04.SurfKnown'. -/
def surfKnownUptoCard : Claim7 := { stood := { row := surfKnownUptoRow, standIns := [], harness := (true, "7f67318f354f61ab13eba48162fb2f87a73ccd6cc6a3f1a1eac1b2bbae2c0649"), looks := true }, kinds := [], alts := [], laidByText := true, laidKinds := [.data, .data], laidTests := true, laidLooks := .later }
def SurfKnownUptoCardSaid : Prop := Claim7.holds Tryd.pinned (.plain (OpenSpec.upto surfKnownSpec)) surfKnownUptoCard

/-- THE SECOND FORM's CARD OF 'dipworkslaw04.SurfEnds'. -/
def surfEndsUptoCard : Claim7 := { stood := { row := surfEndsUptoRow, standIns := [], harness := (true, "7f67318f354f61ab13eba48162fb2f87a73ccd6cc6a3f1a1eac1b2bbae2c0649"), looks := true }, kinds := [], alts := [], laidByText := true, laidKinds := [.data, .data], laidTests := true, laidLooks := .later }
def SurfEndsUptoCardSaid : Prop := Claim7.holds Tryd.pinned (.plain (OpenSpec.upto surfEndsSpec)) surfEndsUptoCard

/-- THE SECOND FORM's CARD OF 'dipworkslaw04.SurfEnough'. -/
def surfEnoughUptoCard : Claim7 := { stood := { row := surfEnoughUptoRow, standIns := [], harness := (true, "7f67318f354f61ab13eba48162fb2f87a73ccd6cc6a3f1a1eac1b2bbae2c0649"), looks := true }, kinds := [], alts := [], laidByText := true, laidKinds := [.data, .data], laidTests := true, laidLooks := .later }
def SurfEnoughUptoCardSaid : Prop := Claim7.holds Tryd.pinned (.plain (OpenSpec.upto surfEnoughSpec)) surfEnoughUptoCard

/-- THE SECOND FORM's CARD OF 'dipworkslaw04.SurfSave'. -/
def surfSaveUptoCard : Claim7 := { stood := { row := surfSaveUptoRow, standIns := [], harness := (true, "7f67318f354f61ab13eba48162fb2f87a73ccd6cc6a3f1a1eac1b2bbae2c0649"), looks := true }, kinds := [], alts := [], laidByText := true, laidKinds := [.data, .data], laidTests := true, laidLooks := .later }
def SurfSaveUptoCardSaid : Prop := Claim7.holds Tryd.pinned (.plain (OpenSpec.upto surfSaveSpec)) surfSaveUptoCard

/-- THE SECOND FORM's CARD OF 'dipworkslaw04.SurfMore'. -/
def surfMoreUptoCard : Claim7 := { stood := { row := surfMoreUptoRow, standIns := [], harness := (true, "7f67318f354f61ab13eba48162fb2f87a73ccd6cc6a3f1a1eac1b2bbae2c0649"), looks := true }, kinds := [], alts := [], laidByText := true, laidKinds := [.data, .data], laidTests := true, laidLooks := .later }
def SurfMoreUptoCardSaid : Prop := Claim7.holds Tryd.pinned (.plain (OpenSpec.upto surfMoreSpec)) surfMoreUptoCard

/-- THE SECOND FORM's CARD OF 'dipworkslaw04.SurfFarther'. -/
def surfFartherUptoCard : Claim7 := { stood := { row := surfFartherUptoRow, standIns := [], harness := (true, "7f67318f354f61ab13eba48162fb2f87a73ccd6cc6a3f1a1eac1b2bbae2c0649"), looks := true }, kinds := [], alts := [], laidByText := true, laidKinds := [.data, .data], laidTests := true, laidLooks := .later }
def SurfFartherUptoCardSaid : Prop := Claim7.holds Tryd.pinned (.plain (OpenSpec.upto surfFartherSpec)) surfFartherUptoCard
end Rows
end Go.Proofs.YtoelpblmhmhglaaDoor
