/-
  NARROWER THAN 'FOR EVERY INPUT', by the rows' own cells (each row's printed sentence says how): TicketNames: laid · TicketTurns: laid · TicketFree: laid.
  DERIVED. THE GIVEN ROWS OF THIS SEAT. 3 by the template 'for every input the law returns true; each argument reads behind the call as it read before'; 0 by the template 'total and deterministic' (their statements: YtbcppknifdjdpaaDoorTotals.lean).
  GIVEN WITH THE SEED: the statements are not yours to turn. If you find one false, say at which input.
  Laid BY PROGRAM, IN A SANDBOX (cutbox-rows.mjs): the forced cells as the released guide's own fill.sh prints them over the translation 35cc4725c3953b6e… (all of the seat's roots in one cut). By AI agents, Wed Nov 11 2026. No macro, syntax, notation, axiom, sorry.
-/
import Derived.Test.YtbcppknifdjdpaaDoorChecked
import GoSem.Claim
import GoSem.ClaimJoined
import GoSem.ClaimMapViews
import Derived.JoinedTies
import Derived.KernelRfl
namespace Go.Proofs.YtbcppknifdjdpaaDoor
/- THE CELL 'sum', in the pinned program and in every row, IS THE sha256 OF THE DUMP (.gsa) THAT YtbcppknifdjdpaaDoorProg.lean LOADS. Nothing in Lean hashes anything: it is a label: what it is worth is what the hold of that sum in a sandbox is worth. -/
noncomputable def Tryd.pinned : Pinned := { name := "ytbcppknifdjdpaadoor", sum := "35cc4725c3953b6e0f28419a466f3bb182a2e005c80560e6d8169c63d2744c67", checked := Tryd.checked }
namespace Rows
def none {H : Type} : Left H := { results := [], args := [] }

/- WHAT THE LISTED PACKAGE-LEVEL VARIABLES READ AS WHEN THE CALL BEGINS. Each datum BY PROGRAM (the guide's laid-datum.mjs) off the statement by which the dump's own 'gosem.cut.vars' lays the variable. In a bare row this is a premise. The card (YtbcppknifdjdpaaDoorCards.lean) ties it to the program's text. -/
def laid_dipworks_ticket_absent {H : Type} : DataW H := .agg [.lit (.int .i64 (-30)), .lit (.int .i64 (-30))]

/-- 'dipworkslaw03.TicketNames': WHATEVER THE INPUT: true; the input reads as it did. -/
def ticketNamesSpec : ChangeSpec := { name := "ticketNames", fn := fun _ => fun
  | [] => { results := [.lit (.bool true)], args := [] }
  | _ => none }
def ticketNamesRow : OpenClaim := { program := "ytbcppknifdjdpaadoor", sum := "35cc4725c3953b6e0f28419a466f3bb182a2e005c80560e6d8169c63d2744c67", func := "dipworks/dipworkslaw03.TicketNames", spec := "ticketNames", unfollowed := true, recurses := true, named := ["dipworks/ticket.absent"], plainKeys := false, apart := false, laid := [("dipworks/ticket.absent", laid_dipworks_ticket_absent)] }
def TicketNamesSaid : Prop := ticketNamesRow.holds Tryd.pinned (OpenSpec.ofChange ticketNamesSpec)

/-- ITS FALSE NEIGHBOUR: 'it returns false'. Refute it at one input. -/
def ticketNamesWrong : ChangeSpec := { name := "ticketNames", fn := fun _ => fun
  | [] => { results := [.lit (.bool false)], args := [] }
  | _ => none }
def TicketNamesWrongFalsely : Prop := ticketNamesRow.holds Tryd.pinned (OpenSpec.ofChange ticketNamesWrong)

/-- 'dipworkslaw03.TicketTurns': WHATEVER THE INPUT: true; the input reads as it did. -/
def ticketTurnsSpec : ChangeSpec := { name := "ticketTurns", fn := fun _ => fun
  | [d1, d2] => { results := [.lit (.bool true)], args := [d1, d2] }
  | _ => none }
def ticketTurnsRow : OpenClaim := { program := "ytbcppknifdjdpaadoor", sum := "35cc4725c3953b6e0f28419a466f3bb182a2e005c80560e6d8169c63d2744c67", func := "dipworks/dipworkslaw03.TicketTurns", spec := "ticketTurns", unfollowed := true, recurses := true, named := ["dipworks/ticket.absent"], plainKeys := false, apart := false, laid := [("dipworks/ticket.absent", laid_dipworks_ticket_absent)] }
def TicketTurnsSaid : Prop := ticketTurnsRow.holds Tryd.pinned (OpenSpec.ofChange ticketTurnsSpec)

/-- ITS FALSE NEIGHBOUR: 'it returns false'. Refute it at one input. -/
def ticketTurnsWrong : ChangeSpec := { name := "ticketTurns", fn := fun _ => fun
  | [d1, d2] => { results := [.lit (.bool false)], args := [d1, d2] }
  | _ => none }
def TicketTurnsWrongFalsely : Prop := ticketTurnsRow.holds Tryd.pinned (OpenSpec.ofChange ticketTurnsWrong)

/-- 'dipworkslaw03.TicketFree': WHATEVER THE INPUT: true; the input reads as it did. -/
def ticketFreeSpec : ChangeSpec := { name := "ticketFree", fn := fun _ => fun
  | [d1, d2, d3] => { results := [.lit (.bool true)], args := [d1, d2, d3] }
  | _ => none }
def ticketFreeRow : OpenClaim := { program := "ytbcppknifdjdpaadoor", sum := "35cc4725c3953b6e0f28419a466f3bb182a2e005c80560e6d8169c63d2744c67", func := "dipworks/dipworkslaw03.TicketFree", spec := "ticketFree", unfollowed := true, recurses := true, named := ["dipworks/ticket.absent"], plainKeys := false, apart := false, laid := [("dipworks/ticket.absent", laid_dipworks_ticket_absent)] }
def TicketFreeSaid : Prop := ticketFreeRow.holds Tryd.pinned (OpenSpec.ofChange ticketFreeSpec)

/-- ITS FALSE NEIGHBOUR: 'it returns false'. Refute it at one input. -/
def ticketFreeWrong : ChangeSpec := { name := "ticketFree", fn := fun _ => fun
  | [d1, d2, d3] => { results := [.lit (.bool false)], args := [d1, d2, d3] }
  | _ => none }
def TicketFreeWrongFalsely : Prop := ticketFreeRow.holds Tryd.pinned (OpenSpec.ofChange ticketFreeWrong)

/- THE SECOND FORM. 'bulk': how many values and letters a reading holds, each counted each time it is reached (what is shared counts as often as it is met; a slice's spare places count too). A statement '..UptoSaid' is the law's where the arguments, and the package variables that the reading takes, are together of bulk at most 1048576: NARROWER than '..Said'. Prove '..Said' where nothing that the law and all that it calls make is longer than what came in: it says more and counts as full. Else prove '..UptoSaid'. A law counts once. -/
mutual
def uptoBulk {H : Type} : DataW H → Nat
  | .lit (.string bytes) => bytes.length + 1
  | .lit _ => 1
  | .nil => 1
  | .ptr d => uptoBulk d + 1
  | .slice elems spare => uptoBulkAll elems + uptoBulkAll spare + 1
  | .agg parts => uptoBulkAll parts + 1
  | .iface _ d => uptoBulk d + 1
  | .map entries => uptoBulkEntries entries + 1
  | .held _ => 1
def uptoBulkAll {H : Type} : List (DataW H) → Nat
  | [] => 0
  | d :: r => uptoBulk d + uptoBulkAll r
def uptoBulkEntries {H : Type} : List (Lit × DataW H) → Nat
  | [] => 0
  | x :: r => uptoBulkEntry x + uptoBulkEntries r
def uptoBulkEntry {H : Type} : Lit × DataW H → Nat
  | (.string bytes, d) => bytes.length + uptoBulk d + 1
  | (_, d) => uptoBulk d + 1
 end
def uptoSmall : (H : Type) → List (DataW H) → Bool := fun _ ds => decide (uptoBulkAll ds ≤ 1048576)
def OpenSpec.upto (s : _root_.Go.ChangeSpec) : _root_.Go.OpenSpec := { _root_.Go.OpenSpec.ofChange s with cond := some uptoSmall }

/-- 'dipworkslaw03.TicketNames', WHERE WHAT IT READS IS OF BULK AT MOST 1048576: true; the input reads as it did. -/
def ticketNamesUptoRow : OpenClaim := { program := "ytbcppknifdjdpaadoor", sum := "35cc4725c3953b6e0f28419a466f3bb182a2e005c80560e6d8169c63d2744c67", func := "dipworks/dipworkslaw03.TicketNames", spec := "ticketNames", unfollowed := true, recurses := true, named := ["dipworks/ticket.absent"], plainKeys := false, apart := false, laid := [("dipworks/ticket.absent", laid_dipworks_ticket_absent)], narrowed := true }
def TicketNamesUptoSaid : Prop := ticketNamesUptoRow.holds Tryd.pinned (OpenSpec.upto ticketNamesSpec)

/-- 'dipworkslaw03.TicketTurns', WHERE WHAT IT READS IS OF BULK AT MOST 1048576: true; the input reads as it did. -/
def ticketTurnsUptoRow : OpenClaim := { program := "ytbcppknifdjdpaadoor", sum := "35cc4725c3953b6e0f28419a466f3bb182a2e005c80560e6d8169c63d2744c67", func := "dipworks/dipworkslaw03.TicketTurns", spec := "ticketTurns", unfollowed := true, recurses := true, named := ["dipworks/ticket.absent"], plainKeys := false, apart := false, laid := [("dipworks/ticket.absent", laid_dipworks_ticket_absent)], narrowed := true }
def TicketTurnsUptoSaid : Prop := ticketTurnsUptoRow.holds Tryd.pinned (OpenSpec.upto ticketTurnsSpec)

/-- 'dipworkslaw03.TicketFree', WHERE WHAT IT READS IS OF BULK AT MOST 1048576: true; the input reads as it did. -/
def ticketFreeUptoRow : OpenClaim := { program := "ytbcppknifdjdpaadoor", sum := "35cc4725c3953b6e0f28419a466f3bb182a2e005c80560e6d8169c63d2744c67", func := "dipworks/dipworkslaw03.TicketFree", spec := "ticketFree", unfollowed := true, recurses := true, named := ["dipworks/ticket.absent"], plainKeys := false, apart := false, laid := [("dipworks/ticket.absent", laid_dipworks_ticket_absent)], narrowed := true }
def TicketFreeUptoSaid : Prop := ticketFreeUptoRow.holds Tryd.pinned (OpenSpec.upto ticketFreeSpec)

end Rows
end Go.Proofs.YtbcppknifdjdpaaDoor
