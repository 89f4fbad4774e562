/-
  No cell of these rows narrows 'for every input' (looked for: loops, veiled, ifaces, maps, wideKeys, modest, calm, conditions, laid).
  DERIVED. THE GIVEN ROWS OF THIS SEAT. 3 by the template 'for every input the law returns true; each argument reads behind the call as it read before'; 0 by the template 'total and deterministic' (their statements: YtamfplmmfbbabaaGreatTotals.lean).
  GIVEN WITH THE SEED: the statements are not yours to turn. If you find one false, say at which input.
  Laid BY PROGRAM, IN A SANDBOX (cutbox-rows.mjs): the forced cells as the released guide's own fill.sh prints them over the translation 34a29757834aacad… (all of the seat's roots in one cut). By AI agents, Wed Nov 11 2026. No macro, syntax, notation, axiom, sorry.
-/
import Derived.Test.YtamfplmmfbbabaaGreatChecked
import GoSem.Claim
import GoSem.ClaimJoined
import GoSem.ClaimMapViews
import Derived.JoinedTies
import Derived.KernelRfl
namespace Go.Proofs.YtamfplmmfbbabaaGreat
/- THE CELL 'sum', in the pinned program and in every row, IS THE sha256 OF THE DUMP (.gsa) THAT YtamfplmmfbbabaaGreatProg.lean LOADS. Nothing in Lean hashes anything: it is a label: what it is worth is what the hold of that sum in a sandbox is worth. -/
noncomputable def Tryz.pinned : Pinned := { name := "ytamfplmmfbbabaagreat", sum := "34a29757834aacad00d280ee98a469f0e2187cda36f730c6838c7a54d594f945", checked := Tryz.checked }
namespace Rows
def none {H : Type} : Left H := { results := [], args := [] }

/-- 'dipworkslaw02.HorseReads': WHATEVER THE INPUT: true; the input reads as it did. -/
def horseReadsSpec : ChangeSpec := { name := "horseReads", fn := fun _ => fun
  | [d1, d2, d3, d4, d5, d6] => { results := [.lit (.bool true)], args := [d1, d2, d3, d4, d5, d6] }
  | _ => none }
def horseReadsRow : OpenClaim := { program := "ytamfplmmfbbabaagreat", sum := "34a29757834aacad00d280ee98a469f0e2187cda36f730c6838c7a54d594f945", func := "dipworks/dipworkslaw02.HorseReads", spec := "horseReads", unfollowed := true, recurses := true, plainKeys := false, apart := false }
def HorseReadsSaid : Prop := horseReadsRow.holds Tryz.pinned (OpenSpec.ofChange horseReadsSpec)

/-- ITS FALSE NEIGHBOUR: 'it returns false'. Refute it at one input. -/
def horseReadsWrong : ChangeSpec := { name := "horseReads", fn := fun _ => fun
  | [d1, d2, d3, d4, d5, d6] => { results := [.lit (.bool false)], args := [d1, d2, d3, d4, d5, d6] }
  | _ => none }
def HorseReadsWrongFalsely : Prop := horseReadsRow.holds Tryz.pinned (OpenSpec.ofChange horseReadsWrong)

/-- 'dipworkslaw02.HorseLooks': WHATEVER THE INPUT: true; the input reads as it did. -/
def horseLooksSpec : ChangeSpec := { name := "horseLooks", fn := fun _ => fun
  | [d1, d2] => { results := [.lit (.bool true)], args := [d1, d2] }
  | _ => none }
def horseLooksRow : OpenClaim := { program := "ytamfplmmfbbabaagreat", sum := "34a29757834aacad00d280ee98a469f0e2187cda36f730c6838c7a54d594f945", func := "dipworks/dipworkslaw02.HorseLooks", spec := "horseLooks", unfollowed := true, recurses := true, plainKeys := false, apart := false }
def HorseLooksSaid : Prop := horseLooksRow.holds Tryz.pinned (OpenSpec.ofChange horseLooksSpec)

/-- ITS FALSE NEIGHBOUR: 'it returns false'. Refute it at one input. -/
def horseLooksWrong : ChangeSpec := { name := "horseLooks", fn := fun _ => fun
  | [d1, d2] => { results := [.lit (.bool false)], args := [d1, d2] }
  | _ => none }
def HorseLooksWrongFalsely : Prop := horseLooksRow.holds Tryz.pinned (OpenSpec.ofChange horseLooksWrong)

/-- 'dipworkslaw02.HorseLeaves': WHATEVER THE INPUT: true; the input reads as it did. -/
def horseLeavesSpec : ChangeSpec := { name := "horseLeaves", fn := fun _ => fun
  | [d1, d2, d3] => { results := [.lit (.bool true)], args := [d1, d2, d3] }
  | _ => none }
def horseLeavesRow : OpenClaim := { program := "ytamfplmmfbbabaagreat", sum := "34a29757834aacad00d280ee98a469f0e2187cda36f730c6838c7a54d594f945", func := "dipworks/dipworkslaw02.HorseLeaves", spec := "horseLeaves", unfollowed := true, recurses := true, plainKeys := false, apart := false }
def HorseLeavesSaid : Prop := horseLeavesRow.holds Tryz.pinned (OpenSpec.ofChange horseLeavesSpec)

/-- ITS FALSE NEIGHBOUR: 'it returns false'. Refute it at one input. -/
def horseLeavesWrong : ChangeSpec := { name := "horseLeaves", fn := fun _ => fun
  | [d1, d2, d3] => { results := [.lit (.bool false)], args := [d1, d2, d3] }
  | _ => none }
def HorseLeavesWrongFalsely : Prop := horseLeavesRow.holds Tryz.pinned (OpenSpec.ofChange horseLeavesWrong)

/- THE SECOND FORM. 'bulk': how many values and letters a reading holds, each counted each time it is reached (what is shared counts as often as it is met; a slice's spare places count too). A statement '..UptoSaid' is the law's where the arguments, and the package variables that the reading takes, are together of bulk at most 1048576: NARROWER than '..Said'. Prove '..Said' where nothing that the law and all that it calls make is longer than what came in: it says more and counts as full. Else prove '..UptoSaid'. A law counts once. -/
mutual
def uptoBulk {H : Type} : DataW H → Nat
  | .lit (.string bytes) => bytes.length + 1
  | .lit _ => 1
  | .nil => 1
  | .ptr d => uptoBulk d + 1
  | .slice elems spare => uptoBulkAll elems + uptoBulkAll spare + 1
  | .agg parts => uptoBulkAll parts + 1
  | .iface _ d => uptoBulk d + 1
  | .map entries => uptoBulkEntries entries + 1
  | .held _ => 1
def uptoBulkAll {H : Type} : List (DataW H) → Nat
  | [] => 0
  | d :: r => uptoBulk d + uptoBulkAll r
def uptoBulkEntries {H : Type} : List (Lit × DataW H) → Nat
  | [] => 0
  | x :: r => uptoBulkEntry x + uptoBulkEntries r
def uptoBulkEntry {H : Type} : Lit × DataW H → Nat
  | (.string bytes, d) => bytes.length + uptoBulk d + 1
  | (_, d) => uptoBulk d + 1
 end
def uptoSmall : (H : Type) → List (DataW H) → Bool := fun _ ds => decide (uptoBulkAll ds ≤ 1048576)
def OpenSpec.upto (s : _root_.Go.ChangeSpec) : _root_.Go.OpenSpec := { _root_.Go.OpenSpec.ofChange s with cond := some uptoSmall }

/-- 'dipworkslaw02.HorseReads', WHERE WHAT IT READS IS OF BULK AT MOST 1048576: true; the input reads as it did. -/
def horseReadsUptoRow : OpenClaim := { program := "ytamfplmmfbbabaagreat", sum := "34a29757834aacad00d280ee98a469f0e2187cda36f730c6838c7a54d594f945", func := "dipworks/dipworkslaw02.HorseReads", spec := "horseReads", unfollowed := true, recurses := true, plainKeys := false, apart := false, narrowed := true }
def HorseReadsUptoSaid : Prop := horseReadsUptoRow.holds Tryz.pinned (OpenSpec.upto horseReadsSpec)

/-- 'dipworkslaw02.HorseLooks', WHERE WHAT IT READS IS OF BULK AT MOST 1048576: true; the input reads as it did. -/
def horseLooksUptoRow : OpenClaim := { program := "ytamfplmmfbbabaagreat", sum := "34a29757834aacad00d280ee98a469f0e2187cda36f730c6838c7a54d594f945", func := "dipworks/dipworkslaw02.HorseLooks", spec := "horseLooks", unfollowed := true, recurses := true, plainKeys := false, apart := false, narrowed := true }
def HorseLooksUptoSaid : Prop := horseLooksUptoRow.holds Tryz.pinned (OpenSpec.upto horseLooksSpec)

/-- 'dipworkslaw02.HorseLeaves', WHERE WHAT IT READS IS OF BULK AT MOST 1048576: true; the input reads as it did. -/
def horseLeavesUptoRow : OpenClaim := { program := "ytamfplmmfbbabaagreat", sum := "34a29757834aacad00d280ee98a469f0e2187cda36f730c6838c7a54d594f945", func := "dipworks/dipworkslaw02.HorseLeaves", spec := "horseLeaves", unfollowed := true, recurses := true, plainKeys := false, apart := false, narrowed := true }
def HorseLeavesUptoSaid : Prop := horseLeavesUptoRow.holds Tryz.pinned (OpenSpec.upto horseLeavesSpec)

end Rows
end Go.Proofs.YtamfplmmfbbabaaGreat
