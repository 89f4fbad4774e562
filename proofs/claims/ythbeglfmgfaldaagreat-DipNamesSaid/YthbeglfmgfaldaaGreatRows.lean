/-
  No cell of these rows narrows 'for every input' (looked for: loops, veiled, ifaces, maps, wideKeys, modest, calm, conditions, laid).
  DERIVED. THE GIVEN ROWS OF THIS SEAT. 10 by the template 'for every input the law returns true; each argument reads behind the call as it read before'; 0 by the template 'total and deterministic' (their statements: YthbeglfmgfaldaaGreatTotals.lean).
  GIVEN WITH THE SEED: the statements are not yours to turn. If you find one false, say at which input.
  Laid BY PROGRAM, IN A SANDBOX (cutbox-rows.mjs): the forced cells as the released guide's own fill.sh prints them over the translation 021a40d4f5e4f7db… (all of the seat's roots in one cut). By AI agents, Wed Nov 11 2026. No macro, syntax, notation, axiom, sorry.
-/
import Derived.Test.YthbeglfmgfaldaaGreatChecked
import GoSem.Claim
import GoSem.ClaimJoined
import GoSem.ClaimMapViews
import Derived.JoinedTies
import Derived.KernelRfl
namespace Go.Proofs.YthbeglfmgfaldaaGreat
/- THE CELL 'sum', in the pinned program and in every row, IS THE sha256 OF THE DUMP (.gsa) THAT YthbeglfmgfaldaaGreatProg.lean LOADS. Nothing in Lean hashes anything: it is a label: what it is worth is what the hold of that sum in a sandbox is worth. -/
noncomputable def Tryz.pinned : Pinned := { name := "ythbeglfmgfaldaagreat", sum := "021a40d4f5e4f7dba164d9fd3544a271585d57b78a82677a725e0f9302d54def", checked := Tryz.checked }
namespace Rows
def none {H : Type} : Left H := { results := [], args := [] }

/-- 'dipworkslaw09.DipTells': WHATEVER THE INPUT: true; the input reads as it did. -/
def dipTellsSpec : ChangeSpec := { name := "dipTells", fn := fun _ => fun
  | [d1, d2, d3] => { results := [.lit (.bool true)], args := [d1, d2, d3] }
  | _ => none }
def dipTellsRow : OpenClaim := { program := "ythbeglfmgfaldaagreat", sum := "021a40d4f5e4f7dba164d9fd3544a271585d57b78a82677a725e0f9302d54def", func := "dipworks/dipworkslaw09.DipTells", spec := "dipTells", unfollowed := true, recurses := true, plainKeys := false, apart := false }
def DipTellsSaid : Prop := dipTellsRow.holds Tryz.pinned (OpenSpec.ofChange dipTellsSpec)

/-- ITS FALSE NEIGHBOUR: 'it returns false'. Refute it at one input. -/
def dipTellsWrong : ChangeSpec := { name := "dipTells", fn := fun _ => fun
  | [d1, d2, d3] => { results := [.lit (.bool false)], args := [d1, d2, d3] }
  | _ => none }
def DipTellsWrongFalsely : Prop := dipTellsRow.holds Tryz.pinned (OpenSpec.ofChange dipTellsWrong)

/-- 'dipworkslaw09.DipPlans': WHATEVER THE INPUT: true; the input reads as it did. -/
def dipPlansSpec : ChangeSpec := { name := "dipPlans", fn := fun _ => fun
  | [d] => { results := [.lit (.bool true)], args := [d] }
  | _ => none }
def dipPlansRow : OpenClaim := { program := "ythbeglfmgfaldaagreat", sum := "021a40d4f5e4f7dba164d9fd3544a271585d57b78a82677a725e0f9302d54def", func := "dipworks/dipworkslaw09.DipPlans", spec := "dipPlans", unfollowed := true, recurses := true, plainKeys := false, apart := false }
def DipPlansSaid : Prop := dipPlansRow.holds Tryz.pinned (OpenSpec.ofChange dipPlansSpec)

/-- ITS FALSE NEIGHBOUR: 'it returns false'. Refute it at one input. -/
def dipPlansWrong : ChangeSpec := { name := "dipPlans", fn := fun _ => fun
  | [d] => { results := [.lit (.bool false)], args := [d] }
  | _ => none }
def DipPlansWrongFalsely : Prop := dipPlansRow.holds Tryz.pinned (OpenSpec.ofChange dipPlansWrong)

/-- 'dipworkslaw09.DipSets': WHATEVER THE INPUT: true; the input reads as it did. -/
def dipSetsSpec : ChangeSpec := { name := "dipSets", fn := fun _ => fun
  | [d] => { results := [.lit (.bool true)], args := [d] }
  | _ => none }
def dipSetsRow : OpenClaim := { program := "ythbeglfmgfaldaagreat", sum := "021a40d4f5e4f7dba164d9fd3544a271585d57b78a82677a725e0f9302d54def", func := "dipworks/dipworkslaw09.DipSets", spec := "dipSets", unfollowed := true, recurses := true, plainKeys := false, apart := false }
def DipSetsSaid : Prop := dipSetsRow.holds Tryz.pinned (OpenSpec.ofChange dipSetsSpec)

/-- ITS FALSE NEIGHBOUR: 'it returns false'. Refute it at one input. -/
def dipSetsWrong : ChangeSpec := { name := "dipSets", fn := fun _ => fun
  | [d] => { results := [.lit (.bool false)], args := [d] }
  | _ => none }
def DipSetsWrongFalsely : Prop := dipSetsRow.holds Tryz.pinned (OpenSpec.ofChange dipSetsWrong)

/-- 'dipworkslaw09.DipNames': WHATEVER THE INPUT: true; the input reads as it did. -/
def dipNamesSpec : ChangeSpec := { name := "dipNames", fn := fun _ => fun
  | [] => { results := [.lit (.bool true)], args := [] }
  | _ => none }
def dipNamesRow : OpenClaim := { program := "ythbeglfmgfaldaagreat", sum := "021a40d4f5e4f7dba164d9fd3544a271585d57b78a82677a725e0f9302d54def", func := "dipworks/dipworkslaw09.DipNames", spec := "dipNames", unfollowed := true, recurses := true, plainKeys := false, apart := false }
def DipNamesSaid : Prop := dipNamesRow.holds Tryz.pinned (OpenSpec.ofChange dipNamesSpec)

/-- ITS FALSE NEIGHBOUR: 'it returns false'. Refute it at one input. -/
def dipNamesWrong : ChangeSpec := { name := "dipNames", fn := fun _ => fun
  | [] => { results := [.lit (.bool false)], args := [] }
  | _ => none }
def DipNamesWrongFalsely : Prop := dipNamesRow.holds Tryz.pinned (OpenSpec.ofChange dipNamesWrong)

/-- 'dipworkslaw09.DipTrue': WHATEVER THE INPUT: true; the input reads as it did. -/
def dipTrueSpec : ChangeSpec := { name := "dipTrue", fn := fun _ => fun
  | [d1, d2] => { results := [.lit (.bool true)], args := [d1, d2] }
  | _ => none }
def dipTrueRow : OpenClaim := { program := "ythbeglfmgfaldaagreat", sum := "021a40d4f5e4f7dba164d9fd3544a271585d57b78a82677a725e0f9302d54def", func := "dipworks/dipworkslaw09.DipTrue", spec := "dipTrue", unfollowed := true, recurses := true, plainKeys := false, apart := false }
def DipTrueSaid : Prop := dipTrueRow.holds Tryz.pinned (OpenSpec.ofChange dipTrueSpec)

/-- ITS FALSE NEIGHBOUR: 'it returns false'. Refute it at one input. -/
def dipTrueWrong : ChangeSpec := { name := "dipTrue", fn := fun _ => fun
  | [d1, d2] => { results := [.lit (.bool false)], args := [d1, d2] }
  | _ => none }
def DipTrueWrongFalsely : Prop := dipTrueRow.holds Tryz.pinned (OpenSpec.ofChange dipTrueWrong)

/-- 'dipworkslaw09.DipCheck': WHATEVER THE INPUT: true; the input reads as it did. -/
def dipCheckSpec : ChangeSpec := { name := "dipCheck", fn := fun _ => fun
  | [d1, d2] => { results := [.lit (.bool true)], args := [d1, d2] }
  | _ => none }
def dipCheckRow : OpenClaim := { program := "ythbeglfmgfaldaagreat", sum := "021a40d4f5e4f7dba164d9fd3544a271585d57b78a82677a725e0f9302d54def", func := "dipworks/dipworkslaw09.DipCheck", spec := "dipCheck", unfollowed := true, recurses := true, plainKeys := false, apart := false }
def DipCheckSaid : Prop := dipCheckRow.holds Tryz.pinned (OpenSpec.ofChange dipCheckSpec)

/-- ITS FALSE NEIGHBOUR: 'it returns false'. Refute it at one input. -/
def dipCheckWrong : ChangeSpec := { name := "dipCheck", fn := fun _ => fun
  | [d1, d2] => { results := [.lit (.bool false)], args := [d1, d2] }
  | _ => none }
def DipCheckWrongFalsely : Prop := dipCheckRow.holds Tryz.pinned (OpenSpec.ofChange dipCheckWrong)

/-- 'dipworkslaw09.DipFirst': WHATEVER THE INPUT: true; the input reads as it did. -/
def dipFirstSpec : ChangeSpec := { name := "dipFirst", fn := fun _ => fun
  | [d1, d2, d3] => { results := [.lit (.bool true)], args := [d1, d2, d3] }
  | _ => none }
def dipFirstRow : OpenClaim := { program := "ythbeglfmgfaldaagreat", sum := "021a40d4f5e4f7dba164d9fd3544a271585d57b78a82677a725e0f9302d54def", func := "dipworks/dipworkslaw09.DipFirst", spec := "dipFirst", unfollowed := true, recurses := true, plainKeys := false, apart := false }
def DipFirstSaid : Prop := dipFirstRow.holds Tryz.pinned (OpenSpec.ofChange dipFirstSpec)

/-- ITS FALSE NEIGHBOUR: 'it returns false'. Refute it at one input. -/
def dipFirstWrong : ChangeSpec := { name := "dipFirst", fn := fun _ => fun
  | [d1, d2, d3] => { results := [.lit (.bool false)], args := [d1, d2, d3] }
  | _ => none }
def DipFirstWrongFalsely : Prop := dipFirstRow.holds Tryz.pinned (OpenSpec.ofChange dipFirstWrong)

/-- 'dipworkslaw09.DipMost': WHATEVER THE INPUT: true; the input reads as it did. -/
def dipMostSpec : ChangeSpec := { name := "dipMost", fn := fun _ => fun
  | [d1, d2] => { results := [.lit (.bool true)], args := [d1, d2] }
  | _ => none }
def dipMostRow : OpenClaim := { program := "ythbeglfmgfaldaagreat", sum := "021a40d4f5e4f7dba164d9fd3544a271585d57b78a82677a725e0f9302d54def", func := "dipworks/dipworkslaw09.DipMost", spec := "dipMost", unfollowed := true, recurses := true, plainKeys := false, apart := false }
def DipMostSaid : Prop := dipMostRow.holds Tryz.pinned (OpenSpec.ofChange dipMostSpec)

/-- ITS FALSE NEIGHBOUR: 'it returns false'. Refute it at one input. -/
def dipMostWrong : ChangeSpec := { name := "dipMost", fn := fun _ => fun
  | [d1, d2] => { results := [.lit (.bool false)], args := [d1, d2] }
  | _ => none }
def DipMostWrongFalsely : Prop := dipMostRow.holds Tryz.pinned (OpenSpec.ofChange dipMostWrong)

/-- 'dipworkslaw09.DipMore': WHATEVER THE INPUT: true; the input reads as it did. -/
def dipMoreSpec : ChangeSpec := { name := "dipMore", fn := fun _ => fun
  | [d1, d2, d3, d4] => { results := [.lit (.bool true)], args := [d1, d2, d3, d4] }
  | _ => none }
def dipMoreRow : OpenClaim := { program := "ythbeglfmgfaldaagreat", sum := "021a40d4f5e4f7dba164d9fd3544a271585d57b78a82677a725e0f9302d54def", func := "dipworks/dipworkslaw09.DipMore", spec := "dipMore", unfollowed := true, recurses := true, plainKeys := false, apart := false }
def DipMoreSaid : Prop := dipMoreRow.holds Tryz.pinned (OpenSpec.ofChange dipMoreSpec)

/-- ITS FALSE NEIGHBOUR: 'it returns false'. Refute it at one input. -/
def dipMoreWrong : ChangeSpec := { name := "dipMore", fn := fun _ => fun
  | [d1, d2, d3, d4] => { results := [.lit (.bool false)], args := [d1, d2, d3, d4] }
  | _ => none }
def DipMoreWrongFalsely : Prop := dipMoreRow.holds Tryz.pinned (OpenSpec.ofChange dipMoreWrong)

/-- 'dipworkslaw09.DipTurned': WHATEVER THE INPUT: true; the input reads as it did. -/
def dipTurnedSpec : ChangeSpec := { name := "dipTurned", fn := fun _ => fun
  | [d1, d2] => { results := [.lit (.bool true)], args := [d1, d2] }
  | _ => none }
def dipTurnedRow : OpenClaim := { program := "ythbeglfmgfaldaagreat", sum := "021a40d4f5e4f7dba164d9fd3544a271585d57b78a82677a725e0f9302d54def", func := "dipworks/dipworkslaw09.DipTurned", spec := "dipTurned", unfollowed := true, recurses := true, plainKeys := false, apart := false }
def DipTurnedSaid : Prop := dipTurnedRow.holds Tryz.pinned (OpenSpec.ofChange dipTurnedSpec)

/-- ITS FALSE NEIGHBOUR: 'it returns false'. Refute it at one input. -/
def dipTurnedWrong : ChangeSpec := { name := "dipTurned", fn := fun _ => fun
  | [d1, d2] => { results := [.lit (.bool false)], args := [d1, d2] }
  | _ => none }
def DipTurnedWrongFalsely : Prop := dipTurnedRow.holds Tryz.pinned (OpenSpec.ofChange dipTurnedWrong)

/- THE SECOND FORM. 'bulk': how many values and letters a reading holds, each counted each time it is reached (what is shared counts as often as it is met; a slice's spare places count too). A statement '..UptoSaid' is the law's where the arguments, and the package variables that the reading takes, are together of bulk at most 1048576: NARROWER than '..Said'. Prove '..Said' where nothing that the law and all that it calls make is longer than what came in: it says more and counts as full. Else prove '..UptoSaid'. A law counts once. -/
mutual
def uptoBulk {H : Type} : DataW H → Nat
  | .lit (.string bytes) => bytes.length + 1
  | .lit _ => 1
  | .nil => 1
  | .ptr d => uptoBulk d + 1
  | .slice elems spare => uptoBulkAll elems + uptoBulkAll spare + 1
  | .agg parts => uptoBulkAll parts + 1
  | .iface _ d => uptoBulk d + 1
  | .map entries => uptoBulkEntries entries + 1
  | .held _ => 1
def uptoBulkAll {H : Type} : List (DataW H) → Nat
  | [] => 0
  | d :: r => uptoBulk d + uptoBulkAll r
def uptoBulkEntries {H : Type} : List (Lit × DataW H) → Nat
  | [] => 0
  | x :: r => uptoBulkEntry x + uptoBulkEntries r
def uptoBulkEntry {H : Type} : Lit × DataW H → Nat
  | (.string bytes, d) => bytes.length + uptoBulk d + 1
  | (_, d) => uptoBulk d + 1
 end
def uptoSmall : (H : Type) → List (DataW H) → Bool := fun _ ds => decide (uptoBulkAll ds ≤ 1048576)
def OpenSpec.upto (s : _root_.Go.ChangeSpec) : _root_.Go.OpenSpec := { _root_.Go.OpenSpec.ofChange s with cond := some uptoSmall }

/-- 'dipworkslaw09.DipTells', WHERE WHAT IT READS IS OF BULK AT MOST 1048576: true; the input reads as it did. -/
def dipTellsUptoRow : OpenClaim := { program := "ythbeglfmgfaldaagreat", sum := "021a40d4f5e4f7dba164d9fd3544a271585d57b78a82677a725e0f9302d54def", func := "dipworks/dipworkslaw09.DipTells", spec := "dipTells", unfollowed := true, recurses := true, plainKeys := false, apart := false, narrowed := true }
def DipTellsUptoSaid : Prop := dipTellsUptoRow.holds Tryz.pinned (OpenSpec.upto dipTellsSpec)

/-- 'dipworkslaw09.DipPlans', WHERE WHAT IT READS IS OF BULK AT MOST 1048576: true; the input reads as it did. -/
def dipPlansUptoRow : OpenClaim := { program := "ythbeglfmgfaldaagreat", sum := "021a40d4f5e4f7dba164d9fd3544a271585d57b78a82677a725e0f9302d54def", func := "dipworks/dipworkslaw09.DipPlans", spec := "dipPlans", unfollowed := true, recurses := true, plainKeys := false, apart := false, narrowed := true }
def DipPlansUptoSaid : Prop := dipPlansUptoRow.holds Tryz.pinned (OpenSpec.upto dipPlansSpec)

/-- 'dipworkslaw09.DipSets', WHERE WHAT IT READS IS OF BULK AT MOST 1048576: true; the input reads as it did. -/
def dipSetsUptoRow : OpenClaim := { program := "ythbeglfmgfaldaagreat", sum := "021a40d4f5e4f7dba164d9fd3544a271585d57b78a82677a725e0f9302d54def", func := "dipworks/dipworkslaw09.DipSets", spec := "dipSets", unfollowed := true, recurses := true, plainKeys := false, apart := false, narrowed := true }
def DipSetsUptoSaid : Prop := dipSetsUptoRow.holds Tryz.pinned (OpenSpec.upto dipSetsSpec)

/-- 'dipworkslaw09.DipNames', WHERE WHAT IT READS IS OF BULK AT MOST 1048576: true; the input reads as it did. -/
def dipNamesUptoRow : OpenClaim := { program := "ythbeglfmgfaldaagreat", sum := "021a40d4f5e4f7dba164d9fd3544a271585d57b78a82677a725e0f9302d54def", func := "dipworks/dipworkslaw09.DipNames", spec := "dipNames", unfollowed := true, recurses := true, plainKeys := false, apart := false, narrowed := true }
def DipNamesUptoSaid : Prop := dipNamesUptoRow.holds Tryz.pinned (OpenSpec.upto dipNamesSpec)

/-- 'dipworkslaw09.DipTrue', WHERE WHAT IT READS IS OF BULK AT MOST 1048576: true; the input reads as it did. -/
def dipTrueUptoRow : OpenClaim := { program := "ythbeglfmgfaldaagreat", sum := "021a40d4f5e4f7dba164d9fd3544a271585d57b78a82677a725e0f9302d54def", func := "dipworks/dipworkslaw09.DipTrue", spec := "dipTrue", unfollowed := true, recurses := true, plainKeys := false, apart := false, narrowed := true }
def DipTrueUptoSaid : Prop := dipTrueUptoRow.holds Tryz.pinned (OpenSpec.upto dipTrueSpec)

/-- 'dipworkslaw09.DipCheck', WHERE WHAT IT READS IS OF BULK AT MOST 1048576: true; the input reads as it did. -/
def dipCheckUptoRow : OpenClaim := { program := "ythbeglfmgfaldaagreat", sum := "021a40d4f5e4f7dba164d9fd3544a271585d57b78a82677a725e0f9302d54def", func := "dipworks/dipworkslaw09.DipCheck", spec := "dipCheck", unfollowed := true, recurses := true, plainKeys := false, apart := false, narrowed := true }
def DipCheckUptoSaid : Prop := dipCheckUptoRow.holds Tryz.pinned (OpenSpec.upto dipCheckSpec)

/-- 'dipworkslaw09.DipFirst', WHERE WHAT IT READS IS OF BULK AT MOST 1048576: true; the input reads as it did. -/
def dipFirstUptoRow : OpenClaim := { program := "ythbeglfmgfaldaagreat", sum := "021a40d4f5e4f7dba164d9fd3544a271585d57b78a82677a725e0f9302d54def", func := "dipworks/dipworkslaw09.DipFirst", spec := "dipFirst", unfollowed := true, recurses := true, plainKeys := false, apart := false, narrowed := true }
def DipFirstUptoSaid : Prop := dipFirstUptoRow.holds Tryz.pinned (OpenSpec.upto dipFirstSpec)

/-- 'dipworkslaw09.DipMost', WHERE WHAT IT READS IS OF BULK AT MOST 1048576: true; the input reads as it did. -/
def dipMostUptoRow : OpenClaim := { program := "ythbeglfmgfaldaagreat", sum := "021a40d4f5e4f7dba164d9fd3544a271585d57b78a82677a725e0f9302d54def", func := "dipworks/dipworkslaw09.DipMost", spec := "dipMost", unfollowed := true, recurses := true, plainKeys := false, apart := false, narrowed := true }
def DipMostUptoSaid : Prop := dipMostUptoRow.holds Tryz.pinned (OpenSpec.upto dipMostSpec)

/-- 'dipworkslaw09.DipMore', WHERE WHAT IT READS IS OF BULK AT MOST 1048576: true; the input reads as it did. -/
def dipMoreUptoRow : OpenClaim := { program := "ythbeglfmgfaldaagreat", sum := "021a40d4f5e4f7dba164d9fd3544a271585d57b78a82677a725e0f9302d54def", func := "dipworks/dipworkslaw09.DipMore", spec := "dipMore", unfollowed := true, recurses := true, plainKeys := false, apart := false, narrowed := true }
def DipMoreUptoSaid : Prop := dipMoreUptoRow.holds Tryz.pinned (OpenSpec.upto dipMoreSpec)

/-- 'dipworkslaw09.DipTurned', WHERE WHAT IT READS IS OF BULK AT MOST 1048576: true; the input reads as it did. -/
def dipTurnedUptoRow : OpenClaim := { program := "ythbeglfmgfaldaagreat", sum := "021a40d4f5e4f7dba164d9fd3544a271585d57b78a82677a725e0f9302d54def", func := "dipworks/dipworkslaw09.DipTurned", spec := "dipTurned", unfollowed := true, recurses := true, plainKeys := false, apart := false, narrowed := true }
def DipTurnedUptoSaid : Prop := dipTurnedUptoRow.holds Tryz.pinned (OpenSpec.upto dipTurnedSpec)

end Rows
end Go.Proofs.YthbeglfmgfaldaaGreat
