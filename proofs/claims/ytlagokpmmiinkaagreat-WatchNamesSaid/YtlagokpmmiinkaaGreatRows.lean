/-
  No cell of these rows narrows 'for every input' (looked for: loops, veiled, ifaces, maps, wideKeys, modest, calm, conditions, laid).
  DERIVED. THE GIVEN ROWS OF THIS SEAT. 10 by the template 'for every input the law returns true; each argument reads behind the call as it read before'; 0 by the template 'total and deterministic' (their statements: YtlagokpmmiinkaaGreatTotals.lean).
  GIVEN WITH THE SEED: the statements are not yours to turn. If you find one false, say at which input.
  Laid BY PROGRAM, IN A SANDBOX (cutbox-rows.mjs): the forced cells as the released guide's own fill.sh prints them over the translation 7fc415a8f18a1cab… (all of the seat's roots in one cut). By AI agents, Wed Nov 11 2026. No macro, syntax, notation, axiom, sorry.
-/
import Derived.Test.YtlagokpmmiinkaaGreatChecked
import GoSem.Claim
import GoSem.ClaimJoined
import GoSem.ClaimMapViews
import Derived.JoinedTies
import Derived.KernelRfl
namespace Go.Proofs.YtlagokpmmiinkaaGreat
/- THE CELL 'sum', in the pinned program and in every row, IS THE sha256 OF THE DUMP (.gsa) THAT YtlagokpmmiinkaaGreatProg.lean LOADS. Nothing in Lean hashes anything: it is a label: what it is worth is what the hold of that sum in a sandbox is worth. -/
noncomputable def Tryz.pinned : Pinned := { name := "ytlagokpmmiinkaagreat", sum := "7fc415a8f18a1cab5b52ea6d141cdf9e63b4d58f7b81b035d5037172b4efd891", checked := Tryz.checked }
namespace Rows
def none {H : Type} : Left H := { results := [], args := [] }

/-- 'dipworkslaw07.WatchTells': WHATEVER THE INPUT: true; the input reads as it did. -/
def watchTellsSpec : ChangeSpec := { name := "watchTells", fn := fun _ => fun
  | [d1, d2, d3, d4] => { results := [.lit (.bool true)], args := [d1, d2, d3, d4] }
  | _ => none }
def watchTellsRow : OpenClaim := { program := "ytlagokpmmiinkaagreat", sum := "7fc415a8f18a1cab5b52ea6d141cdf9e63b4d58f7b81b035d5037172b4efd891", func := "dipworks/dipworkslaw07.WatchTells", spec := "watchTells", unfollowed := true, recurses := true, plainKeys := false, apart := false }
def WatchTellsSaid : Prop := watchTellsRow.holds Tryz.pinned (OpenSpec.ofChange watchTellsSpec)

/-- ITS FALSE NEIGHBOUR: 'it returns false'. Refute it at one input. -/
def watchTellsWrong : ChangeSpec := { name := "watchTells", fn := fun _ => fun
  | [d1, d2, d3, d4] => { results := [.lit (.bool false)], args := [d1, d2, d3, d4] }
  | _ => none }
def WatchTellsWrongFalsely : Prop := watchTellsRow.holds Tryz.pinned (OpenSpec.ofChange watchTellsWrong)

/-- 'dipworkslaw07.WatchWays': WHATEVER THE INPUT: true; the input reads as it did. -/
def watchWaysSpec : ChangeSpec := { name := "watchWays", fn := fun _ => fun
  | [d1, d2, d3] => { results := [.lit (.bool true)], args := [d1, d2, d3] }
  | _ => none }
def watchWaysRow : OpenClaim := { program := "ytlagokpmmiinkaagreat", sum := "7fc415a8f18a1cab5b52ea6d141cdf9e63b4d58f7b81b035d5037172b4efd891", func := "dipworks/dipworkslaw07.WatchWays", spec := "watchWays", unfollowed := true, recurses := true, plainKeys := false, apart := false }
def WatchWaysSaid : Prop := watchWaysRow.holds Tryz.pinned (OpenSpec.ofChange watchWaysSpec)

/-- ITS FALSE NEIGHBOUR: 'it returns false'. Refute it at one input. -/
def watchWaysWrong : ChangeSpec := { name := "watchWays", fn := fun _ => fun
  | [d1, d2, d3] => { results := [.lit (.bool false)], args := [d1, d2, d3] }
  | _ => none }
def WatchWaysWrongFalsely : Prop := watchWaysRow.holds Tryz.pinned (OpenSpec.ofChange watchWaysWrong)

/-- 'dipworkslaw07.WatchNames': WHATEVER THE INPUT: true; the input reads as it did. -/
def watchNamesSpec : ChangeSpec := { name := "watchNames", fn := fun _ => fun
  | [] => { results := [.lit (.bool true)], args := [] }
  | _ => none }
def watchNamesRow : OpenClaim := { program := "ytlagokpmmiinkaagreat", sum := "7fc415a8f18a1cab5b52ea6d141cdf9e63b4d58f7b81b035d5037172b4efd891", func := "dipworks/dipworkslaw07.WatchNames", spec := "watchNames", unfollowed := true, recurses := true, plainKeys := false, apart := false }
def WatchNamesSaid : Prop := watchNamesRow.holds Tryz.pinned (OpenSpec.ofChange watchNamesSpec)

/-- ITS FALSE NEIGHBOUR: 'it returns false'. Refute it at one input. -/
def watchNamesWrong : ChangeSpec := { name := "watchNames", fn := fun _ => fun
  | [] => { results := [.lit (.bool false)], args := [] }
  | _ => none }
def WatchNamesWrongFalsely : Prop := watchNamesRow.holds Tryz.pinned (OpenSpec.ofChange watchNamesWrong)

/-- 'dipworkslaw07.WatchTrue': WHATEVER THE INPUT: true; the input reads as it did. -/
def watchTrueSpec : ChangeSpec := { name := "watchTrue", fn := fun _ => fun
  | [d] => { results := [.lit (.bool true)], args := [d] }
  | _ => none }
def watchTrueRow : OpenClaim := { program := "ytlagokpmmiinkaagreat", sum := "7fc415a8f18a1cab5b52ea6d141cdf9e63b4d58f7b81b035d5037172b4efd891", func := "dipworks/dipworkslaw07.WatchTrue", spec := "watchTrue", unfollowed := true, recurses := true, plainKeys := false, apart := false }
def WatchTrueSaid : Prop := watchTrueRow.holds Tryz.pinned (OpenSpec.ofChange watchTrueSpec)

/-- ITS FALSE NEIGHBOUR: 'it returns false'. Refute it at one input. -/
def watchTrueWrong : ChangeSpec := { name := "watchTrue", fn := fun _ => fun
  | [d] => { results := [.lit (.bool false)], args := [d] }
  | _ => none }
def WatchTrueWrongFalsely : Prop := watchTrueRow.holds Tryz.pinned (OpenSpec.ofChange watchTrueWrong)

/-- 'dipworkslaw07.WatchShows': WHATEVER THE INPUT: true; the input reads as it did. -/
def watchShowsSpec : ChangeSpec := { name := "watchShows", fn := fun _ => fun
  | [d1, d2, d3] => { results := [.lit (.bool true)], args := [d1, d2, d3] }
  | _ => none }
def watchShowsRow : OpenClaim := { program := "ytlagokpmmiinkaagreat", sum := "7fc415a8f18a1cab5b52ea6d141cdf9e63b4d58f7b81b035d5037172b4efd891", func := "dipworks/dipworkslaw07.WatchShows", spec := "watchShows", unfollowed := true, recurses := true, plainKeys := false, apart := false }
def WatchShowsSaid : Prop := watchShowsRow.holds Tryz.pinned (OpenSpec.ofChange watchShowsSpec)

/-- ITS FALSE NEIGHBOUR: 'it returns false'. Refute it at one input. -/
def watchShowsWrong : ChangeSpec := { name := "watchShows", fn := fun _ => fun
  | [d1, d2, d3] => { results := [.lit (.bool false)], args := [d1, d2, d3] }
  | _ => none }
def WatchShowsWrongFalsely : Prop := watchShowsRow.holds Tryz.pinned (OpenSpec.ofChange watchShowsWrong)

/-- 'dipworkslaw07.WatchStopped': WHATEVER THE INPUT: true; the input reads as it did. -/
def watchStoppedSpec : ChangeSpec := { name := "watchStopped", fn := fun _ => fun
  | [d1, d2, d3] => { results := [.lit (.bool true)], args := [d1, d2, d3] }
  | _ => none }
def watchStoppedRow : OpenClaim := { program := "ytlagokpmmiinkaagreat", sum := "7fc415a8f18a1cab5b52ea6d141cdf9e63b4d58f7b81b035d5037172b4efd891", func := "dipworks/dipworkslaw07.WatchStopped", spec := "watchStopped", unfollowed := true, recurses := true, plainKeys := false, apart := false }
def WatchStoppedSaid : Prop := watchStoppedRow.holds Tryz.pinned (OpenSpec.ofChange watchStoppedSpec)

/-- ITS FALSE NEIGHBOUR: 'it returns false'. Refute it at one input. -/
def watchStoppedWrong : ChangeSpec := { name := "watchStopped", fn := fun _ => fun
  | [d1, d2, d3] => { results := [.lit (.bool false)], args := [d1, d2, d3] }
  | _ => none }
def WatchStoppedWrongFalsely : Prop := watchStoppedRow.holds Tryz.pinned (OpenSpec.ofChange watchStoppedWrong)

/-- 'dipworkslaw07.WatchCan': WHATEVER THE INPUT: true; the input reads as it did. -/
def watchCanSpec : ChangeSpec := { name := "watchCan", fn := fun _ => fun
  | [d1, d2] => { results := [.lit (.bool true)], args := [d1, d2] }
  | _ => none }
def watchCanRow : OpenClaim := { program := "ytlagokpmmiinkaagreat", sum := "7fc415a8f18a1cab5b52ea6d141cdf9e63b4d58f7b81b035d5037172b4efd891", func := "dipworks/dipworkslaw07.WatchCan", spec := "watchCan", unfollowed := true, recurses := true, plainKeys := false, apart := false }
def WatchCanSaid : Prop := watchCanRow.holds Tryz.pinned (OpenSpec.ofChange watchCanSpec)

/-- ITS FALSE NEIGHBOUR: 'it returns false'. Refute it at one input. -/
def watchCanWrong : ChangeSpec := { name := "watchCan", fn := fun _ => fun
  | [d1, d2] => { results := [.lit (.bool false)], args := [d1, d2] }
  | _ => none }
def WatchCanWrongFalsely : Prop := watchCanRow.holds Tryz.pinned (OpenSpec.ofChange watchCanWrong)

/-- 'dipworkslaw07.WatchClash': WHATEVER THE INPUT: true; the input reads as it did. -/
def watchClashSpec : ChangeSpec := { name := "watchClash", fn := fun _ => fun
  | [d1, d2] => { results := [.lit (.bool true)], args := [d1, d2] }
  | _ => none }
def watchClashRow : OpenClaim := { program := "ytlagokpmmiinkaagreat", sum := "7fc415a8f18a1cab5b52ea6d141cdf9e63b4d58f7b81b035d5037172b4efd891", func := "dipworks/dipworkslaw07.WatchClash", spec := "watchClash", unfollowed := true, recurses := true, plainKeys := false, apart := false }
def WatchClashSaid : Prop := watchClashRow.holds Tryz.pinned (OpenSpec.ofChange watchClashSpec)

/-- ITS FALSE NEIGHBOUR: 'it returns false'. Refute it at one input. -/
def watchClashWrong : ChangeSpec := { name := "watchClash", fn := fun _ => fun
  | [d1, d2] => { results := [.lit (.bool false)], args := [d1, d2] }
  | _ => none }
def WatchClashWrongFalsely : Prop := watchClashRow.holds Tryz.pinned (OpenSpec.ofChange watchClashWrong)

/-- 'dipworkslaw07.WatchMore': WHATEVER THE INPUT: true; the input reads as it did. -/
def watchMoreSpec : ChangeSpec := { name := "watchMore", fn := fun _ => fun
  | [d1, d2, d3, d4] => { results := [.lit (.bool true)], args := [d1, d2, d3, d4] }
  | _ => none }
def watchMoreRow : OpenClaim := { program := "ytlagokpmmiinkaagreat", sum := "7fc415a8f18a1cab5b52ea6d141cdf9e63b4d58f7b81b035d5037172b4efd891", func := "dipworks/dipworkslaw07.WatchMore", spec := "watchMore", unfollowed := true, recurses := true, plainKeys := false, apart := false }
def WatchMoreSaid : Prop := watchMoreRow.holds Tryz.pinned (OpenSpec.ofChange watchMoreSpec)

/-- ITS FALSE NEIGHBOUR: 'it returns false'. Refute it at one input. -/
def watchMoreWrong : ChangeSpec := { name := "watchMore", fn := fun _ => fun
  | [d1, d2, d3, d4] => { results := [.lit (.bool false)], args := [d1, d2, d3, d4] }
  | _ => none }
def WatchMoreWrongFalsely : Prop := watchMoreRow.holds Tryz.pinned (OpenSpec.ofChange watchMoreWrong)

/-- 'dipworkslaw07.WatchTurned': WHATEVER THE INPUT: true; the input reads as it did. -/
def watchTurnedSpec : ChangeSpec := { name := "watchTurned", fn := fun _ => fun
  | [d] => { results := [.lit (.bool true)], args := [d] }
  | _ => none }
def watchTurnedRow : OpenClaim := { program := "ytlagokpmmiinkaagreat", sum := "7fc415a8f18a1cab5b52ea6d141cdf9e63b4d58f7b81b035d5037172b4efd891", func := "dipworks/dipworkslaw07.WatchTurned", spec := "watchTurned", unfollowed := true, recurses := true, plainKeys := false, apart := false }
def WatchTurnedSaid : Prop := watchTurnedRow.holds Tryz.pinned (OpenSpec.ofChange watchTurnedSpec)

/-- ITS FALSE NEIGHBOUR: 'it returns false'. Refute it at one input. -/
def watchTurnedWrong : ChangeSpec := { name := "watchTurned", fn := fun _ => fun
  | [d] => { results := [.lit (.bool false)], args := [d] }
  | _ => none }
def WatchTurnedWrongFalsely : Prop := watchTurnedRow.holds Tryz.pinned (OpenSpec.ofChange watchTurnedWrong)

/- THE SECOND FORM. 'bulk': how many values and letters a reading holds, each counted each time it is reached (what is shared counts as often as it is met; a slice's spare places count too). A statement '..UptoSaid' is the law's where the arguments, and the package variables that the reading takes, are together of bulk at most 1048576: NARROWER than '..Said'. Prove '..Said' where nothing that the law and all that it calls make is longer than what came in: it says more and counts as full. Else prove '..UptoSaid'. A law counts once. -/
mutual
def uptoBulk {H : Type} : DataW H → Nat
  | .lit (.string bytes) => bytes.length + 1
  | .lit _ => 1
  | .nil => 1
  | .ptr d => uptoBulk d + 1
  | .slice elems spare => uptoBulkAll elems + uptoBulkAll spare + 1
  | .agg parts => uptoBulkAll parts + 1
  | .iface _ d => uptoBulk d + 1
  | .map entries => uptoBulkEntries entries + 1
  | .held _ => 1
def uptoBulkAll {H : Type} : List (DataW H) → Nat
  | [] => 0
  | d :: r => uptoBulk d + uptoBulkAll r
def uptoBulkEntries {H : Type} : List (Lit × DataW H) → Nat
  | [] => 0
  | x :: r => uptoBulkEntry x + uptoBulkEntries r
def uptoBulkEntry {H : Type} : Lit × DataW H → Nat
  | (.string bytes, d) => bytes.length + uptoBulk d + 1
  | (_, d) => uptoBulk d + 1
 end
def uptoSmall : (H : Type) → List (DataW H) → Bool := fun _ ds => decide (uptoBulkAll ds ≤ 1048576)
def OpenSpec.upto (s : _root_.Go.ChangeSpec) : _root_.Go.OpenSpec := { _root_.Go.OpenSpec.ofChange s with cond := some uptoSmall }

/-- 'dipworkslaw07.WatchTells', WHERE WHAT IT READS IS OF BULK AT MOST 1048576: true; the input reads as it did. -/
def watchTellsUptoRow : OpenClaim := { program := "ytlagokpmmiinkaagreat", sum := "7fc415a8f18a1cab5b52ea6d141cdf9e63b4d58f7b81b035d5037172b4efd891", func := "dipworks/dipworkslaw07.WatchTells", spec := "watchTells", unfollowed := true, recurses := true, plainKeys := false, apart := false, narrowed := true }
def WatchTellsUptoSaid : Prop := watchTellsUptoRow.holds Tryz.pinned (OpenSpec.upto watchTellsSpec)

/-- 'dipworkslaw07.WatchWays', WHERE WHAT IT READS IS OF BULK AT MOST 1048576: true; the input reads as it did. -/
def watchWaysUptoRow : OpenClaim := { program := "ytlagokpmmiinkaagreat", sum := "7fc415a8f18a1cab5b52ea6d141cdf9e63b4d58f7b81b035d5037172b4efd891", func := "dipworks/dipworkslaw07.WatchWays", spec := "watchWays", unfollowed := true, recurses := true, plainKeys := false, apart := false, narrowed := true }
def WatchWaysUptoSaid : Prop := watchWaysUptoRow.holds Tryz.pinned (OpenSpec.upto watchWaysSpec)

/-- 'dipworkslaw07.WatchNames', WHERE WHAT IT READS IS OF BULK AT MOST 1048576: true; the input reads as it did. -/
def watchNamesUptoRow : OpenClaim := { program := "ytlagokpmmiinkaagreat", sum := "7fc415a8f18a1cab5b52ea6d141cdf9e63b4d58f7b81b035d5037172b4efd891", func := "dipworks/dipworkslaw07.WatchNames", spec := "watchNames", unfollowed := true, recurses := true, plainKeys := false, apart := false, narrowed := true }
def WatchNamesUptoSaid : Prop := watchNamesUptoRow.holds Tryz.pinned (OpenSpec.upto watchNamesSpec)

/-- 'dipworkslaw07.WatchTrue', WHERE WHAT IT READS IS OF BULK AT MOST 1048576: true; the input reads as it did. -/
def watchTrueUptoRow : OpenClaim := { program := "ytlagokpmmiinkaagreat", sum := "7fc415a8f18a1cab5b52ea6d141cdf9e63b4d58f7b81b035d5037172b4efd891", func := "dipworks/dipworkslaw07.WatchTrue", spec := "watchTrue", unfollowed := true, recurses := true, plainKeys := false, apart := false, narrowed := true }
def WatchTrueUptoSaid : Prop := watchTrueUptoRow.holds Tryz.pinned (OpenSpec.upto watchTrueSpec)

/-- 'dipworkslaw07.WatchShows', WHERE WHAT IT READS IS OF BULK AT MOST 1048576: true; the input reads as it did. -/
def watchShowsUptoRow : OpenClaim := { program := "ytlagokpmmiinkaagreat", sum := "7fc415a8f18a1cab5b52ea6d141cdf9e63b4d58f7b81b035d5037172b4efd891", func := "dipworks/dipworkslaw07.WatchShows", spec := "watchShows", unfollowed := true, recurses := true, plainKeys := false, apart := false, narrowed := true }
def WatchShowsUptoSaid : Prop := watchShowsUptoRow.holds Tryz.pinned (OpenSpec.upto watchShowsSpec)

/-- 'dipworkslaw07.WatchStopped', WHERE WHAT IT READS IS OF BULK AT MOST 1048576: true; the input reads as it did. -/
def watchStoppedUptoRow : OpenClaim := { program := "ytlagokpmmiinkaagreat", sum := "7fc415a8f18a1cab5b52ea6d141cdf9e63b4d58f7b81b035d5037172b4efd891", func := "dipworks/dipworkslaw07.WatchStopped", spec := "watchStopped", unfollowed := true, recurses := true, plainKeys := false, apart := false, narrowed := true }
def WatchStoppedUptoSaid : Prop := watchStoppedUptoRow.holds Tryz.pinned (OpenSpec.upto watchStoppedSpec)

/-- 'dipworkslaw07.WatchCan', WHERE WHAT IT READS IS OF BULK AT MOST 1048576: true; the input reads as it did. -/
def watchCanUptoRow : OpenClaim := { program := "ytlagokpmmiinkaagreat", sum := "7fc415a8f18a1cab5b52ea6d141cdf9e63b4d58f7b81b035d5037172b4efd891", func := "dipworks/dipworkslaw07.WatchCan", spec := "watchCan", unfollowed := true, recurses := true, plainKeys := false, apart := false, narrowed := true }
def WatchCanUptoSaid : Prop := watchCanUptoRow.holds Tryz.pinned (OpenSpec.upto watchCanSpec)

/-- 'dipworkslaw07.WatchClash', WHERE WHAT IT READS IS OF BULK AT MOST 1048576: true; the input reads as it did. -/
def watchClashUptoRow : OpenClaim := { program := "ytlagokpmmiinkaagreat", sum := "7fc415a8f18a1cab5b52ea6d141cdf9e63b4d58f7b81b035d5037172b4efd891", func := "dipworks/dipworkslaw07.WatchClash", spec := "watchClash", unfollowed := true, recurses := true, plainKeys := false, apart := false, narrowed := true }
def WatchClashUptoSaid : Prop := watchClashUptoRow.holds Tryz.pinned (OpenSpec.upto watchClashSpec)

/-- 'dipworkslaw07.WatchMore', WHERE WHAT IT READS IS OF BULK AT MOST 1048576: true; the input reads as it did. -/
def watchMoreUptoRow : OpenClaim := { program := "ytlagokpmmiinkaagreat", sum := "7fc415a8f18a1cab5b52ea6d141cdf9e63b4d58f7b81b035d5037172b4efd891", func := "dipworks/dipworkslaw07.WatchMore", spec := "watchMore", unfollowed := true, recurses := true, plainKeys := false, apart := false, narrowed := true }
def WatchMoreUptoSaid : Prop := watchMoreUptoRow.holds Tryz.pinned (OpenSpec.upto watchMoreSpec)

/-- 'dipworkslaw07.WatchTurned', WHERE WHAT IT READS IS OF BULK AT MOST 1048576: true; the input reads as it did. -/
def watchTurnedUptoRow : OpenClaim := { program := "ytlagokpmmiinkaagreat", sum := "7fc415a8f18a1cab5b52ea6d141cdf9e63b4d58f7b81b035d5037172b4efd891", func := "dipworks/dipworkslaw07.WatchTurned", spec := "watchTurned", unfollowed := true, recurses := true, plainKeys := false, apart := false, narrowed := true }
def WatchTurnedUptoSaid : Prop := watchTurnedUptoRow.holds Tryz.pinned (OpenSpec.upto watchTurnedSpec)

end Rows
end Go.Proofs.YtlagokpmmiinkaaGreat
