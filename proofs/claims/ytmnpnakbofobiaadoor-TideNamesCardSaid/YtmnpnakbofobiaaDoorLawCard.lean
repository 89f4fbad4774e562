/-
  The law 'dipworkslaw01.TideNames' (errors and limits of package tide have the document's values, and the chapter's examples hold) returns true whenever it is called.
  Conditions: the card's own: the package-level variables dipworks/tide.twelfths and dipworks/tide.more hold what the program's text lays (the given tie; it is tied to the PRUNED copy of the repository that lies with the seat).
-/
import Derived.Test.YtmnpnakbofobiaaDoorLawE
import Derived.Test.YtmnpnakbofobiaaDoorAbFin
import Derived.Test.YtmnpnakbofobiaaDoorCards
import Derived.Test.YtmnpnakbofobiaaDoorTie
import Derived.WalkKit
import Derived.ProofKit
import Derived.OpenShut
import Derived.Deep.DeepHandedRow
import Derived.Lib.LaidTab
namespace Go.Proofs.YtmnpnakbofobiaaDoor.tideNames
open Go.ChangeShapes Go.WideShapes Go.ChangeAt Go.RowKit

theorem own : ownKnob Tryd.prog.godebug = none := by kernel_rfl
theorem g0 : Tryd.prog.globalNamed "dipworks/tide.twelfths" = some 0 := by kernel_rfl
theorem g1 : Tryd.prog.globalNamed "dipworks/tide.more" = some 1 := by kernel_rfl
theorem g0t : (Tryd.prog.globals[0]?).map (·.type) = some 154 := by kernel_rfl
theorem g1t : (Tryd.prog.globals[1]?).map (·.type) = some 154 := by kernel_rfl
theorem nglob : Tryd.prog.globals.size = 2 := by kernel_rfl
theorem cells154 : Tryd.prog.cellsOf 154 = 7 := by kernel_rfl
theorem cells3 : Tryd.prog.cellsOf 3 = 1 := by kernel_rfl

theorem table0 {W : World} (h : laidMetH Tryd.prog Rows.tideNamesRow.laid W) : Lib.TabIs Tryd.prog W "dipworks/tide.twelfths" .i64 [0, 1, 3, 6, 9, 11, 12] :=
  Lib.tabIs_of_head (rest := [("dipworks/tide.more", Rows.laid_dipworks_tide_more)]) g0 g0t Tryd.underlying154 Tryd.underlying3 cells3 cells154 h
theorem table1 {W : World} (h : laidMetH Tryd.prog Rows.tideNamesRow.laid W) : Lib.TabIs Tryd.prog W "dipworks/tide.more" .i64 [1, 2, 3, 3, 2, 1, 0] :=
  Lib.tabIs_of_head (rest := []) g1 g1t Tryd.underlying154 Tryd.underlying3 cells3 cells154 (Ab.laidMet_tail (x := ("dipworks/tide.twelfths", Rows.laid_dipworks_tide_twelfths)) h)

theorem cells_of_cell {W : World} {i : Nat} {v : Value} (h : W.cell? ⟨i, 0, none⟩ = some v) : ∃ c t fr, W.heap[i]? = some (.cells c t fr) := by
  unfold World.cell? at h
  split at h
  · rename_i c t fr hc; exact ⟨c, t, fr, hc⟩
  · cases h

theorem holds {W : World} (h : laidMetH Tryd.prog Rows.tideNamesRow.laid W) : Ab.Holds Ab.lawEnt W := by
  intro i cs t hi j v hj
  have e0 := fun j hj => (table0 h).cell g0 j hj
  have e1 := fun j hj => (table1 h).cell g1 j hj
  match i, hi with
  | 0, hi =>
    obtain ⟨rfl, rfl⟩ : Ab.Is [0, 1, 3, 6, 9, 11, 12] = cs ∧ 154 = t := by simpa [Ab.lawEnt] using hi
    match j, hj with
    | 0, hj => cases hj; exact ⟨rfl, e0 0 (by decide)⟩
    | 1, hj => cases hj; exact ⟨rfl, e0 1 (by decide)⟩
    | 2, hj => cases hj; exact ⟨rfl, e0 2 (by decide)⟩
    | 3, hj => cases hj; exact ⟨rfl, e0 3 (by decide)⟩
    | 4, hj => cases hj; exact ⟨rfl, e0 4 (by decide)⟩
    | 5, hj => cases hj; exact ⟨rfl, e0 5 (by decide)⟩
    | 6, hj => cases hj; exact ⟨rfl, e0 6 (by decide)⟩
    | n + 7, hj => cases hj
  | 1, hi =>
    obtain ⟨rfl, rfl⟩ : Ab.Is [1, 2, 3, 3, 2, 1, 0] = cs ∧ 154 = t := by simpa [Ab.lawEnt] using hi
    match j, hj with
    | 0, hj => cases hj; exact ⟨rfl, e1 0 (by decide)⟩
    | 1, hj => cases hj; exact ⟨rfl, e1 1 (by decide)⟩
    | 2, hj => cases hj; exact ⟨rfl, e1 2 (by decide)⟩
    | 3, hj => cases hj; exact ⟨rfl, e1 3 (by decide)⟩
    | 4, hj => cases hj; exact ⟨rfl, e1 4 (by decide)⟩
    | 5, hj => cases hj; exact ⟨rfl, e1 5 (by decide)⟩
    | 6, hj => cases hj; exact ⟨rfl, e1 6 (by decide)⟩
    | n + 7, hj => cases hj
  | n + 2, hi => cases hi

theorem walk {W : World} (h : laidMetH Tryd.prog Rows.tideNamesRow.laid W) : Calls Tryd.prog 3 #[] W fun e W' => e = .returned (.bool true) ∧ Below W.heap.size W W' := by
  refine Ab.calls_of_ent Ab.law_known (by rw [nglob]; rfl) (fun i hi => ?_) (holds h) (fun v hv => by cases hv) rfl
  rw [nglob] at hi
  match i, hi with
  | 0, _ => exact cells_of_cell ((table0 h).cell g0 0 (by decide))
  | 1, _ => exact cells_of_cell ((table1 h).cell g1 0 (by decide))
  | n + 2, hi => omega

/-- WHAT THE WALK GIVES, IN EVERY WORLD THAT HOLDS THE TABLES. -/
theorem contract (H : Type) (enc : TypeId × Value → H) (W : World) (args : Array Value) (ds gs : List (DataW H)) (before : List MemPlace)
    (hW : DataW.Whole enc Tryd.prog Tryd.f3.params.toList Rows.tideNamesSpec.vars false W args.toList ds gs before) (hL : laidMetH Tryd.prog Rows.tideNamesRow.laid W) :
    Calls Tryd.prog 3 args W fun e W' => ∃ v, e = .returned v ∧ Rows.tideNamesSpec.post enc Tryd.prog Tryd.f3 false true false false W args v W' := by
  have hW' := hW
  obtain ⟨p, q, hA0, hV, rfl, hfz, hnd⟩ := hW
  have hA : DataW.TrodAll enc Tryd.prog W 0 (fun _ => true) true Tryd.f3.params.toList args.toList ds p := hA0
  rw [Tryd.params3] at hA
  obtain ⟨hargs, rfl, rfl⟩ := trodAll_nil hA
  obtain rfl : args = #[] := by cases args; simp_all
  obtain ⟨rfl, rfl⟩ := trodVars_none hV
  clear hA0
  refine (walk hL).mono fun e W' hb => ?_
  obtain ⟨rfl, hbelow⟩ := hb
  refine ⟨_, rfl, _, _, _, [] ++ [], [], [], hW', ?_, ?_, rfl, hbelow.frame _, fun h => by cases h⟩
  · exact trodAll_mk1 (shut_bool Tryd.underlying4 _)
  · exact trodAll_mk0

def lay (c : Array Value) : Obj → Obj
  | .cells _ t frozen => .cells c t frozen
  | o => o
/-- A WORLD FOR THE WITNESS: the settled one, the tables (blocks 0 and 1) holding what their initialisers lay. -/
noncomputable def laidHeap (h : Array Obj) : Array Obj := (h.modify 0 (lay #[.int .i64 0, .int .i64 1, .int .i64 3, .int .i64 6, .int .i64 9, .int .i64 11, .int .i64 12])).modify 1 (lay #[.int .i64 1, .int .i64 2, .int .i64 3, .int .i64 3, .int .i64 2, .int .i64 1, .int .i64 0])
noncomputable def laidWorld (os : Os) : World := { World.holding Tryd.prog os ⟨#[], #[], []⟩ with heap := laidHeap (World.holding Tryd.prog os ⟨#[], #[], []⟩).heap }
theorem laid_met (os : Os) : laidMet Tryd.prog Rows.tideNamesRow.laid ((laidWorld os).forCall (fun _ _ => 0) ⟨#[], #[], []⟩).memory :=
  laidMet_of_run' 8 (by kernel_rfl) (by kernel_rfl)
theorem reads (os : Os) {H : Type} (enc : TypeId × Value → H) : ∃ places, DataW.whole enc Tryd.prog ((laidWorld os).forCall (fun _ _ => 0) ⟨#[], #[], []⟩).memory Tryd.f3.params.toList Rows.tideNamesSpec.vars false (#[] : Array Value).toList 8 = some ([], [], places) :=
  ⟨[], by kernel_rfl⟩

set_option maxRecDepth 100000 in
theorem lifted (os : Os) (started : os.Started) (H : Type) (enc : TypeId × Value → H) (F : Stop.Interp) :
    ReturnsInHanded {} Tryd.checked os 3 .any ((OpenSpec.ofChange Rows.tideNamesSpec).preRow enc Tryd.prog Tryd.f3 Rows.tideNamesRow.domain false Rows.tideNamesRow.laid) (((OpenSpec.ofChange Rows.tideNamesSpec).at F).post enc Tryd.prog Tryd.f3 false true false false) := by
  obtain ⟨places, hx⟩ := reads os enc
  refine returnsInHanded_of_row (C := Tryd.checked) (s := OpenSpec.ofChange Rows.tideNamesSpec) own started (by kernel_rfl) Tryd.func3
    (witness_row_at (enc := enc) (C := Tryd.checked) false (laidWorld os) #[] rfl (by kernel_rfl) (by kernel_rfl) (by kernel_rfl)
      (OpenSpec.preRow_of_cond 8 hx (by kernel_rfl) (fun k hk => by cases hk) (by kernel_rfl) (laid_met os))) ?_
  intro W base args ds gs before hval hW _ _ _ hL _ _
  exact contract H enc W args ds gs before hW hL

theorem said : Rows.TideNamesSaid :=
  OpenClaim.holds_of_cond 3 Tryd.f3 rfl rfl rfl rfl rfl rfl rfl ⟨rfl, rfl, rfl, rfl, rfl⟩ rfl rfl rfl rfl rfl (by kernel_rfl) Tryd.func3 (by kernel_rfl)
    (of_decide_eq_true (by kernel_rfl)) (by unfold Func.isWrapper; first | (rw [if_pos (by decide +kernel)]; kernel_rfl) | (rw [if_neg (by decide +kernel)]; exact ⟨rfl, rfl⟩))
    (fun os started H enc _ F => by rw [OpenClaim.pre_eq_preRow]; exact lifted os started H enc F)

/-- No parameter wants a stand-in; the program's own looks are off: what the card asks. -/
theorem plain (f : FuncId) (fn : Func) (hf : Tryd.pinned.checked.prog.funcNamed "dipworks/dipworkslaw01.TideNames" = some f) (hfn : Tryd.pinned.checked.prog.funcs[f]? = some fn) :
    true = Tryd.pinned.checked.prog.looks [] ∧ ∀ (j : Nat) t, fn.params[j]? = some t → Tryd.pinned.checked.prog.wantsStandIn t = false := by
  obtain rfl : f = 3 := Option.some.inj ((show Tryd.prog.funcNamed "dipworks/dipworkslaw01.TideNames" = some 3 by kernel_rfl).symm.trans hf) |>.symm
  obtain rfl : fn = Tryd.f3 := (Option.some.inj (Tryd.func3.symm.trans hfn)).symm
  refine ⟨by kernel_rfl, fun j t ht => ?_⟩
  rw [Tryd.params3] at ht
  cases ht

/-- THE CARD. -/
theorem card : Rows.TideNamesCardSaid :=
  Claim7.holds_tied_plain_at .later [] _ _ _ _ said (fun _ h => by cases h) (by kernel_rfl) (fun _ h => by cases h) tideNames_row_tie rfl ⟨rfl, rfl⟩ (by kernel_rfl) rfl plain (by kernel_rfl)
end Go.Proofs.YtmnpnakbofobiaaDoor.tideNames
namespace Go.Proofs.YtmnpnakbofobiaaDoor
theorem tideNames_card : Rows.TideNamesCardSaid := tideNames.card
end Go.Proofs.YtmnpnakbofobiaaDoor
