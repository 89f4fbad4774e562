/-
  The law 'dipworkslaw03.TicketNames' (errors and limits of package ticket have the document's values, and the chapter's examples hold) returns true whenever it is called.
  Conditions: the card's own: the package-level variable dipworks/ticket.absent holds what the program's text lays (the given tie; it is tied to the PRUNED copy of the repository that lies with the seat).
-/
import Derived.Test.YtbcppknifdjdpaaDoorNE
import Derived.Test.YtbcppknifdjdpaaDoorNF
import Derived.Test.YtbcppknifdjdpaaDoorCards
import Derived.Test.YtbcppknifdjdpaaDoorTie
import Derived.WalkKit
import Derived.ProofKit
import Derived.OpenShut
import Derived.Deep.DeepHandedRow
import Derived.Lib.LaidTab
import Derived.ChangeSame
namespace Go.Proofs.YtbcppknifdjdpaaDoor.ticketNames
open Go.ChangeShapes Go.WideShapes Go.ChangeAt Go.RowKit

theorem own : ownKnob Tryd.prog.godebug = none := by kernel_rfl
theorem g0 : Tryd.prog.globalNamed "dipworks/ticket.absent" = some 0 := by kernel_rfl
theorem g0t : (Tryd.prog.globals[0]?).map (·.type) = some 66 := by kernel_rfl
theorem nglob : Tryd.prog.globals.size = 1 := by kernel_rfl

set_option maxRecDepth 100000 in
theorem absent {W : World} (h : laidMetH Tryd.prog Rows.ticketNamesRow.laid W) (j : Nat) (v : Value) (hj : (Ab.Is [-30, -30])[j]? = some v) : W.cell? ⟨0, j, none⟩ = some v := by
  obtain ⟨ps, ⟨g', t', cs, fuel, p, q, hg', ht', hvar, hd, _, _⟩, _⟩ := (show laidMet Tryd.prog Rows.ticketNamesRow.laid W from h)
  obtain rfl := Option.some.inj (g0.symm.trans hg')
  obtain rfl := Option.some.inj (g0t.symm.trans ht')
  obtain ⟨y0, y1, n, hx, hl, h0, h1⟩ := trod_struct2 Tryd.underlying66 hd
  obtain ⟨a, ha, hxa, _⟩ := DataW.trod_int Tryd.underlying3 h0
  obtain ⟨b, hb, hxb, _⟩ := DataW.trod_int Tryd.underlying3 h1
  subst hxa
  subst hxb
  have e := congrArg (fun x : DataW Unit × List MemPlace => x.1) hx
  have e : (DataW.agg [.lit (.int .i64 (-30)), .lit (.int .i64 (-30))] : DataW Unit) = .agg [.lit (.int .i64 a), .lit (.int .i64 b)] := e
  injection e with e
  injection e with e1 e2
  injection e2 with e2 _
  injection e1 with e1
  injection e2 with e2
  injection e1 with _ e1
  injection e2 with _ e2
  subst e1
  subst e2
  have hcs : cs.toList = Ab.Is [-30, -30] := by
    rw [show Tryd.prog.cellsOf 66 = 2 by kernel_rfl] at hl
    match hc : cs.toList, hl with
    | [w0, w1], _ =>
      rw [hc] at ha hb
      have ha : [w0] = [Value.int .i64 (-30)] := ha
      have hb : [w1] = [Value.int .i64 (-30)] := hb
      cases ha; cases hb
      rfl
  have hc := World.var?_cell g0 hvar j
  rw [← hcs] at hj
  simp at hj
  rw [hc]
  exact hj

theorem cells_of_cell {W : World} {i : Nat} {v : Value} (h : W.cell? ⟨i, 0, none⟩ = some v) : ∃ c t fr, W.heap[i]? = some (.cells c t fr) := by
  unfold World.cell? at h
  split at h
  · rename_i c t fr hc; exact ⟨c, t, fr, hc⟩
  · cases h

theorem holds {W : World} (h : laidMetH Tryd.prog Rows.ticketNamesRow.laid W) : Ab.Holds Ab.lawEnt W := by
  intro i cs t hi j v hj
  match i, hi with
  | 0, hi =>
    obtain ⟨rfl, rfl⟩ : Ab.Is [-30, -30] = cs ∧ 66 = t := by simpa [Ab.lawEnt] using hi
    refine ⟨?_, absent h j v hj⟩
    match j, hj with
    | 0, hj => cases hj; rfl
    | 1, hj => cases hj; rfl
    | n + 2, hj => cases hj
  | n + 1, hi => cases hi

theorem walk {W : World} (h : laidMetH Tryd.prog Rows.ticketNamesRow.laid W) : Calls Tryd.prog 3 #[] W fun e W' => e = .returned (.bool true) ∧ Below W.heap.size W W' := by
  refine Ab.calls_of_ent Ab.law_known (by rw [nglob]; rfl) (fun i hi => ?_) (holds h) (fun v hv => by cases hv) rfl
  rw [nglob] at hi
  match i, hi with
  | 0, _ => exact cells_of_cell (absent h 0 _ rfl)
  | n + 1, hi => omega

/-- WHAT THE WALK GIVES, IN EVERY WORLD THAT HOLDS THE TABLES. -/
theorem contract (H : Type) (enc : TypeId × Value → H) (W : World) (args : Array Value) (ds gs : List (DataW H)) (before : List MemPlace)
    (hW : DataW.Whole enc Tryd.prog Tryd.f3.params.toList Rows.ticketNamesSpec.vars false W args.toList ds gs before) (hL : laidMetH Tryd.prog Rows.ticketNamesRow.laid W) :
    Calls Tryd.prog 3 args W fun e W' => ∃ v, e = .returned v ∧ Rows.ticketNamesSpec.post enc Tryd.prog Tryd.f3 false true false false W args v W' := by
  have hW' := hW
  obtain ⟨p, q, hA0, hV, rfl, hfz, hnd⟩ := hW
  have hA : DataW.TrodAll enc Tryd.prog W 0 (fun _ => true) true Tryd.f3.params.toList args.toList ds p := hA0
  rw [Tryd.params3] at hA
  obtain ⟨hargs, rfl, rfl⟩ := trodAll_nil hA
  obtain rfl : args = #[] := by cases args; simp_all
  obtain ⟨rfl, rfl⟩ := trodVars_none hV
  clear hA0
  refine (walk hL).mono fun e W' hb => ?_
  obtain ⟨rfl, hbelow⟩ := hb
  refine ⟨_, rfl, _, _, _, [] ++ [], [], [], hW', ?_, ?_, rfl, hbelow.frame _, fun h => by cases h⟩
  · exact trodAll_mk1 (shut_bool Tryd.underlying4 _)
  · exact trodAll_mk0

def lay (c : Array Value) : Obj → Obj
  | .cells _ t frozen => .cells c t frozen
  | o => o
/-- A WORLD FOR THE WITNESS: the settled one, the variable (block 0) holding what its initialiser lays. -/
noncomputable def laidHeap (h : Array Obj) : Array Obj := h.modify 0 (lay #[.int .i64 (-30), .int .i64 (-30)])
noncomputable def laidWorld (os : Os) : World := { World.holding Tryd.prog os ⟨#[], #[], []⟩ with heap := laidHeap (World.holding Tryd.prog os ⟨#[], #[], []⟩).heap }
theorem laid_met (os : Os) : laidMet Tryd.prog Rows.ticketNamesRow.laid ((laidWorld os).forCall (fun _ _ => 0) ⟨#[], #[], []⟩).memory :=
  laidMet_of_run' 8 (by kernel_rfl) (by kernel_rfl)
theorem reads (os : Os) {H : Type} (enc : TypeId × Value → H) : ∃ places, DataW.whole enc Tryd.prog ((laidWorld os).forCall (fun _ _ => 0) ⟨#[], #[], []⟩).memory Tryd.f3.params.toList Rows.ticketNamesSpec.vars false (#[] : Array Value).toList 8 = some ([], [], places) :=
  ⟨[], by kernel_rfl⟩

set_option maxRecDepth 100000 in
theorem lifted (os : Os) (started : os.Started) (H : Type) (enc : TypeId × Value → H) (F : Stop.Interp) :
    ReturnsInHanded {} Tryd.checked os 3 .any ((OpenSpec.ofChange Rows.ticketNamesSpec).preRow enc Tryd.prog Tryd.f3 Rows.ticketNamesRow.domain false Rows.ticketNamesRow.laid) (((OpenSpec.ofChange Rows.ticketNamesSpec).at F).post enc Tryd.prog Tryd.f3 false true false false) := by
  obtain ⟨places, hx⟩ := reads os enc
  refine returnsInHanded_of_row (C := Tryd.checked) (s := OpenSpec.ofChange Rows.ticketNamesSpec) own started (by kernel_rfl) Tryd.func3
    (witness_row_at (enc := enc) (C := Tryd.checked) false (laidWorld os) #[] rfl (by kernel_rfl) (by kernel_rfl) (by kernel_rfl)
      (OpenSpec.preRow_of_cond 8 hx (by kernel_rfl) (fun k hk => by cases hk) (by kernel_rfl) (laid_met os))) ?_
  intro W base args ds gs before hval hW _ _ _ hL _ _
  exact contract H enc W args ds gs before hW hL

theorem said : Rows.TicketNamesSaid :=
  OpenClaim.holds_of_cond 3 Tryd.f3 rfl rfl rfl rfl rfl rfl rfl ⟨rfl, rfl, rfl, rfl, rfl⟩ rfl rfl rfl rfl rfl (by kernel_rfl) Tryd.func3 (by kernel_rfl)
    (of_decide_eq_true (by kernel_rfl)) (by unfold Func.isWrapper; first | (rw [if_pos (by decide +kernel)]; kernel_rfl) | (rw [if_neg (by decide +kernel)]; exact ⟨rfl, rfl⟩))
    (fun os started H enc _ F => by rw [OpenClaim.pre_eq_preRow]; exact lifted os started H enc F)

/-- No parameter wants a stand-in; the program's own looks are off: what the card asks. -/
theorem plain (f : FuncId) (fn : Func) (hf : Tryd.pinned.checked.prog.funcNamed "dipworks/dipworkslaw03.TicketNames" = some f) (hfn : Tryd.pinned.checked.prog.funcs[f]? = some fn) :
    true = Tryd.pinned.checked.prog.looks [] ∧ ∀ (j : Nat) t, fn.params[j]? = some t → Tryd.pinned.checked.prog.wantsStandIn t = false := by
  obtain rfl : f = 3 := Option.some.inj ((show Tryd.prog.funcNamed "dipworks/dipworkslaw03.TicketNames" = some 3 by kernel_rfl).symm.trans hf) |>.symm
  obtain rfl : fn = Tryd.f3 := (Option.some.inj (Tryd.func3.symm.trans hfn)).symm
  refine ⟨by kernel_rfl, fun j t ht => ?_⟩
  rw [Tryd.params3] at ht
  cases ht

/-- THE CARD. -/
theorem card : Rows.TicketNamesCardSaid :=
  Claim7.holds_tied_plain_at .later [] _ _ _ _ said (fun _ h => by cases h) (by kernel_rfl) (fun _ h => by cases h) ticketNames_row_tie rfl ⟨rfl, rfl⟩ (by kernel_rfl) rfl plain (by kernel_rfl)
end Go.Proofs.YtbcppknifdjdpaaDoor.ticketNames
namespace Go.Proofs.YtbcppknifdjdpaaDoor
theorem ticketNames_card : Rows.TicketNamesCardSaid := ticketNames.card
end Go.Proofs.YtbcppknifdjdpaaDoor

