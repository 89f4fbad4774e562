/-
 The law 'dipworkslaw04.SurfFarther' (if huts are numbered the other way round as many are left, and all is the same; a hut that lies a row farther in is lost no more surely, and first floats no sooner; and no argument is changed) returns true whenever it is called, and what it is given reads as it did.
 Conditions: none but the row's own: the arguments are any surf, and any two bytes; the two listed tables of math/bits hold what the program's text lays (the given tie; it is tied to the PRUNED copy of the repository that lies with the seat).
-/
import Derived.Test.YtoelpblmhmhglaaDoorPY
import Derived.Test.YtoelpblmhmhglaaDoorCards
import Derived.Test.YtoelpblmhmhglaaDoorTie
import Derived.WalkKit
import Derived.ProofKit
import Derived.OpenShut
import Derived.Carry
import Derived.Deep.DeepHandedRow
import Derived.Lib.LaidTab
import Derived.ChangeSame
namespace Go.Proofs.YtoelpblmhmhglaaDoor.surfFarther
open Go.ChangeShapes Go.WideShapes Go.ChangeAt Go.RowKit
theorem own : ownKnob Tryd.prog.godebug = none := by kernel_rfl
theorem laidOut : laidOutB Tryd.prog = true := by kernel_rfl
theorem rec25 : Tryd.prog.readableRec 25 = true := by kernel_rfl
theorem rec5 : Tryd.prog.readableRec 5 = true := by kernel_rfl
theorem row25 : 25 < Tryd.prog.types.size := of_decide_eq_true (by kernel_rfl)
theorem row5 : 5 < Tryd.prog.types.size := of_decide_eq_true (by kernel_rfl)
theorem g1 : Tryd.prog.globalNamed "math/bits.deBruijn64tab" = some 1 := by kernel_rfl
theorem g1t : (Tryd.prog.globals[1]?).map (·.type) = some 155 := by kernel_rfl
theorem cells155 : Tryd.prog.cellsOf 155 = 64 := by kernel_rfl
theorem cells5 : Tryd.prog.cellsOf 5 = 1 := by kernel_rfl
def tabZ : List Int := [0, 1, 56, 2, 57, 49, 28, 3, 61, 58, 42, 50, 38, 29, 17, 4, 62, 47, 59, 36, 45, 43, 51, 22, 53, 39, 33, 30, 24, 18, 12, 5, 63, 55, 48, 27, 60, 41, 37, 16, 46, 35, 44, 21, 52, 32, 23, 11, 54, 26, 40, 15, 34, 20, 31, 10, 25, 14, 19, 9, 13, 8, 7, 6]
theorem tabC_eq : Ab.tabC = tabZ.map fun z => Value.int .u8 z := rfl
set_option maxRecDepth 100000 in
theorem table1 {W : World} (h : laidMetH Tryd.prog Rows.surfFartherRow.laid W) : Lib.TabIs Tryd.prog W "math/bits.deBruijn64tab" .u8 [0, 1, 56, 2, 57, 49, 28, 3, 61, 58, 42, 50, 38, 29, 17, 4, 62, 47, 59, 36, 45, 43, 51, 22, 53, 39, 33, 30, 24, 18, 12, 5, 63, 55, 48, 27, 60, 41, 37, 16, 46, 35, 44, 21, 52, 32, 23, 11, 54, 26, 40, 15, 34, 20, 31, 10, 25, 14, 19, 9, 13, 8, 7, 6] :=
 Lib.tabIs_of_head (rest := []) g1 g1t Tryd.underlying155 Tryd.underlying5 cells5 cells155 (Ab.laidMet_tail (x := ("math/bits.deBruijn32tab", Rows.laid_math_bits_deBruijn32tab)) h)
theorem cell1 {W : World} (h : laidMetH Tryd.prog Rows.surfFartherRow.laid W) {j : Nat} {z : Int} (hj : tabZ[j]? = some z) : W.cell? ((⟨1, 0, none⟩ : Addr).add j) = some (.int .u8 z) := by
 have hl : j < tabZ.length := (List.getElem?_eq_some_iff.1 hj).1
 have := (table1 h).cell g1 j hl
 have e : (tabZ.getD j 0) = z := by rw [List.getD_eq_getElem?_getD, hj]; rfl
 have e2 : (⟨1, 0, none⟩ : Addr).add j = ⟨1, j, none⟩ := by
  unfold Addr.add
  by_cases h0 : j = 0
  · subst h0; rfl
  · rw [if_neg h0, Nat.zero_add]
 rw [e2, ← e]
 exact this
theorem held {W : World} (h : laidMetH Tryd.prog Rows.surfFartherRow.laid W) : Ab.RcHolds W Ab.gl1 := by
 intro q hq
 obtain rfl : (Ab.tabC, 1) = q := Option.some.inj hq
 obtain ⟨c, t, fr, hc, _, _⟩ := Ab.cell_block (cell1 h (j := 0) (z := 0) rfl)
 refine ⟨c, t, fr, hc, fun j v hj => ?_⟩
 have hj : Ab.tabC[j]? = some v := hj
 rw [tabC_eq, List.getElem?_map] at hj
 cases hz : tabZ[j]? with
 | none => rw [hz] at hj; cases hj
 | some z =>
  rw [hz] at hj
  obtain rfl : Value.int .u8 z = v := Option.some.inj hj
  obtain ⟨c', t', fr', hc', hv', _⟩ := Ab.cell_block (cell1 h hz)
  rw [hc] at hc'
  cases hc'
  exact ⟨rfl, hv'⟩
theorem trodAll_three {H : Type} {enc : TypeId × Value → H} {P : Program} {w : World} {base : Nat} {spare : Nat → Bool} {held : Bool} {t0 t1 t2 : TypeId} {args : Array Value} {ds : List (DataW H)} {ps : List MemPlace} (h : DataW.TrodAll enc P w base spare held [t0, t1, t2] args.toList ds ps) :
    ∃ v0 v1 v2 d0 d1 d2 p0 p1 p2, args = #[v0, v1, v2] ∧ ds = [d0, d1, d2] ∧ ps = p0 ++ p1 ++ p2 ∧ DataW.Trod enc P w base spare held t0 v0 d0 p0 ∧ DataW.Trod enc P w base spare held t1 v1 d1 p1 ∧ DataW.Trod enc P w base spare held t2 v2 d2 p2 := by
 obtain ⟨v, vs, d, ds', p, q, hargs, rfl, rfl, hd, hrest⟩ := trodAll_cons h
 obtain ⟨v1, vs1, d1, ds1, p1, q1, rfl, rfl, rfl, hd1, hrest1⟩ := trodAll_cons hrest
 obtain ⟨v2, vs2, d2, ds2, p2, q2, rfl, rfl, rfl, hd2, hrest2⟩ := trodAll_cons hrest1
 obtain ⟨rfl, rfl, rfl⟩ := trodAll_nil hrest2
 exact ⟨v, v1, v2, d, d1, d2, p, p1, p2, by cases args; simp_all, rfl, by simp, hd, hd1, hd2⟩
set_option maxRecDepth 100000 in
/-- WHAT THE CALL GIVES, IN EVERY WORLD THAT HOLDS THE TABLES. -/
theorem contract (H : Type) (enc : TypeId × Value → H) (W : World) (args : Array Value) (ds gs : List (DataW H)) (before : List MemPlace)
    (hval : ∀ (j : Nat) t v, Tryd.f9.params[j]? = some t → args[j]? = some v → Value.okWide Tryd.prog W .any 0 t v)
    (hW : DataW.Whole enc Tryd.prog Tryd.f9.params.toList Rows.surfFartherSpec.vars false W args.toList ds gs before) (hL : laidMetH Tryd.prog Rows.surfFartherRow.laid W) :
    Calls Tryd.prog 9 args W fun e W' => ∃ v, e = .returned v ∧ Rows.surfFartherSpec.post enc Tryd.prog Tryd.f9 false true false false W args v W' := by
 have hW' := hW
 have hlt := hW.lt
 obtain ⟨p, q, hA0, hV, rfl, hfz, hnd⟩ := hW
 have hA : DataW.TrodAll enc Tryd.prog W 0 (fun _ => true) true Tryd.f9.params.toList args.toList ds p := hA0
 rw [Tryd.params9] at hA
 obtain ⟨v, v1, v2, d, d1, d2, p0, p1, p2, rfl, rfl, rfl, h0, h1, h2⟩ := trodAll_three hA
 obtain ⟨rfl, rfl⟩ := trodVars_none hV
 have k0 := hval 0 25 v (by rw [Tryd.params9]; rfl) rfl
 have k1 := hval 1 5 v1 (by rw [Tryd.params9]; rfl) rfl
 obtain ⟨z1, rfl, rfl, rfl, hwf1⟩ := open_int Tryd.underlying5 k1 h1
 have k2 := hval 2 5 v2 (by rw [Tryd.params9]; rfl) rfl
 obtain ⟨z2, rfl, rfl, rfl, hwf2⟩ := open_int Tryd.underlying5 k2 h2
 obtain ⟨cs, rfl, _⟩ := okWide_struct Tryd.underlying25 k0
 obtain ⟨fu0, hh0⟩ := id h0
 have hT := held hL
 have hz : ∃ c t fr, W.heap[1]? = some (.cells c t fr) := by
  obtain ⟨c, t, fr, hc, _⟩ := hT _ rfl
  exact ⟨c, t, fr, hc⟩
 obtain ⟨rw, st, a, b, c, hcs, ha, hb, hc⟩ := Ab.surf_in hz (cs := cs.toList) hh0
 obtain rfl : cs = #[Ab.I rw, Ab.I st, a, b, c] := by cases cs; simp_all
 obtain ⟨ma1, mb1⟩ := Ab.wf_u8 hwf1
 obtain ⟨j1, rfl⟩ : ∃ j : Nat, z1 = (j : Int) := ⟨z1.toNat, (Int.toNat_of_nonneg ma1).symm⟩
 obtain ⟨ma2, mb2⟩ := Ab.wf_u8 hwf2
 obtain ⟨j2, rfl⟩ : ∃ j : Nat, z2 = (j : Int) := ⟨z2.toNat, (Int.toNat_of_nonneg ma2).symm⟩
 clear hA hA0 hV
 refine (Ab.run9 hT ha hb hc (by omega) (by omega)).mono fun e W' hb => ?_
 obtain ⟨rfl, hbelow⟩ := hb
 refine ⟨_, rfl, _, _, _, [] ++ [], (p0 ++ [] ++ []), [], hW', ?_, ?_, rfl, hbelow.frame _, fun h => by cases h⟩
 · exact trodAll_mk1 (shut_bool Tryd.underlying4 _)
 · have e0 := Below.trod laidOut rec25 row25 h0 hbelow (fun x hx => hlt x (by simp [hx]))
   have e1 := Below.trod laidOut rec5 row5 h1 hbelow (fun x hx => by cases hx)
   have e2 := Below.trod laidOut rec5 row5 h2 hbelow (fun x hx => by cases hx)
   have := trodAll_cons_mk e0 (trodAll_cons_mk e1 (trodAll_mk1 e2))
   rw [Tryd.params9]
   have hall : DataW.TrodAll enc Tryd.prog W' 0 (fun b => decide (b < W.heap.size)) true [25, 5, 5] [Value.agg #[Ab.I rw, Ab.I st, a, b, c], Value.int .u8 j1, Value.int .u8 j2] [d, DataW.lit (Lit.int .u8 j1), DataW.lit (Lit.int .u8 j2)] (p0 ++ [] ++ []) := by simpa using this
   exact hall
noncomputable def argv : Array Value := #[.agg #[.int .i64 0, .int .i64 0, .slice none 0 0, .slice none 0 0, .slice none 0 0], .int .u8 0, .int .u8 0]
def lay (c : Array Value) : Obj → Obj
 | .cells _ t frozen => .cells c t frozen
 | o => o
/-- A WORLD FOR THE WITNESS: the settled one, the tables (blocks 0 and 1) holding what their initialisers lay. -/
noncomputable def laidHeap (h : Array Obj) : Array Obj := (h.modify 0 (lay #[.int .u8 0, .int .u8 1, .int .u8 28, .int .u8 2, .int .u8 29, .int .u8 14, .int .u8 24, .int .u8 3, .int .u8 30, .int .u8 22, .int .u8 20, .int .u8 15, .int .u8 25, .int .u8 17, .int .u8 4, .int .u8 8, .int .u8 31, .int .u8 27, .int .u8 13, .int .u8 23, .int .u8 21, .int .u8 19, .int .u8 16, .int .u8 7, .int .u8 26, .int .u8 12, .int .u8 18, .int .u8 6, .int .u8 11, .int .u8 5, .int .u8 10, .int .u8 9])).modify 1 (lay #[.int .u8 0, .int .u8 1, .int .u8 56, .int .u8 2, .int .u8 57, .int .u8 49, .int .u8 28, .int .u8 3, .int .u8 61, .int .u8 58, .int .u8 42, .int .u8 50, .int .u8 38, .int .u8 29, .int .u8 17, .int .u8 4, .int .u8 62, .int .u8 47, .int .u8 59, .int .u8 36, .int .u8 45, .int .u8 43, .int .u8 51, .int .u8 22, .int .u8 53, .int .u8 39, .int .u8 33, .int .u8 30, .int .u8 24, .int .u8 18, .int .u8 12, .int .u8 5, .int .u8 63, .int .u8 55, .int .u8 48, .int .u8 27, .int .u8 60, .int .u8 41, .int .u8 37, .int .u8 16, .int .u8 46, .int .u8 35, .int .u8 44, .int .u8 21, .int .u8 52, .int .u8 32, .int .u8 23, .int .u8 11, .int .u8 54, .int .u8 26, .int .u8 40, .int .u8 15, .int .u8 34, .int .u8 20, .int .u8 31, .int .u8 10, .int .u8 25, .int .u8 14, .int .u8 19, .int .u8 9, .int .u8 13, .int .u8 8, .int .u8 7, .int .u8 6])
noncomputable def laidWorld (os : Os) : World := { World.holding Tryd.prog os ⟨#[], argv, []⟩ with heap := laidHeap (World.holding Tryd.prog os ⟨#[], argv, []⟩).heap }
theorem laid_met (os : Os) : laidMet Tryd.prog Rows.surfFartherRow.laid ((laidWorld os).forCall (fun _ _ => 0) ⟨#[], argv, []⟩).memory :=
 laidMet_of_run' 8 (by kernel_rfl) (by kernel_rfl)
theorem reads (os : Os) {H : Type} (enc : TypeId × Value → H) : ∃ ds places, DataW.whole enc Tryd.prog ((laidWorld os).forCall (fun _ _ => 0) ⟨#[], argv, []⟩).memory Tryd.f9.params.toList Rows.surfFartherSpec.vars false argv.toList 8 = some (ds, [], places) :=
 ⟨[.agg [.lit (.int .i64 0), .lit (.int .i64 0), .nil, .nil, .nil], .lit (.int .u8 0), .lit (.int .u8 0)], [], by kernel_rfl⟩
set_option maxRecDepth 100000 in
theorem lifted (os : Os) (started : os.Started) (H : Type) (enc : TypeId × Value → H) (F : Stop.Interp) :
    ReturnsInHanded {} Tryd.checked os 9 .any ((OpenSpec.ofChange Rows.surfFartherSpec).preRow enc Tryd.prog Tryd.f9 Rows.surfFartherRow.domain false Rows.surfFartherRow.laid) (((OpenSpec.ofChange Rows.surfFartherSpec).at F).post enc Tryd.prog Tryd.f9 false true false false) := by
 obtain ⟨ds, places, hx⟩ := reads os enc
 refine returnsInHanded_of_row (C := Tryd.checked) (s := OpenSpec.ofChange Rows.surfFartherSpec) own started (by kernel_rfl) Tryd.func9
  (witness_row_at (enc := enc) (C := Tryd.checked) false (laidWorld os) argv rfl (by kernel_rfl) (by kernel_rfl) (by kernel_rfl)
   (OpenSpec.preRow_of_cond 8 hx (by kernel_rfl) (fun k hk => by cases hk) (by kernel_rfl) (laid_met os))) ?_
 intro W base args ds gs before hval hW _ _ _ hL _ _
 exact contract H enc W args ds gs before hval hW hL
theorem said : Rows.SurfFartherSaid :=
 OpenClaim.holds_of_cond 9 Tryd.f9 rfl rfl rfl rfl rfl rfl rfl ⟨rfl, rfl, rfl, rfl, rfl⟩ rfl rfl rfl rfl rfl (by kernel_rfl) Tryd.func9 (by kernel_rfl)
  (of_decide_eq_true (by kernel_rfl)) (by unfold Func.isWrapper; first | (rw [if_pos (by decide +kernel)]; kernel_rfl) | (rw [if_neg (by decide +kernel)]; exact ⟨rfl, rfl⟩))
  (fun os started H enc _ F => by rw [OpenClaim.pre_eq_preRow]; exact lifted os started H enc F)
theorem stand25 : Tryd.pinned.checked.prog.wantsStandIn 25 = false := by kernel_rfl
theorem stand5 : Tryd.pinned.checked.prog.wantsStandIn 5 = false := by kernel_rfl
/-- No parameter wants a stand-in; the program's own looks are off: what the card asks. -/
theorem plain (f : FuncId) (fn : Func) (hf : Tryd.pinned.checked.prog.funcNamed "dipworks/dipworkslaw04.SurfFarther" = some f) (hfn : Tryd.pinned.checked.prog.funcs[f]? = some fn) :
    true = Tryd.pinned.checked.prog.looks [] ∧ ∀ (j : Nat) t, fn.params[j]? = some t → Tryd.pinned.checked.prog.wantsStandIn t = false := by
 obtain rfl : f = 9 := Option.some.inj ((show Tryd.prog.funcNamed "dipworks/dipworkslaw04.SurfFarther" = some 9 by kernel_rfl).symm.trans hf) |>.symm
 obtain rfl : fn = Tryd.f9 := (Option.some.inj (Tryd.func9.symm.trans hfn)).symm
 refine ⟨by kernel_rfl, fun j t ht => ?_⟩
 rw [Tryd.params9] at ht
 match j, ht with
 | 0, ht => cases ht; exact stand25
 | 1, ht => cases ht; exact stand5
 | 2, ht => cases ht; exact stand5
 | n + 3, ht => cases ht
/-- THE CARD. -/
theorem card : Rows.SurfFartherCardSaid :=
 Claim7.holds_tied_plain_at .later [] _ _ _ _ said (fun _ h => by cases h) (by kernel_rfl) (fun _ h => by cases h) surfFarther_row_tie rfl ⟨rfl, rfl⟩ (by kernel_rfl) rfl plain (by kernel_rfl)
end Go.Proofs.YtoelpblmhmhglaaDoor.surfFarther
namespace Go.Proofs.YtoelpblmhmhglaaDoor
theorem surfFarther_card : Rows.SurfFartherCardSaid := surfFarther.card
end Go.Proofs.YtoelpblmhmhglaaDoor

