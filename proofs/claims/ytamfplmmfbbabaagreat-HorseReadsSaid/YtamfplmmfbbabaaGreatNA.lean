/-
  The law 'dipworkslaw02.HorseReads' (Follows, Check, Late and Busy answer what the document's own words answer) returns true whenever it is called, and what it is given reads as it did.
  Conditions: none but the row's own: the arguments are any horses, any plan, any three numbers, and either truth value.
-/
import Derived.Test.YtamfplmmfbbabaaGreatMZ
import Derived.Test.YtamfplmmfbbabaaGreatRows
import Derived.WalkKit
import Derived.ProofKit
import Derived.OpenShut
import Derived.Carry
import Derived.Deep.DeepHandedRow
namespace Go.Proofs.YtamfplmmfbbabaaGreat.horseReads
open Go.ChangeShapes Go.WideShapes Go.ChangeAt Go.RowKit

section
open Go.ChangeShapes
variable {H : Type} {enc : TypeId × Value → H} {P : Program} {w : World} {base : Nat} {spare : Nat → Bool} {held : Bool}
theorem trodAll_six {t0 t1 t2 t3 t4 t5 : TypeId} {args : Array Value} {ds : List (DataW H)} {ps : List MemPlace} (h : DataW.TrodAll enc P w base spare held [t0, t1, t2, t3, t4, t5] args.toList ds ps) :
    ∃ v0 v1 v2 v3 v4 v5 d0 d1 d2 d3 d4 d5 p0 p1 p2 p3 p4 p5, args = #[v0, v1, v2, v3, v4, v5] ∧ ds = [d0, d1, d2, d3, d4, d5] ∧ ps = p0 ++ p1 ++ p2 ++ p3 ++ p4 ++ p5 ∧ DataW.Trod enc P w base spare held t0 v0 d0 p0 ∧ DataW.Trod enc P w base spare held t1 v1 d1 p1 ∧ DataW.Trod enc P w base spare held t2 v2 d2 p2 ∧ DataW.Trod enc P w base spare held t3 v3 d3 p3 ∧ DataW.Trod enc P w base spare held t4 v4 d4 p4 ∧ DataW.Trod enc P w base spare held t5 v5 d5 p5 := by
  obtain ⟨v0, vs0, d0, ds0, p0, q0, hargs, rfl, rfl, h0, r0⟩ := trodAll_cons h
  obtain ⟨v1, vs1, d1, ds1, p1, q1, rfl, rfl, rfl, h1, r1⟩ := trodAll_cons r0
  obtain ⟨v2, vs2, d2, ds2, p2, q2, rfl, rfl, rfl, h2, r2⟩ := trodAll_cons r1
  obtain ⟨v3, vs3, d3, ds3, p3, q3, rfl, rfl, rfl, h3, r3⟩ := trodAll_cons r2
  obtain ⟨v4, vs4, d4, ds4, p4, q4, rfl, rfl, rfl, h4, r4⟩ := trodAll_cons r3
  obtain ⟨v5, vs5, d5, ds5, p5, q5, rfl, rfl, rfl, h5, r5⟩ := trodAll_cons r4
  obtain ⟨rfl, rfl, rfl⟩ := trodAll_nil r5
  exact ⟨v0, v1, v2, v3, v4, v5, d0, d1, d2, d3, d4, d5, p0, p1, p2, p3, p4, p5, by cases args; simp_all, rfl, by simp, h0, h1, h2, h3, h4, h5⟩
theorem trodAll_mk6 {t0 t1 t2 t3 t4 t5 : TypeId} {v0 v1 v2 v3 v4 v5 : Value} {d0 d1 d2 d3 d4 d5 : DataW H} {p0 p1 p2 p3 p4 p5 : List MemPlace} (h0 : DataW.Trod enc P w base spare held t0 v0 d0 p0) (h1 : DataW.Trod enc P w base spare held t1 v1 d1 p1)
    (h2 : DataW.Trod enc P w base spare held t2 v2 d2 p2) (h3 : DataW.Trod enc P w base spare held t3 v3 d3 p3) (h4 : DataW.Trod enc P w base spare held t4 v4 d4 p4) (h5 : DataW.Trod enc P w base spare held t5 v5 d5 p5) :
    DataW.TrodAll enc P w base spare held [t0, t1, t2, t3, t4, t5] [v0, v1, v2, v3, v4, v5] [d0, d1, d2, d3, d4, d5] (p0 ++ (p1 ++ (p2 ++ (p3 ++ (p4 ++ p5))))) := ⟨p0, _, h0, ⟨p1, _, h1, trodAll_mk4 h2 h3 h4 h5, rfl⟩, rfl⟩
end

theorem own : ownKnob Tryz.prog.godebug = none := by kernel_rfl
theorem laidOut : laidOutB Tryz.prog = true := by kernel_rfl
theorem rec24 : Tryz.prog.readableRec 24 = true := by kernel_rfl
theorem rec3 : Tryz.prog.readableRec 3 = true := by kernel_rfl
theorem rec4 : Tryz.prog.readableRec 4 = true := by kernel_rfl
theorem row4 : 4 < Tryz.prog.types.size := of_decide_eq_true (by kernel_rfl)
theorem rec25 : Tryz.prog.readableRec 25 = true := by kernel_rfl
theorem row24 : 24 < Tryz.prog.types.size := of_decide_eq_true (by kernel_rfl)
theorem row3 : 3 < Tryz.prog.types.size := of_decide_eq_true (by kernel_rfl)
theorem row25 : 25 < Tryz.prog.types.size := of_decide_eq_true (by kernel_rfl)

set_option maxRecDepth 100000 in
/-- WHAT THE CALL GIVES, IN EVERY WORLD. -/
theorem contract (H : Type) (enc : TypeId × Value → H) (W : World) (args : Array Value) (ds gs : List (DataW H)) (before : List MemPlace)
    (hval : ∀ (j : Nat) t v, Tryz.f3.params[j]? = some t → args[j]? = some v → Value.okWide Tryz.prog W .any 0 t v)
    (hW : DataW.Whole enc Tryz.prog Tryz.f3.params.toList Rows.horseReadsSpec.vars false W args.toList ds gs before) :
    Calls Tryz.prog 3 args W fun e W' => ∃ v, e = .returned v ∧ Rows.horseReadsSpec.post enc Tryz.prog Tryz.f3 false true false false W args v W' := by
  have hW' := hW
  have hlt := hW.lt
  obtain ⟨p, q, hA0, hV, rfl, hfz, hnd⟩ := hW
  have hA : DataW.TrodAll enc Tryz.prog W 0 (fun _ => true) true Tryz.f3.params.toList args.toList ds p := hA0
  rw [Tryz.params3] at hA
  obtain ⟨v, v', v2, v3, v4, v5, d, d', d2, d3, d4, d5, p0, p1, p2, p3, p4, p5, rfl, rfl, rfl, h0, h1, h2, h3, h4, h5⟩ := trodAll_six hA
  obtain ⟨rfl, rfl⟩ := trodVars_none hV
  have k0 := hval 0 24 v (by rw [Tryz.params3]; rfl) rfl
  have k1 := hval 1 25 v' (by rw [Tryz.params3]; rfl) rfl
  have k2 := hval 2 3 v2 (by rw [Tryz.params3]; rfl) rfl
  have k3 := hval 3 3 v3 (by rw [Tryz.params3]; rfl) rfl
  have k4 := hval 4 3 v4 (by rw [Tryz.params3]; rfl) rfl
  have k5 := hval 5 4 v5 (by rw [Tryz.params3]; rfl) rfl
  obtain ⟨i2, rfl, rfl, rfl, _⟩ := open_int Tryz.underlying3 k2 h2
  obtain ⟨i3, rfl, rfl, rfl, _⟩ := open_int Tryz.underlying3 k3 h3
  obtain ⟨i4, rfl, rfl, rfl, _⟩ := open_int Tryz.underlying3 k4 h4
  obtain ⟨b5, rfl, rfl, rfl⟩ := open_bool Tryz.underlying4 k5 h5
  obtain ⟨cs, rfl, _⟩ := okWide_struct Tryz.underlying24 k0
  obtain ⟨sa, sl, sc, rfl⟩ := okWide_slice Tryz.underlying25 k1
  obtain ⟨fu0, hh0⟩ := id h0
  obtain ⟨fu1, hh1⟩ := id h1
  obtain ⟨pc, mv, hcs, hmv⟩ := Ab.horses_in (cs := cs.toList) hh0
  obtain rfl : cs = #[Ab.I pc, mv] := by cases cs; simp_all
  have hpl := Ab.plan_in hh1
  clear hA hA0 hV
  refine (Ab.run3 hmv hpl).mono fun e W' hb => ?_
  obtain ⟨rfl, hbelow⟩ := hb
  refine ⟨_, rfl, _, _, _, [] ++ [], (p0 ++ p1 ++ [] ++ [] ++ [] ++ []), [], hW', ?_, ?_, rfl, hbelow.frame _, fun h => by cases h⟩
  · exact trodAll_mk1 (shut_bool Tryz.underlying4 _)
  · have e0 := Below.trod laidOut rec24 row24 h0 hbelow (fun x hx => hlt x (by simp [hx]))
    have e1 := Below.trod laidOut rec25 row25 h1 hbelow (fun x hx => hlt x (by simp [hx]))
    have e2 := Below.trod laidOut rec3 row3 h2 hbelow (fun x hx => by cases hx)
    have e3 := Below.trod laidOut rec3 row3 h3 hbelow (fun x hx => by cases hx)
    have e4 := Below.trod laidOut rec3 row3 h4 hbelow (fun x hx => by cases hx)
    have e5 := Below.trod laidOut rec4 row4 h5 hbelow (fun x hx => by cases hx)
    have := trodAll_mk6 e0 e1 e2 e3 e4 e5
    rw [Tryz.params3]
    have hall : DataW.TrodAll enc Tryz.prog W' 0 (fun b => decide (b < W.heap.size)) true [24, 25, 3, 3, 3, 4] [Value.agg #[Ab.I pc, mv], Value.slice sa sl sc, Value.int .i64 i2, Value.int .i64 i3, Value.int .i64 i4, Value.bool b5] [d, d', DataW.lit (Lit.int .i64 i2), DataW.lit (Lit.int .i64 i3), DataW.lit (Lit.int .i64 i4), DataW.lit (Lit.bool b5)] (p0 ++ p1 ++ [] ++ [] ++ [] ++ []) := by simpa using this
    exact hall

noncomputable def argv : Array Value := #[.agg #[.int .i64 0, .slice none 0 0], .slice none 0 0, .int .i64 0, .int .i64 0, .int .i64 0, .bool false]
noncomputable def wit (os : Os) : World := World.holding Tryz.prog os ⟨#[], argv, []⟩
theorem reads (os : Os) {H : Type} (enc : TypeId × Value → H) : ∃ ds places, DataW.whole enc Tryz.prog ((wit os).forCall (fun _ _ => 0) ⟨#[], argv, []⟩).memory Tryz.f3.params.toList Rows.horseReadsSpec.vars false argv.toList 8 = some (ds, [], places) :=
  ⟨[.agg [.lit (.int .i64 0), .nil], .nil, .lit (.int .i64 0), .lit (.int .i64 0), .lit (.int .i64 0), .lit (.bool false)], [], by kernel_rfl⟩
theorem laid_met {W : World} : laidMet Tryz.prog [] W := ⟨[], rfl, List.nodup_nil, fun _ _ h => by cases h⟩

set_option maxRecDepth 100000 in
theorem lifted (os : Os) (started : os.Started) (H : Type) (enc : TypeId × Value → H) (F : Stop.Interp) :
    ReturnsInHanded {} Tryz.checked os 3 .any ((OpenSpec.ofChange Rows.horseReadsSpec).preRow enc Tryz.prog Tryz.f3 Rows.horseReadsRow.domain false Rows.horseReadsRow.laid) (((OpenSpec.ofChange Rows.horseReadsSpec).at F).post enc Tryz.prog Tryz.f3 false true false false) := by
  obtain ⟨ds, places, hx⟩ := reads os enc
  refine returnsInHanded_of_row (C := Tryz.checked) (s := OpenSpec.ofChange Rows.horseReadsSpec) own started (by kernel_rfl) Tryz.func3
    (witness_row_at (enc := enc) (C := Tryz.checked) false (wit os) argv rfl (by kernel_rfl) (by kernel_rfl) (by kernel_rfl)
      (OpenSpec.preRow_of_cond 8 hx (by kernel_rfl) (fun k hk => by cases hk) (by kernel_rfl) laid_met)) ?_
  intro W base args ds gs before hval hW _ _ _ hL _ _
  exact contract H enc W args ds gs before hval hW

theorem said : Rows.HorseReadsSaid :=
  OpenClaim.holds_of_cond 3 Tryz.f3 rfl rfl rfl rfl rfl rfl rfl ⟨rfl, rfl, rfl, rfl, rfl⟩ rfl rfl rfl rfl rfl (by kernel_rfl) Tryz.func3 (by kernel_rfl)
    (of_decide_eq_true (by kernel_rfl)) (by unfold Func.isWrapper; first | (rw [if_pos (by decide +kernel)]; kernel_rfl) | (rw [if_neg (by decide +kernel)]; exact ⟨rfl, rfl⟩))
    (fun os started H enc _ F => by rw [OpenClaim.pre_eq_preRow]; exact lifted os started H enc F)
end Go.Proofs.YtamfplmmfbbabaaGreat.horseReads
namespace Go.Proofs.YtamfplmmfbbabaaGreat
theorem horseReads_said : Rows.HorseReadsSaid := horseReads.said
end Go.Proofs.YtamfplmmfbbabaaGreat

