/-
  The law 'dipworkslaw02.HorseTurned' (if moves are numbered otherwise, or the beach is gone along from its other end, as many horses are needed, as few moves are left out, and a plan is right together with the same one; no argument is changed, and what is returned is new) returns true whenever it is called, and what it is given reads as it did.
  Conditions: none but the row's own: the arguments are any horses, any bytes, a bool and a byte.
-/
import Derived.Test.YtamfplmmfbbabaaVW
import Derived.Test.YtamfplmmfbbabaaRows
import Derived.WalkKit
import Derived.ProofKit
import Derived.OpenShut
import Derived.Carry
import Derived.Deep.DeepHandedRow
namespace Go.Proofs.Ytamfplmmfbbabaa.horseTurned
open Go.ChangeShapes Go.WideShapes Go.ChangeAt Go.RowKit
theorem own : ownKnob Try.prog.godebug = none := by kernel_rfl
theorem laidOut : laidOutB Try.prog = true := by kernel_rfl
theorem rec24 : Try.prog.readableRec 24 = true := by kernel_rfl
theorem rec4 : Try.prog.readableRec 4 = true := by kernel_rfl
theorem rec5 : Try.prog.readableRec 5 = true := by kernel_rfl
theorem rec25 : Try.prog.readableRec 25 = true := by kernel_rfl
theorem row24 : 24 < Try.prog.types.size := of_decide_eq_true (by kernel_rfl)
theorem row4 : 4 < Try.prog.types.size := of_decide_eq_true (by kernel_rfl)
theorem row5 : 5 < Try.prog.types.size := of_decide_eq_true (by kernel_rfl)
theorem row25 : 25 < Try.prog.types.size := of_decide_eq_true (by kernel_rfl)
set_option maxRecDepth 100000 in
/-- WHAT THE CALL GIVES, IN EVERY WORLD. -/
theorem contract (H : Type) (enc : TypeId × Value → H) (W : World) (args : Array Value) (ds gs : List (DataW H)) (before : List MemPlace)
    (hval : ∀ (j : Nat) t v, Try.f10.params[j]? = some t → args[j]? = some v → Value.okWide Try.prog W .any 0 t v)
    (hW : DataW.Whole enc Try.prog Try.f10.params.toList Rows.horseTurnedSpec.vars false W args.toList ds gs before) :
    Calls Try.prog 10 args W fun e W' => ∃ v, e = .returned v ∧ Rows.horseTurnedSpec.post enc Try.prog Try.f10 false true false false W args v W' := by
  have hW' := hW
  have hlt := hW.lt
  obtain ⟨p, q, hA0, hV, rfl, hfz, hnd⟩ := hW
  have hA : DataW.TrodAll enc Try.prog W 0 (fun _ => true) true Try.f10.params.toList args.toList ds p := hA0
  rw [Try.params10] at hA
  obtain ⟨v, v', v3, v'', d, d', d3, d'', p0, p1, p3, p2, rfl, rfl, rfl, h0, h1, h3, h2⟩ := trodAll_four hA
  obtain ⟨rfl, rfl⟩ := trodVars_none hV
  have k0 := hval 0 24 v (by rw [Try.params10]; rfl) rfl
  have k1 := hval 1 25 v' (by rw [Try.params10]; rfl) rfl
  have k3 := hval 2 4 v3 (by rw [Try.params10]; rfl) rfl
  have k2 := hval 3 5 v'' (by rw [Try.params10]; rfl) rfl
  obtain ⟨m8, rfl, rfl, rfl, hwf⟩ := open_int Try.underlying5 k2 h2
  obtain ⟨b8, rfl, rfl, rfl⟩ := open_bool Try.underlying4 k3 h3
  obtain ⟨sa, sl, sc, rfl⟩ := okWide_slice Try.underlying25 k1
  obtain ⟨cs, rfl, _⟩ := okWide_struct Try.underlying24 k0
  obtain ⟨fu0, hh0⟩ := id h0
  obtain ⟨fu1, hh1⟩ := id h1
  obtain ⟨pc, mv, hcs, hmv⟩ := Ab.horses_in (cs := cs.toList) hh0
  obtain rfl : cs = #[Ab.I pc, mv] := by cases cs; simp_all
  have hby := Ab.bytes_in hh1
  clear hA hA0 hV
  refine (Ab.run10 hmv hby (Ab.wf_u8 hwf)).mono fun e W' hb => ?_
  obtain ⟨rfl, hbelow⟩ := hb
  refine ⟨_, rfl, _, _, _, [] ++ [], (p0 ++ p1 ++ [] ++ []), [], hW', ?_, ?_, rfl, hbelow.frame _, fun h => by cases h⟩
  · exact trodAll_mk1 (shut_bool Try.underlying4 _)
  · have e0 := Below.trod laidOut rec24 row24 h0 hbelow (fun x hx => hlt x (by simp [hx]))
    have e1 := Below.trod laidOut rec25 row25 h1 hbelow (fun x hx => hlt x (by simp [hx]))
    have e3 := Below.trod laidOut rec4 row4 h3 hbelow (fun x hx => by cases hx)
    have e2 := Below.trod laidOut rec5 row5 h2 hbelow (fun x hx => by cases hx)
    have := trodAll_mk4 e0 e1 e3 e2
    rw [Try.params10]
    have hall : DataW.TrodAll enc Try.prog W' 0 (fun b => decide (b < W.heap.size)) true [24, 25, 4, 5] [Value.agg #[Ab.I pc, mv], Value.slice sa sl sc, Value.bool b8, Value.int .u8 m8] [d, d', DataW.lit (Lit.bool b8), DataW.lit (Lit.int .u8 m8)] (p0 ++ p1 ++ [] ++ []) := by simpa using this
    exact hall
noncomputable def argv : Array Value := #[.agg #[.int .i64 0, .slice none 0 0], .slice none 0 0, .bool false, .int .u8 0]
noncomputable def wit (os : Os) : World := World.holding Try.prog os ⟨#[], argv, []⟩
theorem reads (os : Os) {H : Type} (enc : TypeId × Value → H) : ∃ ds places, DataW.whole enc Try.prog ((wit os).forCall (fun _ _ => 0) ⟨#[], argv, []⟩).memory Try.f10.params.toList Rows.horseTurnedSpec.vars false argv.toList 8 = some (ds, [], places) :=
  ⟨[.agg [.lit (.int .i64 0), .nil], .nil, .lit (.bool false), .lit (.int .u8 0)], [], by kernel_rfl⟩
theorem laid_met {W : World} : laidMet Try.prog [] W := ⟨[], rfl, List.nodup_nil, fun _ _ h => by cases h⟩
set_option maxRecDepth 100000 in
theorem lifted (os : Os) (started : os.Started) (H : Type) (enc : TypeId × Value → H) (F : Stop.Interp) :
    ReturnsInHanded {} Try.checked os 10 .any ((OpenSpec.ofChange Rows.horseTurnedSpec).preRow enc Try.prog Try.f10 Rows.horseTurnedRow.domain false Rows.horseTurnedRow.laid) (((OpenSpec.ofChange Rows.horseTurnedSpec).at F).post enc Try.prog Try.f10 false true false false) := by
  obtain ⟨ds, places, hx⟩ := reads os enc
  refine returnsInHanded_of_row (C := Try.checked) (s := OpenSpec.ofChange Rows.horseTurnedSpec) own started (by kernel_rfl) Try.func10
    (witness_row_at (enc := enc) (C := Try.checked) false (wit os) argv rfl (by kernel_rfl) (by kernel_rfl) (by kernel_rfl)
      (OpenSpec.preRow_of_cond 8 hx (by kernel_rfl) (fun k hk => by cases hk) (by kernel_rfl) laid_met)) ?_
  intro W base args ds gs before hval hW _ _ _ hL _ _
  exact contract H enc W args ds gs before hval hW
theorem said : Rows.HorseTurnedSaid :=
  OpenClaim.holds_of_cond 10 Try.f10 rfl rfl rfl rfl rfl rfl rfl ⟨rfl, rfl, rfl, rfl, rfl⟩ rfl rfl rfl rfl rfl (by kernel_rfl) Try.func10 (by kernel_rfl)
    (of_decide_eq_true (by kernel_rfl)) (by unfold Func.isWrapper; first | (rw [if_pos (by decide +kernel)]; kernel_rfl) | (rw [if_neg (by decide +kernel)]; exact ⟨rfl, rfl⟩))
    (fun os started H enc _ F => by rw [OpenClaim.pre_eq_preRow]; exact lifted os started H enc F)
end Go.Proofs.Ytamfplmmfbbabaa.horseTurned
namespace Go.Proofs.Ytamfplmmfbbabaa
theorem horseTurned_said : Rows.HorseTurnedSaid := horseTurned.said
end Go.Proofs.Ytamfplmmfbbabaa

