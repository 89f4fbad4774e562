/- package surf: what is none is refused. -/
import Derived.Test.YtoelpblmhmhglaaDoorNJ
import Derived.Test.YtoelpblmhmhglaaDoorNK
import Derived.Test.YtoelpblmhmhglaaDoorNM
set_option maxRecDepth 100000
namespace Go.Ab
open Go Go.RowKit Go.Proofs
theorem f15E (rw : Nat) (st : Int) (n cw cv m cu : Nat) (ws vs us : List Value) (R : ARes → Prop) : (vx.call 15 [suV rw st n cw cv m cu, I m] (retK R) (mSd ws vs us) ((25, .con (C20 rw st n cw n cv m cu ws vs us true)) :: (29, .val (.bool false)) :: [])) =
(((ConOK Tryd.prog 79 (C20 rw st n cw n cv m cu ws vs us true)) ∧ (Con.pre (C20 rw st n cw n cv m cu ws vs us true) ⟨⟨[(I rw), (I st)], [⟨n, cw⟩, ⟨n, cv⟩, ⟨m, cu⟩]⟩, [(ws), (vs), (us)]⟩) ∧
((((some (.bool (decide ((m : Int) ≤ IntKind.i64.wrap ((m : Int) - (1 : Int))))) : Option Value) = some (.bool false))) ∧
R (.ret (.tuple ⟨[(I 0), (I 2)]⟩))))) := by kernel_rfl
theorem f18Ea (rw : Nat) (st : Int) (n cw cv m cu : Nat) (ws vs us : List Value) (R : ARes → Prop) : (vx.call 18 [suV rw st n cw cv m cu, I n, I 0] (retK R) (mSd ws vs us) ((20, .con (C20 rw st n cw n cv m cu ws vs us true)) :: (29, .val (.bool false)) :: [])) =
(((ConOK Tryd.prog 79 (C20 rw st n cw n cv m cu ws vs us true)) ∧ (Con.pre (C20 rw st n cw n cv m cu ws vs us true) ⟨⟨[(I rw), (I st)], [⟨n, cw⟩, ⟨n, cv⟩, ⟨m, cu⟩]⟩, [(ws), (vs), (us)]⟩) ∧
((((some (.bool (decide ((n : Int) ≤ IntKind.i64.wrap ((n : Int) - (1 : Int))))) : Option Value) = some (.bool false))) ∧
R (.ret (.tuple ⟨[(.agg ⟨[(I 0), (I 0)]⟩), (I 2)]⟩))))) := by kernel_rfl
theorem f18Eb (rw : Nat) (st : Int) (n cw cv m cu : Nat) (ws vs us : List Value) (R : ARes → Prop) : (vx.call 18 [suV rw st n cw cv m cu, I 0, I rw] (retK R) (mSd ws vs us) ((20, .con (C20 rw st n cw n cv m cu ws vs us true)) :: [(29, .split ((22, .val (.bool false)) :: []) ([]))])) =
(((ConOK Tryd.prog 79 (C20 rw st n cw n cv m cu ws vs us true)) ∧ (Con.pre (C20 rw st n cw n cv m cu ws vs us true) ⟨⟨[(I rw), (I st)], [⟨n, cw⟩, ⟨n, cv⟩, ⟨m, cu⟩]⟩, [(ws), (vs), (us)]⟩) ∧
(((decide ((0 : Int) ≤ IntKind.i64.wrap ((n : Int) - (1 : Int)))) = true → ((((some (.bool (decide ((rw : Int) ≤ IntKind.i64.wrap ((rw : Int) - (1 : Int))))) : Option Value) = some (.bool false))) ∧
R (.ret (.tuple ⟨[(.agg ⟨[(I 0), (I 0)]⟩), (I 2)]⟩)))) ∧
((decide ((0 : Int) ≤ IntKind.i64.wrap ((n : Int) - (1 : Int)))) = false → R (.ret (.tuple ⟨[(.agg ⟨[(I 0), (I 0)]⟩), (I 2)]⟩)))))) := by kernel_rfl
theorem f21E (rw : Nat) (st : Int) (n cw cv m cu : Nat) (ws vs us : List Value) (R : ARes → Prop) : (vx.call 21 [suV rw st n cw cv m cu, I 6] (retK R) (mSd ws vs us) ((20, .con (C20 rw st n cw n cv m cu ws vs us true)) :: [])) =
(((ConOK Tryd.prog 79 (C20 rw st n cw n cv m cu ws vs us true)) ∧ (Con.pre (C20 rw st n cw n cv m cu ws vs us true) ⟨⟨[(I rw), (I st)], [⟨n, cw⟩, ⟨n, cv⟩, ⟨m, cu⟩]⟩, [(ws), (vs), (us)]⟩) ∧
R (.ret (.tuple ⟨[(.slice .none ((0 : Nat)) ((0 : Nat))), (I 0), (I 2)]⟩)))) := by kernel_rfl
theorem f15I (rw st : Int) (n cw n2 cv m cu : Nat) (ws vs us : List Value) (R : ARes → Prop) : (vx.call 15 [suR rw st n cw n2 cv m cu, I 0] (retK R) (mSd ws vs us) ((25, .con (C20 rw st n cw n2 cv m cu ws vs us false)) :: [])) =
(((ConOK Tryd.prog 79 (C20 rw st n cw n2 cv m cu ws vs us false)) ∧ (Con.pre (C20 rw st n cw n2 cv m cu ws vs us false) ⟨⟨[(I rw), (I st)], [⟨n, cw⟩, ⟨n2, cv⟩, ⟨m, cu⟩]⟩, [(ws), (vs), (us)]⟩) ∧
R (.ret (.tuple ⟨[(I 0), (I 1)]⟩)))) := by kernel_rfl
theorem f21I (rw st : Int) (n cw n2 cv m cu : Nat) (ws vs us : List Value) (R : ARes → Prop) : (vx.call 21 [suR rw st n cw n2 cv m cu, I 0] (retK R) (mSd ws vs us) ((20, .con (C20 rw st n cw n2 cv m cu ws vs us false)) :: [])) =
(((ConOK Tryd.prog 79 (C20 rw st n cw n2 cv m cu ws vs us false)) ∧ (Con.pre (C20 rw st n cw n2 cv m cu ws vs us false) ⟨⟨[(I rw), (I st)], [⟨n, cw⟩, ⟨n2, cv⟩, ⟨m, cu⟩]⟩, [(ws), (vs), (us)]⟩) ∧
R (.ret (.tuple ⟨[(.slice .none ((0 : Nat)) ((0 : Nat))), (I 0), (I 1)]⟩)))) := by kernel_rfl
section
variable {rw : Nat} {st : Int} {n cw n2 cv m cu : Nat} {w v : Nat → Sp} {u : Nat → Hut} {ur : Nat → Raw}
theorem at3r : Atoms [spL n w, spL n2 v, raL m ur] := by
 intro cs hc
 simp only [List.mem_cons, List.not_mem_nil, or_false] at hc
 rcases hc with rfl | rfl | rfl
 · exact spL_at _ _
 · exact spL_at _ _
 · exact raL_at _ _
theorem c79v (hS : SOK rw st n w v) (hU : HUK rw m u) : ConOK Tryd.prog 79 (C20 rw st n cw n cv m cu (spL n w) (spL n v) (huL m u) true) := by
 have h := C79R_ok (rw := rw) (st := st) (n := n) (cw := cw) (n2 := n) (cv := cv) (m := m) (cu := cu) (w := w) (v := v) (u := rwH u)
 rw [okSu_of hS hU] at h
 exact h
theorem C15E_ok (hS : SOK rw st n w v) (hU : HUK rw m u) : ConOK Tryd.prog 15 (CE1 rw st n cw n cv m cu (spL n w) (spL n v) (huL m u) m (r15 2)) := by
 have h5 := hU.m5
 have e : IntKind.i64.wrap ((m : Int) - 1) = (m : Int) - 1 := wrapI (by omega) (by omega)
 refine con_of vx_sound ⟨⟨[I rw, I st, I m], [(n, cw), (n, cv), (m, cu)]⟩, [spL n w, spL n v, huL m u]⟩ (fun y hy => ?_) rfl (fun y _ => rfl) (fun y hy => ?_) rfl (Nat.le_of_ble_eq_true rfl) (by rw [nglob]; exact Nat.le_of_ble_eq_true rfl)
 · cases hy
   exact ⟨_, (f15E rw st n cw cv m cu (spL n w) (spL n v) (huL m u) _).mpr ⟨c79v hS hU, rfl, tf (by rw [e]; exact decide_eq_false (by omega)), rfl⟩⟩
 · cases hy
   exact at3
theorem C18Ea_ok (hS : SOK rw st n w v) (hU : HUK rw m u) : ConOK Tryd.prog 18 (CE2 rw st n cw n cv m cu (spL n w) (spL n v) (huL m u) n 0 (r18 2)) := by
 have h8 := hS.n8
 have e : IntKind.i64.wrap ((n : Int) - 1) = (n : Int) - 1 := wrapI (by omega) (by omega)
 refine con_of vx_sound ⟨⟨[I rw, I st, I n, I 0], [(n, cw), (n, cv), (m, cu)]⟩, [spL n w, spL n v, huL m u]⟩ (fun y hy => ?_) rfl (fun y _ => rfl) (fun y hy => ?_) rfl (Nat.le_of_ble_eq_true rfl) (by rw [nglob]; exact Nat.le_of_ble_eq_true rfl)
 · cases hy
   exact ⟨_, (f18Ea rw st n cw cv m cu (spL n w) (spL n v) (huL m u) _).mpr ⟨c79v hS hU, rfl, tf (by rw [e]; exact decide_eq_false (by omega)), rfl⟩⟩
 · cases hy
   exact at3
theorem C18Eb_ok (hS : SOK rw st n w v) (hU : HUK rw m u) : ConOK Tryd.prog 18 (CE2 rw st n cw n cv m cu (spL n w) (spL n v) (huL m u) 0 rw (r18 2)) := by
 have h6 := hS.rw6
 have e : IntKind.i64.wrap ((rw : Int) - 1) = (rw : Int) - 1 := wrapI (by omega) (by omega)
 refine con_of vx_sound ⟨⟨[I rw, I st, I 0, I rw], [(n, cw), (n, cv), (m, cu)]⟩, [spL n w, spL n v, huL m u]⟩ (fun y hy => ?_) rfl (fun y _ => rfl) (fun y hy => ?_) rfl (Nat.le_of_ble_eq_true rfl) (by rw [nglob]; exact Nat.le_of_ble_eq_true rfl)
 · cases hy
   exact ⟨_, (f18Eb rw st n cw cv m cu (spL n w) (spL n v) (huL m u) _).mpr ⟨c79v hS hU, rfl, fun _ => ⟨tf (by rw [e]; exact decide_eq_false (by omega)), rfl⟩, fun _ => rfl⟩⟩
 · cases hy
   exact at3
theorem C21E_ok (hS : SOK rw st n w v) (hU : HUK rw m u) : ConOK Tryd.prog 21 (CE1 rw st n cw n cv m cu (spL n w) (spL n v) (huL m u) 6 (r21 2)) := by
 refine con_of vx_sound ⟨⟨[I rw, I st, I 6], [(n, cw), (n, cv), (m, cu)]⟩, [spL n w, spL n v, huL m u]⟩ (fun y hy => ?_) rfl (fun y _ => rfl) (fun y hy => ?_) rfl (Nat.le_of_ble_eq_true rfl) (by rw [nglob]; exact Nat.le_of_ble_eq_true rfl)
 · cases hy
   exact ⟨_, (f21E rw st n cw cv m cu (spL n w) (spL n v) (huL m u) _).mpr ⟨c79v hS hU, rfl, rfl⟩⟩
 · cases hy
   exact at3
end
section
variable {rw st : Int} {n cw n2 cv m cu : Nat} {w v : Nat → Sp} {ur : Nat → Raw}
theorem C15I_ok (hok : okSu rw st n n2 m w v ur = false) : ConOK Tryd.prog 15 (CE1 rw st n cw n2 cv m cu (spL n w) (spL n2 v) (raL m ur) 0 (r15 1)) := by
 have c := C79R_ok (rw := rw) (st := st) (n := n) (cw := cw) (n2 := n2) (cv := cv) (m := m) (cu := cu) (w := w) (v := v) (u := ur)
 rw [hok] at c
 refine con_of vx_sound ⟨⟨[I rw, I st, I 0], [(n, cw), (n2, cv), (m, cu)]⟩, [spL n w, spL n2 v, raL m ur]⟩ (fun y hy => ?_) rfl (fun y _ => rfl) (fun y hy => ?_) rfl (Nat.le_of_ble_eq_true rfl) (by rw [nglob]; exact Nat.le_of_ble_eq_true rfl)
 · cases hy
   exact ⟨_, (f15I rw st n cw n2 cv m cu (spL n w) (spL n2 v) (raL m ur) _).mpr ⟨c, rfl, rfl⟩⟩
 · cases hy
   exact at3r
theorem C21I_ok (hok : okSu rw st n n2 m w v ur = false) : ConOK Tryd.prog 21 (CE1 rw st n cw n2 cv m cu (spL n w) (spL n2 v) (raL m ur) 0 (r21 1)) := by
 have c := C79R_ok (rw := rw) (st := st) (n := n) (cw := cw) (n2 := n2) (cv := cv) (m := m) (cu := cu) (w := w) (v := v) (u := ur)
 rw [hok] at c
 refine con_of vx_sound ⟨⟨[I rw, I st, I 0], [(n, cw), (n2, cv), (m, cu)]⟩, [spL n w, spL n2 v, raL m ur]⟩ (fun y hy => ?_) rfl (fun y _ => rfl) (fun y hy => ?_) rfl (Nat.le_of_ble_eq_true rfl) (by rw [nglob]; exact Nat.le_of_ble_eq_true rfl)
 · cases hy
   exact ⟨_, (f21I rw st n cw n2 cv m cu (spL n w) (spL n2 v) (raL m ur) _).mpr ⟨c, rfl, rfl⟩⟩
 · cases hy
   exact at3r
end
end Go.Ab
