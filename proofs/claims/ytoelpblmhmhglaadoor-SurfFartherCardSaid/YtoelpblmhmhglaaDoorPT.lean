/- package surf: SurfEnough, of surfs of which slices are nil. -/
import Derived.Test.YtoelpblmhmhglaaDoorPS
import Derived.Test.YtoelpblmhmhglaaDoorPH
set_option maxRecDepth 100000
namespace Go.Ab
open Go Go.RowKit Go.Proofs
theorem f23n (rw st : Int) (c1 m cu : Nat) (hut : Nat) (u : Nat → Hut) (R : ARes → Prop) : (vx.call 23 [su_n rw st c1 m cu, I hut] (retK R) (mH (huL m u)) ((25, .con (C20n rw st c1 m cu (huL m u) true)) :: (29, .val (.bool true)) :: (12, .val (.pointer (some ⟨4, 0 + hut * 3, none⟩))) :: (0, .val (.agg ⟨[I (u hut).fl, I (u hut).br, I (u hut).row]⟩)) :: (1, .again) :: (17, .again) :: (61, .val (I (IntKind.i64.wrap ((1 : Int) * (2 : Int) ^ (↑(u hut).row : Int).toNat)))) :: (23, .val (.bool false)) :: (9, .val (.bool false)) :: [])) =
(CA 79 (C20n rw st c1 m cu (huL m u) true) ⟨⟨[I rw, I st], [⟨m, cu⟩]⟩, [huL m u]⟩ <|
((OT (decide ((hut : Int) ≤ IntKind.i64.wrap ((m : Int) - (1 : Int)))) true) ∧
(((((0 : Int) ≤ hut) ∧ ((hut : Int) < m)) ∧ (VR (.pointer (some ⟨4, 0 + hut * 3, none⟩)))) ∧
((HR hut m u) ∧
(((HR hut m u) ∧ (SV 4 m cu)) ∧
(((((6 : Nat) ≤ (6 : Nat)) ∧ (((.agg ⟨[I rw, I st, .slice .none (0 : Nat) (0 : Nat), .slice .none (0 : Nat) (0 : Nat), .slice (.some ⟨(4 : Nat), (0 : Nat), .none⟩) m cu, .map (.some (14 : Nat))]⟩) : Value) = (.agg ⟨[I rw, I st, .slice .none (0 : Nat) (0 : Nat), .slice .none (0 : Nat) (0 : Nat), .slice (.some ⟨(4 : Nat), (0 : Nat), .none⟩) m cu, .map (.some (14 : Nat))]⟩))) ∧ True) ∧
((PW (u hut).row) ∧
((OT (IntKind.i64.wrap ((1 : Int) * (2 : Int) ^ (↑(u hut).row : Int).toNat) == IntKind.i64.wrap ((1 : Int) * (2 : Int) ^ (6 : Nat))) false) ∧
(((some (.bool (bits BinOp.and IntKind.i64 (IntKind.i64.wrap ((1 : Int) * (2 : Int) ^ (↑(u hut).row : Int).toNat) / (2 : Int) ^ (6 : Nat)) (1 : Int) == (1 : Int))) : Option Value) = some (.bool false)) ∧
R (.ret (.tuple ⟨[I 0, I 0]⟩))))))))))) := by kernel_rfl
theorem f24n (rw st : Int) (c1 m cu : Nat) (hut : Nat) (u : Nat → Hut) (R : ARes → Prop) : (vx.call 24 [su_n rw st c1 m cu, I hut] (retK R) (mH (huL m u)) ((25, .con (C20n rw st c1 m cu (huL m u) true)) :: (29, .val (.bool true)) :: (12, .val (.pointer (some ⟨4, 0 + hut * 3, none⟩))) :: (0, .val (.agg ⟨[I (u hut).fl, I (u hut).br, I (u hut).row]⟩)) :: (1, .again) :: (17, .again) :: (66, .val (I (IntKind.i64.wrap ((1 : Int) * (2 : Int) ^ (↑(u hut).row : Int).toNat)))) :: (32, .again) :: (16, .val (I (IntKind.i64.wrap ((1 : Int) * (2 : Int) ^ (↑(u hut).row : Int).toNat)))) :: [])) =
(CA 79 (C20n rw st c1 m cu (huL m u) true) ⟨⟨[I rw, I st], [⟨m, cu⟩]⟩, [huL m u]⟩ <|
((OT (decide ((hut : Int) ≤ IntKind.i64.wrap ((m : Int) - (1 : Int)))) true) ∧
(((((0 : Int) ≤ hut) ∧ ((hut : Int) < m)) ∧ (VR (.pointer (some ⟨4, 0 + hut * 3, none⟩)))) ∧
((HR hut m u) ∧
(((HR hut m u) ∧ (SV 4 m cu)) ∧
(((((6 : Nat) ≤ (6 : Nat)) ∧ (((.agg ⟨[I rw, I st, .slice .none (0 : Nat) (0 : Nat), .slice .none (0 : Nat) (0 : Nat), .slice (.some ⟨(4 : Nat), (0 : Nat), .none⟩) m cu, .map (.some (14 : Nat))]⟩) : Value) = (.agg ⟨[I rw, I st, .slice .none (0 : Nat) (0 : Nat), .slice .none (0 : Nat) (0 : Nat), .slice (.some ⟨(4 : Nat), (0 : Nat), .none⟩) m cu, .map (.some (14 : Nat))]⟩))) ∧ True) ∧
((PW (u hut).row) ∧
(((((3 : Nat) ≤ (3 : Nat)) ∧ (((.agg ⟨[I 0, I (u hut).br, I (u hut).row]⟩) : Value) = (.agg ⟨[I 0, I (u hut).br, I (u hut).row]⟩))) ∧ ((((6 : Nat) ≤ (6 : Nat)) ∧ (((.agg ⟨[I rw, I st, .slice .none (0 : Nat) (0 : Nat), .slice .none (0 : Nat) (0 : Nat), .slice (.some ⟨(4 : Nat), (0 : Nat), .none⟩) m cu, .map (.some (14 : Nat))]⟩) : Value) = (.agg ⟨[I rw, I st, .slice .none (0 : Nat) (0 : Nat), .slice .none (0 : Nat) (0 : Nat), .slice (.some ⟨(4 : Nat), (0 : Nat), .none⟩) m cu, .map (.some (14 : Nat))]⟩))) ∧ True)) ∧
((PW (u hut).row) ∧
R (.ret (.tuple ⟨[I 0, I 0]⟩))))))))))) := by kernel_rfl
theorem f23v (rw st : Int) (c1 m cu : Nat) (hut : Nat) (u : Nat → Hut) (R : ARes → Prop) : (vx.call 23 [su_v rw st c1 m cu, I hut] (retK R) (mH (huL m u)) ((25, .con (C20v rw st c1 m cu (huL m u) true)) :: (29, .val (.bool true)) :: (12, .val (.pointer (some ⟨4, 0 + hut * 3, none⟩))) :: (0, .val (.agg ⟨[I (u hut).fl, I (u hut).br, I (u hut).row]⟩)) :: (1, .again) :: (17, .again) :: (61, .val (I (IntKind.i64.wrap ((1 : Int) * (2 : Int) ^ (↑(u hut).row : Int).toNat)))) :: (23, .val (.bool false)) :: (9, .val (.bool false)) :: [])) =
(CA 79 (C20v rw st c1 m cu (huL m u) true) ⟨⟨[I rw, I st], [⟨(0 : Nat), c1⟩, ⟨m, cu⟩]⟩, [huL m u]⟩ <|
((OT (decide ((hut : Int) ≤ IntKind.i64.wrap ((m : Int) - (1 : Int)))) true) ∧
(((((0 : Int) ≤ hut) ∧ ((hut : Int) < m)) ∧ (VR (.pointer (some ⟨4, 0 + hut * 3, none⟩)))) ∧
((HR hut m u) ∧
(((HR hut m u) ∧ (SV 4 m cu)) ∧
(((((6 : Nat) ≤ (6 : Nat)) ∧ (((.agg ⟨[I rw, I st, .slice .none (0 : Nat) (0 : Nat), .slice (.some ⟨(3 : Nat), (0 : Nat), .none⟩) (0 : Nat) c1, .slice (.some ⟨(4 : Nat), (0 : Nat), .none⟩) m cu, .map (.some (14 : Nat))]⟩) : Value) = (.agg ⟨[I rw, I st, .slice .none (0 : Nat) (0 : Nat), .slice (.some ⟨(3 : Nat), (0 : Nat), .none⟩) (0 : Nat) c1, .slice (.some ⟨(4 : Nat), (0 : Nat), .none⟩) m cu, .map (.some (14 : Nat))]⟩))) ∧ True) ∧
((PW (u hut).row) ∧
((OT (IntKind.i64.wrap ((1 : Int) * (2 : Int) ^ (↑(u hut).row : Int).toNat) == IntKind.i64.wrap ((1 : Int) * (2 : Int) ^ (6 : Nat))) false) ∧
(((some (.bool (bits BinOp.and IntKind.i64 (IntKind.i64.wrap ((1 : Int) * (2 : Int) ^ (↑(u hut).row : Int).toNat) / (2 : Int) ^ (6 : Nat)) (1 : Int) == (1 : Int))) : Option Value) = some (.bool false)) ∧
R (.ret (.tuple ⟨[I 0, I 0]⟩))))))))))) := by kernel_rfl
theorem f24v (rw st : Int) (c1 m cu : Nat) (hut : Nat) (u : Nat → Hut) (R : ARes → Prop) : (vx.call 24 [su_v rw st c1 m cu, I hut] (retK R) (mH (huL m u)) ((25, .con (C20v rw st c1 m cu (huL m u) true)) :: (29, .val (.bool true)) :: (12, .val (.pointer (some ⟨4, 0 + hut * 3, none⟩))) :: (0, .val (.agg ⟨[I (u hut).fl, I (u hut).br, I (u hut).row]⟩)) :: (1, .again) :: (17, .again) :: (66, .val (I (IntKind.i64.wrap ((1 : Int) * (2 : Int) ^ (↑(u hut).row : Int).toNat)))) :: (32, .again) :: (16, .val (I (IntKind.i64.wrap ((1 : Int) * (2 : Int) ^ (↑(u hut).row : Int).toNat)))) :: [])) =
(CA 79 (C20v rw st c1 m cu (huL m u) true) ⟨⟨[I rw, I st], [⟨(0 : Nat), c1⟩, ⟨m, cu⟩]⟩, [huL m u]⟩ <|
((OT (decide ((hut : Int) ≤ IntKind.i64.wrap ((m : Int) - (1 : Int)))) true) ∧
(((((0 : Int) ≤ hut) ∧ ((hut : Int) < m)) ∧ (VR (.pointer (some ⟨4, 0 + hut * 3, none⟩)))) ∧
((HR hut m u) ∧
(((HR hut m u) ∧ (SV 4 m cu)) ∧
(((((6 : Nat) ≤ (6 : Nat)) ∧ (((.agg ⟨[I rw, I st, .slice .none (0 : Nat) (0 : Nat), .slice (.some ⟨(3 : Nat), (0 : Nat), .none⟩) (0 : Nat) c1, .slice (.some ⟨(4 : Nat), (0 : Nat), .none⟩) m cu, .map (.some (14 : Nat))]⟩) : Value) = (.agg ⟨[I rw, I st, .slice .none (0 : Nat) (0 : Nat), .slice (.some ⟨(3 : Nat), (0 : Nat), .none⟩) (0 : Nat) c1, .slice (.some ⟨(4 : Nat), (0 : Nat), .none⟩) m cu, .map (.some (14 : Nat))]⟩))) ∧ True) ∧
((PW (u hut).row) ∧
(((((3 : Nat) ≤ (3 : Nat)) ∧ (((.agg ⟨[I 0, I (u hut).br, I (u hut).row]⟩) : Value) = (.agg ⟨[I 0, I (u hut).br, I (u hut).row]⟩))) ∧ ((((6 : Nat) ≤ (6 : Nat)) ∧ (((.agg ⟨[I rw, I st, .slice .none (0 : Nat) (0 : Nat), .slice (.some ⟨(3 : Nat), (0 : Nat), .none⟩) (0 : Nat) c1, .slice (.some ⟨(4 : Nat), (0 : Nat), .none⟩) m cu, .map (.some (14 : Nat))]⟩) : Value) = (.agg ⟨[I rw, I st, .slice .none (0 : Nat) (0 : Nat), .slice (.some ⟨(3 : Nat), (0 : Nat), .none⟩) (0 : Nat) c1, .slice (.some ⟨(4 : Nat), (0 : Nat), .none⟩) m cu, .map (.some (14 : Nat))]⟩))) ∧ True)) ∧
((PW (u hut).row) ∧
R (.ret (.tuple ⟨[I 0, I 0]⟩))))))))))) := by kernel_rfl
theorem f23w (rw st : Int) (c1 m cu : Nat) (hut : Nat) (u : Nat → Hut) (R : ARes → Prop) : (vx.call 23 [su_w rw st c1 m cu, I hut] (retK R) (mH (huL m u)) ((25, .con (C20w rw st c1 m cu (huL m u) true)) :: (29, .val (.bool true)) :: (12, .val (.pointer (some ⟨4, 0 + hut * 3, none⟩))) :: (0, .val (.agg ⟨[I (u hut).fl, I (u hut).br, I (u hut).row]⟩)) :: (1, .again) :: (17, .again) :: (61, .val (I (IntKind.i64.wrap ((1 : Int) * (2 : Int) ^ (↑(u hut).row : Int).toNat)))) :: (14, .again) :: (8, .val (.bool false)) :: (9, .val (.bool false)) :: [])) =
(CA 79 (C20w rw st c1 m cu (huL m u) true) ⟨⟨[I rw, I st], [⟨(0 : Nat), c1⟩, ⟨m, cu⟩]⟩, [huL m u]⟩ <|
((OT (decide ((hut : Int) ≤ IntKind.i64.wrap ((m : Int) - (1 : Int)))) true) ∧
(((((0 : Int) ≤ hut) ∧ ((hut : Int) < m)) ∧ (VR (.pointer (some ⟨4, 0 + hut * 3, none⟩)))) ∧
((HR hut m u) ∧
(((HR hut m u) ∧ (SV 4 m cu)) ∧
(((((6 : Nat) ≤ (6 : Nat)) ∧ (((.agg ⟨[I rw, I st, .slice (.some ⟨(2 : Nat), (0 : Nat), .none⟩) (0 : Nat) c1, .slice .none (0 : Nat) (0 : Nat), .slice (.some ⟨(4 : Nat), (0 : Nat), .none⟩) m cu, .map (.some (14 : Nat))]⟩) : Value) = (.agg ⟨[I rw, I st, .slice (.some ⟨(2 : Nat), (0 : Nat), .none⟩) (0 : Nat) c1, .slice .none (0 : Nat) (0 : Nat), .slice (.some ⟨(4 : Nat), (0 : Nat), .none⟩) m cu, .map (.some (14 : Nat))]⟩))) ∧ True) ∧
((PW (u hut).row) ∧
((((some (I (↑(0 : Nat) : Int)) : Option Value) = some (I (↑(0 : Nat) : Int))) ∧ (((some (.slice (.some ⟨(2 : Nat), (0 : Nat), .none⟩) (0 : Nat) c1) : Option Value) = some (.slice (.some ⟨(2 : Nat), (0 : Nat), .none⟩) (0 : Nat) c1)) ∧ True)) ∧
((OT (IntKind.i64.wrap ((1 : Int) * (2 : Int) ^ (↑(u hut).row : Int).toNat) == IntKind.i64.wrap ((1 : Int) * (2 : Int) ^ (6 : Nat))) false) ∧
(((some (.bool (bits BinOp.and IntKind.i64 (IntKind.i64.wrap ((1 : Int) * (2 : Int) ^ (↑(u hut).row : Int).toNat) / (2 : Int) ^ (6 : Nat)) (1 : Int) == (1 : Int))) : Option Value) = some (.bool false)) ∧
R (.ret (.tuple ⟨[I 0, I 0]⟩)))))))))))) := by kernel_rfl
theorem f24w (rw st : Int) (c1 m cu : Nat) (hut : Nat) (u : Nat → Hut) (R : ARes → Prop) : (vx.call 24 [su_w rw st c1 m cu, I hut] (retK R) (mH (huL m u)) ((25, .con (C20w rw st c1 m cu (huL m u) true)) :: (29, .val (.bool true)) :: (12, .val (.pointer (some ⟨4, 0 + hut * 3, none⟩))) :: (0, .val (.agg ⟨[I (u hut).fl, I (u hut).br, I (u hut).row]⟩)) :: (1, .again) :: (17, .again) :: (66, .val (I (IntKind.i64.wrap ((1 : Int) * (2 : Int) ^ (↑(u hut).row : Int).toNat)))) :: (32, .again) :: (16, .val (I (IntKind.i64.wrap ((1 : Int) * (2 : Int) ^ (↑(u hut).row : Int).toNat)))) :: [])) =
(CA 79 (C20w rw st c1 m cu (huL m u) true) ⟨⟨[I rw, I st], [⟨(0 : Nat), c1⟩, ⟨m, cu⟩]⟩, [huL m u]⟩ <|
((OT (decide ((hut : Int) ≤ IntKind.i64.wrap ((m : Int) - (1 : Int)))) true) ∧
(((((0 : Int) ≤ hut) ∧ ((hut : Int) < m)) ∧ (VR (.pointer (some ⟨4, 0 + hut * 3, none⟩)))) ∧
((HR hut m u) ∧
(((HR hut m u) ∧ (SV 4 m cu)) ∧
(((((6 : Nat) ≤ (6 : Nat)) ∧ (((.agg ⟨[I rw, I st, .slice (.some ⟨(2 : Nat), (0 : Nat), .none⟩) (0 : Nat) c1, .slice .none (0 : Nat) (0 : Nat), .slice (.some ⟨(4 : Nat), (0 : Nat), .none⟩) m cu, .map (.some (14 : Nat))]⟩) : Value) = (.agg ⟨[I rw, I st, .slice (.some ⟨(2 : Nat), (0 : Nat), .none⟩) (0 : Nat) c1, .slice .none (0 : Nat) (0 : Nat), .slice (.some ⟨(4 : Nat), (0 : Nat), .none⟩) m cu, .map (.some (14 : Nat))]⟩))) ∧ True) ∧
((PW (u hut).row) ∧
(((((3 : Nat) ≤ (3 : Nat)) ∧ (((.agg ⟨[I 0, I (u hut).br, I (u hut).row]⟩) : Value) = (.agg ⟨[I 0, I (u hut).br, I (u hut).row]⟩))) ∧ ((((6 : Nat) ≤ (6 : Nat)) ∧ (((.agg ⟨[I rw, I st, .slice (.some ⟨(2 : Nat), (0 : Nat), .none⟩) (0 : Nat) c1, .slice .none (0 : Nat) (0 : Nat), .slice (.some ⟨(4 : Nat), (0 : Nat), .none⟩) m cu, .map (.some (14 : Nat))]⟩) : Value) = (.agg ⟨[I rw, I st, .slice (.some ⟨(2 : Nat), (0 : Nat), .none⟩) (0 : Nat) c1, .slice .none (0 : Nat) (0 : Nat), .slice (.some ⟨(4 : Nat), (0 : Nat), .none⟩) m cu, .map (.some (14 : Nat))]⟩))) ∧ True)) ∧
((PW (u hut).row) ∧
R (.ret (.tuple ⟨[I 0, I 0]⟩))))))))))) := by kernel_rfl
section
variable {rw st : Int} {c1 m cu hut : Nat} {u : Nat → Hut} {g : Nat → Int}
theorem C24n_ok (hrw : 1 ≤ rw ∧ rw ≤ 6) (hst : 0 ≤ st ∧ st ≤ 4) (hU : HUK rw m u) (hh : hut < m) : ConOK Tryd.prog 24 (CSn rw st c1 m cu (huL m u) hut (.tuple ⟨[I 0, I 0]⟩)) := by
 obtain ⟨u0, u1, u2, u3, u4⟩ := hU.u hut hh
 have h5 := hU.m5
 have pu := huL_part u hh
 have lu := huL_len m u
 have e : IntKind.i64.wrap ((m : Int) - 1) = (m : Int) - 1 := wrapI (by omega) (by omega)
 refine con_of vx_sound ⟨⟨[I rw, I st, I hut], [(m, cu)]⟩, [huL m u]⟩ (fun y hy => ?_) rfl (fun y _ => rfl) (fun y hy => ?_) rfl (Nat.le_of_ble_eq_true rfl) (by rw [nglob]; exact Nat.le_of_ble_eq_true rfl)
 · cases hy
   refine ⟨_, (f24n rw st c1 m cu hut u _).mpr ?_⟩
   rw [e]
   exact ⟨C79n_ok (c1 := c1) hrw hst hU, rfl, tt (decide_eq_true (by omega)), ⟨⟨by omega, by omega⟩, rfl⟩, ⟨by rw [lu]; omega, by rw [pu]; rfl⟩, ⟨⟨by rw [lu]; omega, by rw [pu]; rfl⟩, rfl, trivial⟩, ⟨⟨Nat.le_refl _, rfl⟩, trivial⟩, ⟨⟨by omega, by omega⟩, rfl⟩, ⟨⟨Nat.le_refl _, rfl⟩, ⟨Nat.le_refl _, rfl⟩, trivial⟩, ⟨⟨by omega, by omega⟩, rfl⟩, rfl⟩
 · cases hy
   exact at1h
theorem C23n_ok (hrw : 1 ≤ rw ∧ rw ≤ 6) (hst : 0 ≤ st ∧ st ≤ 4) (hU : HUK rw m u) (hh : hut < m) : ConOK Tryd.prog 23 (CSn rw st c1 m cu (huL m u) hut (.tuple ⟨[I 0, I 0]⟩)) := by
 obtain ⟨u0, u1, u2, u3, u4⟩ := hU.u hut hh
 have h5 := hU.m5
 have pu := huL_part u hh
 have lu := huL_len m u
 have e : IntKind.i64.wrap ((m : Int) - 1) = (m : Int) - 1 := wrapI (by omega) (by omega)
 refine con_of vx_sound ⟨⟨[I rw, I st, I hut], [(m, cu)]⟩, [huL m u]⟩ (fun y hy => ?_) rfl (fun y _ => rfl) (fun y hy => ?_) rfl (Nat.le_of_ble_eq_true rfl) (by rw [nglob]; exact Nat.le_of_ble_eq_true rfl)
 · cases hy
   obtain ⟨e1, e2⟩ := los_eq (c := 2 ^ (u hut).row) (pow_lt7 (by omega))
   have l1 := e1.trans (decide_eq_false (pow_not64 (show (u hut).row < 6 by omega)))
   have l2 := e2.trans (show (2 ^ (u hut).row).testBit 6 = false by rw [Nat.testBit_two_pow, decide_eq_false (by omega)])
   rw [← one_cast (show (u hut).row ≤ 6 by omega)] at l1 l2
   refine ⟨_, (f23n rw st c1 m cu hut u _).mpr ?_⟩
   rw [e]
   exact ⟨C79n_ok (c1 := c1) hrw hst hU, rfl, tt (decide_eq_true (by omega)), ⟨⟨by omega, by omega⟩, rfl⟩, ⟨by rw [lu]; omega, by rw [pu]; rfl⟩, ⟨⟨by rw [lu]; omega, by rw [pu]; rfl⟩, rfl, trivial⟩, ⟨⟨Nat.le_refl _, rfl⟩, trivial⟩, ⟨⟨by omega, by omega⟩, rfl⟩, tf l1, tf l2, rfl⟩
 · cases hy
   exact at1h
theorem C24v_ok (hrw : 1 ≤ rw ∧ rw ≤ 6) (hst : 0 ≤ st ∧ st ≤ 4) (hU : HUK rw m u) (hh : hut < m) : ConOK Tryd.prog 24 (CSv rw st c1 m cu (huL m u) hut (.tuple ⟨[I 0, I 0]⟩)) := by
 obtain ⟨u0, u1, u2, u3, u4⟩ := hU.u hut hh
 have h5 := hU.m5
 have pu := huL_part u hh
 have lu := huL_len m u
 have e : IntKind.i64.wrap ((m : Int) - 1) = (m : Int) - 1 := wrapI (by omega) (by omega)
 refine con_of vx_sound ⟨⟨[I rw, I st, I hut], [(0, c1), (m, cu)]⟩, [huL m u]⟩ (fun y hy => ?_) rfl (fun y _ => rfl) (fun y hy => ?_) rfl (Nat.le_of_ble_eq_true rfl) (by rw [nglob]; exact Nat.le_of_ble_eq_true rfl)
 · cases hy
   refine ⟨_, (f24v rw st c1 m cu hut u _).mpr ?_⟩
   rw [e]
   exact ⟨C79v_ok (c1 := c1) hrw hst hU, rfl, tt (decide_eq_true (by omega)), ⟨⟨by omega, by omega⟩, rfl⟩, ⟨by rw [lu]; omega, by rw [pu]; rfl⟩, ⟨⟨by rw [lu]; omega, by rw [pu]; rfl⟩, rfl, trivial⟩, ⟨⟨Nat.le_refl _, rfl⟩, trivial⟩, ⟨⟨by omega, by omega⟩, rfl⟩, ⟨⟨Nat.le_refl _, rfl⟩, ⟨Nat.le_refl _, rfl⟩, trivial⟩, ⟨⟨by omega, by omega⟩, rfl⟩, rfl⟩
 · cases hy
   exact at1h
theorem C23v_ok (hrw : 1 ≤ rw ∧ rw ≤ 6) (hst : 0 ≤ st ∧ st ≤ 4) (hU : HUK rw m u) (hh : hut < m) : ConOK Tryd.prog 23 (CSv rw st c1 m cu (huL m u) hut (.tuple ⟨[I 0, I 0]⟩)) := by
 obtain ⟨u0, u1, u2, u3, u4⟩ := hU.u hut hh
 have h5 := hU.m5
 have pu := huL_part u hh
 have lu := huL_len m u
 have e : IntKind.i64.wrap ((m : Int) - 1) = (m : Int) - 1 := wrapI (by omega) (by omega)
 refine con_of vx_sound ⟨⟨[I rw, I st, I hut], [(0, c1), (m, cu)]⟩, [huL m u]⟩ (fun y hy => ?_) rfl (fun y _ => rfl) (fun y hy => ?_) rfl (Nat.le_of_ble_eq_true rfl) (by rw [nglob]; exact Nat.le_of_ble_eq_true rfl)
 · cases hy
   obtain ⟨e1, e2⟩ := los_eq (c := 2 ^ (u hut).row) (pow_lt7 (by omega))
   have l1 := e1.trans (decide_eq_false (pow_not64 (show (u hut).row < 6 by omega)))
   have l2 := e2.trans (show (2 ^ (u hut).row).testBit 6 = false by rw [Nat.testBit_two_pow, decide_eq_false (by omega)])
   rw [← one_cast (show (u hut).row ≤ 6 by omega)] at l1 l2
   refine ⟨_, (f23v rw st c1 m cu hut u _).mpr ?_⟩
   rw [e]
   exact ⟨C79v_ok (c1 := c1) hrw hst hU, rfl, tt (decide_eq_true (by omega)), ⟨⟨by omega, by omega⟩, rfl⟩, ⟨by rw [lu]; omega, by rw [pu]; rfl⟩, ⟨⟨by rw [lu]; omega, by rw [pu]; rfl⟩, rfl, trivial⟩, ⟨⟨Nat.le_refl _, rfl⟩, trivial⟩, ⟨⟨by omega, by omega⟩, rfl⟩, tf l1, tf l2, rfl⟩
 · cases hy
   exact at1h
theorem C24w_ok (hrw : 1 ≤ rw ∧ rw ≤ 6) (hst : 0 ≤ st ∧ st ≤ 4) (hU : HUK rw m u) (hh : hut < m) : ConOK Tryd.prog 24 (CSw rw st c1 m cu (huL m u) hut (.tuple ⟨[I 0, I 0]⟩)) := by
 obtain ⟨u0, u1, u2, u3, u4⟩ := hU.u hut hh
 have h5 := hU.m5
 have pu := huL_part u hh
 have lu := huL_len m u
 have e : IntKind.i64.wrap ((m : Int) - 1) = (m : Int) - 1 := wrapI (by omega) (by omega)
 refine con_of vx_sound ⟨⟨[I rw, I st, I hut], [(0, c1), (m, cu)]⟩, [huL m u]⟩ (fun y hy => ?_) rfl (fun y _ => rfl) (fun y hy => ?_) rfl (Nat.le_of_ble_eq_true rfl) (by rw [nglob]; exact Nat.le_of_ble_eq_true rfl)
 · cases hy
   refine ⟨_, (f24w rw st c1 m cu hut u _).mpr ?_⟩
   rw [e]
   exact ⟨C79w_ok (c1 := c1) hrw hst hU, rfl, tt (decide_eq_true (by omega)), ⟨⟨by omega, by omega⟩, rfl⟩, ⟨by rw [lu]; omega, by rw [pu]; rfl⟩, ⟨⟨by rw [lu]; omega, by rw [pu]; rfl⟩, rfl, trivial⟩, ⟨⟨Nat.le_refl _, rfl⟩, trivial⟩, ⟨⟨by omega, by omega⟩, rfl⟩, ⟨⟨Nat.le_refl _, rfl⟩, ⟨Nat.le_refl _, rfl⟩, trivial⟩, ⟨⟨by omega, by omega⟩, rfl⟩, rfl⟩
 · cases hy
   exact at1h
theorem C23w_ok (hrw : 1 ≤ rw ∧ rw ≤ 6) (hst : 0 ≤ st ∧ st ≤ 4) (hU : HUK rw m u) (hh : hut < m) : ConOK Tryd.prog 23 (CSw rw st c1 m cu (huL m u) hut (.tuple ⟨[I 0, I 0]⟩)) := by
 obtain ⟨u0, u1, u2, u3, u4⟩ := hU.u hut hh
 have h5 := hU.m5
 have pu := huL_part u hh
 have lu := huL_len m u
 have e : IntKind.i64.wrap ((m : Int) - 1) = (m : Int) - 1 := wrapI (by omega) (by omega)
 refine con_of vx_sound ⟨⟨[I rw, I st, I hut], [(0, c1), (m, cu)]⟩, [huL m u]⟩ (fun y hy => ?_) rfl (fun y _ => rfl) (fun y hy => ?_) rfl (Nat.le_of_ble_eq_true rfl) (by rw [nglob]; exact Nat.le_of_ble_eq_true rfl)
 · cases hy
   obtain ⟨e1, e2⟩ := los_eq (c := 2 ^ (u hut).row) (pow_lt7 (by omega))
   have l1 := e1.trans (decide_eq_false (pow_not64 (show (u hut).row < 6 by omega)))
   have l2 := e2.trans (show (2 ^ (u hut).row).testBit 6 = false by rw [Nat.testBit_two_pow, decide_eq_false (by omega)])
   rw [← one_cast (show (u hut).row ≤ 6 by omega)] at l1 l2
   refine ⟨_, (f23w rw st c1 m cu hut u _).mpr ?_⟩
   rw [e]
   exact ⟨C79w_ok (c1 := c1) hrw hst hU, rfl, tt (decide_eq_true (by omega)), ⟨⟨by omega, by omega⟩, rfl⟩, ⟨by rw [lu]; omega, by rw [pu]; rfl⟩, ⟨⟨by rw [lu]; omega, by rw [pu]; rfl⟩, rfl, trivial⟩, ⟨⟨Nat.le_refl _, rfl⟩, trivial⟩, ⟨⟨by omega, by omega⟩, rfl⟩, ⟨rfl, rfl, trivial⟩, tf l1, tf l2, rfl⟩
 · cases hy
   exact at1h
end
end Go.Ab
