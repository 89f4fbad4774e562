/- package surf: what is returned of surfs of which slices are nil. -/
import Derived.Test.YtoelpblmhmhglaaDoorPE
set_option maxRecDepth 100000
namespace Go.Ab
open Go Go.RowKit Go.Proofs
theorem b20bn (rw st : Int) (c1 m cu : Nat) (i : Nat) (b1 b2 b3 : Bool) (u : Nat → Raw) (R : Nat → AExit → Hw → Prop) : (vx.code none (.l p20b) (leafW [T20bn, R20] R) (T20bn.inst (h20n rw st c1 m cu (raL m u) i)) ([(4, .split ((4, .val (.pointer (some ⟨4, 0 + i * 3, none⟩))) :: (0, .val (.agg ⟨[I (u i).fl, I (u i).br, I ((u i).row)]⟩)) :: (4, .con (C52 (u i).fl 0 40 b1)) :: [(0, .split ([(6, .tm 1 [])]) ((3, .con (C52 (u i).br 0 10 b2)) :: [(0, .split ([(5, .tm 1 [])]) ((7, .con (C52 (u i).row 0 (IntKind.i64.wrap (rw - 1)) b3)) :: [(0, .split ([(3, .tm 1 [])]) ([(5, .tm 0 [])]))]))]))]) ([(1, .tm 0 [])]))])) =
(((decide ((i : Int) < m)) = true → (((((0 : Int) ≤ i) ∧ ((i : Int) < m)) ∧ (VR (.pointer (some ⟨4, 0 + i * 3, none⟩)))) ∧
(((0 + i * 3 + 3 ≤ (raL m u).length) ∧ (((.agg ⟨[I (u i).fl, I (u i).br, I ((u i).row)]⟩) : Value) = (.agg ⟨List.take 3 (List.drop (0 + i * 3) (raL m u))⟩))) ∧
(CA 52 (C52 (u i).fl 0 40 b1) ⟨⟨[I (u i).fl, I 0, I 40], []⟩, []⟩ <|
(((!b1) = true → R (1 : Nat) .ret ⟨⟨[.bool false], []⟩, [], []⟩) ∧
((!b1) = false → (CA 52 (C52 (u i).br 0 10 b2) ⟨⟨[I (u i).br, I 0, I 10], []⟩, []⟩ <|
(((!b2) = true → R (1 : Nat) .ret ⟨⟨[.bool false], []⟩, [], []⟩) ∧
((!b2) = false → (CA 52 (C52 (u i).row 0 (IntKind.i64.wrap (rw - 1)) b3) ⟨⟨[I ((u i).row), I 0, I (IntKind.i64.wrap (rw - (1 : Int)))], []⟩, []⟩ <|
(((!b3) = true → R (1 : Nat) .ret ⟨⟨[.bool false], []⟩, [], []⟩) ∧
((!b3) = false → R (0 : Nat) .normal ⟨⟨[I (IntKind.i64.wrap ((i : Int) + (1 : Int))), I rw, I st], [⟨m, cu⟩]⟩, [raL m u], []⟩)))))))))))) ∧
((decide ((i : Int) < m)) = false → R (0 : Nat) (.exit 2) ⟨⟨[I i, I rw, I st], [⟨m, cu⟩]⟩, [raL m u], []⟩)) := by kernel_rfl
theorem f20tn (rw st : Int) (c1 m cu : Nat) (b1 b2 : Bool) (u : Nat → Raw) (R : ARes → Prop) : (vx.call 20 [su_n rw st c1 m cu] (retK R) (mH (raL m u)) ((5, .con (C52 rw 1 6 b1)) :: [(0, .split ([]) ((3, .con (C52 st 0 4 b2)) :: [(0, .split ([]) ([(20, .split ([]) ((11, .loopW T20bn (.exit 2) T20bn fun _ => h20n rw st c1 m cu (raL m u) m) :: []))]))]))])) =
(CA 52 (C52 rw 1 6 b1) ⟨⟨[I rw, I 1, I 6], []⟩, []⟩ <|
(((!b1) = true → R (.ret (.bool false))) ∧
((!b1) = false → (CA 52 (C52 st 0 4 b2) ⟨⟨[I st, I 0, I 4], []⟩, []⟩ <|
(((!b2) = true → R (.ret (.bool false))) ∧
((!b2) = false → (((decide ((m : Int) > 5)) = true → R (.ret (.bool false))) ∧
((decide ((m : Int) > 5)) = false → (LW p20b T20bn ⟨⟨[I 0, I rw, I st], [⟨m, cu⟩]⟩, [raL m u], []⟩ (.exit 2) T20bn (h20n rw st c1 m cu (raL m u) m) <|
R (.ret (.bool true))))))))))) := by kernel_rfl
theorem f20un (rw st : Int) (c1 m cu : Nat) (b1 b2 : Bool) (u : Nat → Raw) (R : ARes → Prop) : (vx.call 20 [su_n rw st c1 m cu] (retK R) (mH (raL m u)) ((5, .con (C52 rw 1 6 b1)) :: [(0, .split ([]) ((3, .con (C52 st 0 4 b2)) :: [(0, .split ([]) ([(20, .split ([]) ((11, .loopW T20bn AExit.ret R20 fun _ => { hs := { vs := [Value.bool false], ns := [] }, ls := [], es := [] }) :: []))]))]))])) =
(CA 52 (C52 rw 1 6 b1) ⟨⟨[I rw, I 1, I 6], []⟩, []⟩ <|
(((!b1) = true → R (.ret (.bool false))) ∧
((!b1) = false → (CA 52 (C52 st 0 4 b2) ⟨⟨[I st, I 0, I 4], []⟩, []⟩ <|
(((!b2) = true → R (.ret (.bool false))) ∧
((!b2) = false → (((decide ((m : Int) > 5)) = true → R (.ret (.bool false))) ∧
((decide ((m : Int) > 5)) = false → (LW p20b T20bn ⟨⟨[I 0, I rw, I st], [⟨m, cu⟩]⟩, [raL m u], []⟩ .ret R20 ⟨⟨[.bool false], []⟩, [], []⟩ <|
R (.ret (.bool false))))))))))) := by kernel_rfl
theorem b79bn (rw st : Int) (c1 m cu : Nat) (i : Nat) (u : Nat → Hut) (R : Nat → AExit → Hw → Prop) : (vx.code none (.l p79b) (leafW [T79bn] R) (T79bn.inst (h79n rw st c1 m cu (huL m u) i)) ([(0, .split ((1, .val (.pointer (some ⟨4, 0 + i * 3, none⟩))) :: (0, .val (.agg ⟨[I (u i).fl, I (u i).br, I (u i).row]⟩)) :: (8, .val (.bool true)) :: (3, .val (.bool true)) :: (10, .val (.bool true)) :: (3, .val (.bool true)) :: (18, .val (.bool true)) :: [(7, .tm 0 [])]) ([(1, .tm 0 [])]))])) =
(((decide ((i : Int) < m)) = true → (((((0 : Int) ≤ i) ∧ ((i : Int) < m)) ∧ (VR (.pointer (some ⟨4, 0 + i * 3, none⟩)))) ∧
((HR i m u) ∧
((OT (decide ((0 : Int) ≤ (u i).fl)) true) ∧
((OT (decide ((u i).fl ≤ (40 : Int))) true) ∧
((OT (decide ((0 : Int) ≤ (u i).br)) true) ∧
((OT (decide ((u i).br ≤ (10 : Int))) true) ∧
((OT (decide ((↑(u i).row : Int) ≤ IntKind.i64.wrap (rw - (1 : Int)))) true) ∧
R (0 : Nat) .normal ⟨⟨[I m, I (IntKind.i64.wrap ((i : Int) + (1 : Int))), I rw, I st], [⟨m, cu⟩, ⟨m, cu⟩]⟩, [huL m u], []⟩)))))))) ∧
((decide ((i : Int) < m)) = false → R (0 : Nat) (.exit 2) ⟨⟨[I m, I i, I rw, I st], [⟨m, cu⟩, ⟨m, cu⟩]⟩, [huL m u], []⟩)) := by kernel_rfl
theorem f79n (rw st : Int) (c1 m cu : Nat) (u : Nat → Hut) (R : ARes → Prop) : (vx.call 79 [su_n rw st c1 m cu] (retK R) (mH (huL m u)) ((9, .val (.bool true)) :: (3, .val (.bool true)) :: (10, .val (.bool true)) :: (3, .val (.bool true)) :: (22, .val (.bool false)) :: (13, .loopW T79bn (.exit 2) T79bn fun _ => h79n rw st c1 m cu (huL m u) m) :: [])) =
((OT (decide ((1 : Int) ≤ rw)) true) ∧
((OT (decide (rw ≤ (6 : Int))) true) ∧
((OT (decide ((0 : Int) ≤ st)) true) ∧
((OT (decide (st ≤ (4 : Int))) true) ∧
((OT (decide ((m : Int) > 5)) false) ∧
(LW p79b T79bn ⟨⟨[I m, I 0, I rw, I st], [⟨m, cu⟩, ⟨m, cu⟩]⟩, [huL m u], []⟩ (.exit 2) T79bn (h79n rw st c1 m cu (huL m u) m) <|
R (.ret (.bool true)))))))) := by kernel_rfl
theorem f14n (rw st : Int) (c1 m cu : Nat) (hut : Nat) (u : Nat → Hut) (R : ARes → Prop) : (vx.call 14 [su_n rw st c1 m cu, I hut] (retK R) (mH (huL m u)) ((26, .con (C20n rw st c1 m cu (huL m u) true)) :: (29, .val (.bool true)) :: (12, .val (.pointer (some ⟨4, 0 + hut * 3, none⟩))) :: (0, .val (.agg ⟨[I (u hut).fl, I (u hut).br, I (u hut).row]⟩)) :: (1, .again) :: (34, .val (I (IntKind.i64.wrap ((1 : Int) * (2 : Int) ^ (↑(u hut).row : Int).toNat)))) :: (32, .again) :: (16, .val (I (IntKind.i64.wrap ((1 : Int) * (2 : Int) ^ (↑(u hut).row : Int).toNat)))) :: [])) =
(CA 79 (C20n rw st c1 m cu (huL m u) true) ⟨⟨[I rw, I st], [⟨m, cu⟩]⟩, [huL m u]⟩ <|
((OT (decide ((hut : Int) ≤ IntKind.i64.wrap ((m : Int) - (1 : Int)))) true) ∧
(((((0 : Int) ≤ hut) ∧ ((hut : Int) < m)) ∧ (VR (.pointer (some ⟨4, 0 + hut * 3, none⟩)))) ∧
((HR hut m u) ∧
(((HR hut m u) ∧ (SV 4 m cu)) ∧
((PW (u hut).row) ∧
(((((3 : Nat) ≤ (3 : Nat)) ∧ (((.agg ⟨[I (u hut).fl, I (u hut).br, I (u hut).row]⟩) : Value) = (.agg ⟨[I (u hut).fl, I (u hut).br, I (u hut).row]⟩))) ∧ ((((6 : Nat) ≤ (6 : Nat)) ∧ (((.agg ⟨[I rw, I st, .slice .none (0 : Nat) (0 : Nat), .slice .none (0 : Nat) (0 : Nat), .slice (.some ⟨(4 : Nat), (0 : Nat), .none⟩) m cu, .map (.some (15 : Nat))]⟩) : Value) = (.agg ⟨[I rw, I st, .slice .none (0 : Nat) (0 : Nat), .slice .none (0 : Nat) (0 : Nat), .slice (.some ⟨(4 : Nat), (0 : Nat), .none⟩) m cu, .map (.some (15 : Nat))]⟩))) ∧ True)) ∧
((PW (u hut).row) ∧
R (.ret (.tuple ⟨[I 0, I 0, I 0]⟩)))))))))) := by kernel_rfl
theorem f15n (rw st : Int) (c1 m cu : Nat) (hut : Nat) (u : Nat → Hut) (R : ARes → Prop) : (vx.call 15 [su_n rw st c1 m cu, I hut] (retK R) (mH (huL m u)) ((25, .con (C20n rw st c1 m cu (huL m u) true)) :: (29, .val (.bool true)) :: (12, .val (.pointer (some ⟨4, 0 + hut * 3, none⟩))) :: (0, .val (.agg ⟨[I (u hut).fl, I (u hut).br, I (u hut).row]⟩)) :: (1, .again) :: (29, .val (I (IntKind.i64.wrap ((1 : Int) * (2 : Int) ^ (↑(u hut).row : Int).toNat)))) :: (23, .val (.bool false)) :: (9, .val (.bool false)) :: [])) =
(CA 79 (C20n rw st c1 m cu (huL m u) true) ⟨⟨[I rw, I st], [⟨m, cu⟩]⟩, [huL m u]⟩ <|
((OT (decide ((hut : Int) ≤ IntKind.i64.wrap ((m : Int) - (1 : Int)))) true) ∧
(((((0 : Int) ≤ hut) ∧ ((hut : Int) < m)) ∧ (VR (.pointer (some ⟨4, 0 + hut * 3, none⟩)))) ∧
((HR hut m u) ∧
(((HR hut m u) ∧ (SV 4 m cu)) ∧
((PW (u hut).row) ∧
((OT (IntKind.i64.wrap ((1 : Int) * (2 : Int) ^ (↑(u hut).row : Int).toNat) == IntKind.i64.wrap ((1 : Int) * (2 : Int) ^ (6 : Nat))) false) ∧
(((some (.bool (bits BinOp.and IntKind.i64 (IntKind.i64.wrap ((1 : Int) * (2 : Int) ^ (↑(u hut).row : Int).toNat) / (2 : Int) ^ (6 : Nat)) (1 : Int) == (1 : Int))) : Option Value) = some (.bool false)) ∧
R (.ret (.tuple ⟨[I 0, I 0]⟩)))))))))) := by kernel_rfl
theorem f16n (rw st : Int) (c1 m cu : Nat) (hut : Nat) (u : Nat → Hut) (R : ARes → Prop) : (vx.call 16 [su_n rw st c1 m cu, I hut] (retK R) (mH (huL m u)) ((25, .con (C20n rw st c1 m cu (huL m u) true)) :: (29, .val (.bool true)) :: (12, .val (.pointer (some ⟨4, 0 + hut * 3, none⟩))) :: (0, .val (.agg ⟨[I (u hut).fl, I (u hut).br, I (u hut).row]⟩)) :: (1, .again) :: (34, .val (I (IntKind.i64.wrap ((1 : Int) * (2 : Int) ^ (↑(u hut).row : Int).toNat)))) :: (32, .again) :: (16, .val (I (IntKind.i64.wrap ((1 : Int) * (2 : Int) ^ (↑(u hut).row : Int).toNat)))) :: [])) =
(CA 79 (C20n rw st c1 m cu (huL m u) true) ⟨⟨[I rw, I st], [⟨m, cu⟩]⟩, [huL m u]⟩ <|
((OT (decide ((hut : Int) ≤ IntKind.i64.wrap ((m : Int) - (1 : Int)))) true) ∧
(((((0 : Int) ≤ hut) ∧ ((hut : Int) < m)) ∧ (VR (.pointer (some ⟨4, 0 + hut * 3, none⟩)))) ∧
((HR hut m u) ∧
(((HR hut m u) ∧ (SV 4 m cu)) ∧
((PW (u hut).row) ∧
(((((3 : Nat) ≤ (3 : Nat)) ∧ (((.agg ⟨[I (u hut).fl, I (u hut).br, I (u hut).row]⟩) : Value) = (.agg ⟨[I (u hut).fl, I (u hut).br, I (u hut).row]⟩))) ∧ ((((6 : Nat) ≤ (6 : Nat)) ∧ (((.agg ⟨[I rw, I st, .slice .none (0 : Nat) (0 : Nat), .slice .none (0 : Nat) (0 : Nat), .slice (.some ⟨(4 : Nat), (0 : Nat), .none⟩) m cu, .map (.some (14 : Nat))]⟩) : Value) = (.agg ⟨[I rw, I st, .slice .none (0 : Nat) (0 : Nat), .slice .none (0 : Nat) (0 : Nat), .slice (.some ⟨(4 : Nat), (0 : Nat), .none⟩) m cu, .map (.some (14 : Nat))]⟩))) ∧ True)) ∧
((PW (u hut).row) ∧
R (.ret (.tuple ⟨[I 0, I 4]⟩)))))))))) := by kernel_rfl
theorem b20bv (rw st : Int) (c1 m cu : Nat) (i : Nat) (b1 b2 b3 : Bool) (u : Nat → Raw) (R : Nat → AExit → Hw → Prop) : (vx.code none (.l p20b) (leafW [T20bv, R20] R) (T20bv.inst (h20v rw st c1 m cu (raL m u) i)) ([(4, .split ((4, .val (.pointer (some ⟨4, 0 + i * 3, none⟩))) :: (0, .val (.agg ⟨[I (u i).fl, I (u i).br, I ((u i).row)]⟩)) :: (4, .con (C52 (u i).fl 0 40 b1)) :: [(0, .split ([(6, .tm 1 [])]) ((3, .con (C52 (u i).br 0 10 b2)) :: [(0, .split ([(5, .tm 1 [])]) ((7, .con (C52 (u i).row 0 (IntKind.i64.wrap (rw - 1)) b3)) :: [(0, .split ([(3, .tm 1 [])]) ([(5, .tm 0 [])]))]))]))]) ([(1, .tm 0 [])]))])) =
(((decide ((i : Int) < m)) = true → (((((0 : Int) ≤ i) ∧ ((i : Int) < m)) ∧ (VR (.pointer (some ⟨4, 0 + i * 3, none⟩)))) ∧
(((0 + i * 3 + 3 ≤ (raL m u).length) ∧ (((.agg ⟨[I (u i).fl, I (u i).br, I ((u i).row)]⟩) : Value) = (.agg ⟨List.take 3 (List.drop (0 + i * 3) (raL m u))⟩))) ∧
(CA 52 (C52 (u i).fl 0 40 b1) ⟨⟨[I (u i).fl, I 0, I 40], []⟩, []⟩ <|
(((!b1) = true → R (1 : Nat) .ret ⟨⟨[.bool false], []⟩, [], []⟩) ∧
((!b1) = false → (CA 52 (C52 (u i).br 0 10 b2) ⟨⟨[I (u i).br, I 0, I 10], []⟩, []⟩ <|
(((!b2) = true → R (1 : Nat) .ret ⟨⟨[.bool false], []⟩, [], []⟩) ∧
((!b2) = false → (CA 52 (C52 (u i).row 0 (IntKind.i64.wrap (rw - 1)) b3) ⟨⟨[I ((u i).row), I 0, I (IntKind.i64.wrap (rw - (1 : Int)))], []⟩, []⟩ <|
(((!b3) = true → R (1 : Nat) .ret ⟨⟨[.bool false], []⟩, [], []⟩) ∧
((!b3) = false → R (0 : Nat) .normal ⟨⟨[I (IntKind.i64.wrap ((i : Int) + (1 : Int))), I rw, I st], [⟨(0 : Nat), c1⟩, ⟨m, cu⟩]⟩, [raL m u], []⟩)))))))))))) ∧
((decide ((i : Int) < m)) = false → R (0 : Nat) (.exit 2) ⟨⟨[I i, I rw, I st], [⟨(0 : Nat), c1⟩, ⟨m, cu⟩]⟩, [raL m u], []⟩)) := by kernel_rfl
theorem f20tv (rw st : Int) (c1 m cu : Nat) (b1 b2 : Bool) (u : Nat → Raw) (R : ARes → Prop) : (vx.call 20 [su_v rw st c1 m cu] (retK R) (mH (raL m u)) ((5, .con (C52 rw 1 6 b1)) :: [(0, .split ([]) ((3, .con (C52 st 0 4 b2)) :: [(0, .split ([]) ([(20, .split ([]) ((11, .loopW T20bv (.exit 2) T20bv fun _ => h20v rw st c1 m cu (raL m u) m) :: []))]))]))])) =
(CA 52 (C52 rw 1 6 b1) ⟨⟨[I rw, I 1, I 6], []⟩, []⟩ <|
(((!b1) = true → R (.ret (.bool false))) ∧
((!b1) = false → (CA 52 (C52 st 0 4 b2) ⟨⟨[I st, I 0, I 4], []⟩, []⟩ <|
(((!b2) = true → R (.ret (.bool false))) ∧
((!b2) = false → (((decide ((m : Int) > 5)) = true → R (.ret (.bool false))) ∧
((decide ((m : Int) > 5)) = false → (LW p20b T20bv ⟨⟨[I 0, I rw, I st], [⟨(0 : Nat), c1⟩, ⟨m, cu⟩]⟩, [raL m u], []⟩ (.exit 2) T20bv (h20v rw st c1 m cu (raL m u) m) <|
R (.ret (.bool true))))))))))) := by kernel_rfl
theorem f20uv (rw st : Int) (c1 m cu : Nat) (b1 b2 : Bool) (u : Nat → Raw) (R : ARes → Prop) : (vx.call 20 [su_v rw st c1 m cu] (retK R) (mH (raL m u)) ((5, .con (C52 rw 1 6 b1)) :: [(0, .split ([]) ((3, .con (C52 st 0 4 b2)) :: [(0, .split ([]) ([(20, .split ([]) ((11, .loopW T20bv AExit.ret R20 fun _ => { hs := { vs := [Value.bool false], ns := [] }, ls := [], es := [] }) :: []))]))]))])) =
(CA 52 (C52 rw 1 6 b1) ⟨⟨[I rw, I 1, I 6], []⟩, []⟩ <|
(((!b1) = true → R (.ret (.bool false))) ∧
((!b1) = false → (CA 52 (C52 st 0 4 b2) ⟨⟨[I st, I 0, I 4], []⟩, []⟩ <|
(((!b2) = true → R (.ret (.bool false))) ∧
((!b2) = false → (((decide ((m : Int) > 5)) = true → R (.ret (.bool false))) ∧
((decide ((m : Int) > 5)) = false → (LW p20b T20bv ⟨⟨[I 0, I rw, I st], [⟨(0 : Nat), c1⟩, ⟨m, cu⟩]⟩, [raL m u], []⟩ .ret R20 ⟨⟨[.bool false], []⟩, [], []⟩ <|
R (.ret (.bool false))))))))))) := by kernel_rfl
theorem b79bv (rw st : Int) (c1 m cu : Nat) (i : Nat) (u : Nat → Hut) (R : Nat → AExit → Hw → Prop) : (vx.code none (.l p79b) (leafW [T79bv] R) (T79bv.inst (h79v rw st c1 m cu (huL m u) i)) ([(0, .split ((1, .val (.pointer (some ⟨4, 0 + i * 3, none⟩))) :: (0, .val (.agg ⟨[I (u i).fl, I (u i).br, I (u i).row]⟩)) :: (8, .val (.bool true)) :: (3, .val (.bool true)) :: (10, .val (.bool true)) :: (3, .val (.bool true)) :: (18, .val (.bool true)) :: [(7, .tm 0 [])]) ([(1, .tm 0 [])]))])) =
(((decide ((i : Int) < m)) = true → (((((0 : Int) ≤ i) ∧ ((i : Int) < m)) ∧ (VR (.pointer (some ⟨4, 0 + i * 3, none⟩)))) ∧
((HR i m u) ∧
((OT (decide ((0 : Int) ≤ (u i).fl)) true) ∧
((OT (decide ((u i).fl ≤ (40 : Int))) true) ∧
((OT (decide ((0 : Int) ≤ (u i).br)) true) ∧
((OT (decide ((u i).br ≤ (10 : Int))) true) ∧
((OT (decide ((↑(u i).row : Int) ≤ IntKind.i64.wrap (rw - (1 : Int)))) true) ∧
R (0 : Nat) .normal ⟨⟨[I m, I (IntKind.i64.wrap ((i : Int) + (1 : Int))), I rw, I st], [⟨m, cu⟩, ⟨(0 : Nat), c1⟩, ⟨m, cu⟩]⟩, [huL m u], []⟩)))))))) ∧
((decide ((i : Int) < m)) = false → R (0 : Nat) (.exit 2) ⟨⟨[I m, I i, I rw, I st], [⟨m, cu⟩, ⟨(0 : Nat), c1⟩, ⟨m, cu⟩]⟩, [huL m u], []⟩)) := by kernel_rfl
theorem f79v (rw st : Int) (c1 m cu : Nat) (u : Nat → Hut) (R : ARes → Prop) : (vx.call 79 [su_v rw st c1 m cu] (retK R) (mH (huL m u)) ((9, .val (.bool true)) :: (3, .val (.bool true)) :: (10, .val (.bool true)) :: (3, .val (.bool true)) :: (22, .val (.bool false)) :: (13, .loopW T79bv (.exit 2) T79bv fun _ => h79v rw st c1 m cu (huL m u) m) :: [])) =
((OT (decide ((1 : Int) ≤ rw)) true) ∧
((OT (decide (rw ≤ (6 : Int))) true) ∧
((OT (decide ((0 : Int) ≤ st)) true) ∧
((OT (decide (st ≤ (4 : Int))) true) ∧
((OT (decide ((m : Int) > 5)) false) ∧
(LW p79b T79bv ⟨⟨[I m, I 0, I rw, I st], [⟨m, cu⟩, ⟨(0 : Nat), c1⟩, ⟨m, cu⟩]⟩, [huL m u], []⟩ (.exit 2) T79bv (h79v rw st c1 m cu (huL m u) m) <|
R (.ret (.bool true)))))))) := by kernel_rfl
theorem f14v (rw st : Int) (c1 m cu : Nat) (hut : Nat) (u : Nat → Hut) (R : ARes → Prop) : (vx.call 14 [su_v rw st c1 m cu, I hut] (retK R) (mH (huL m u)) ((26, .con (C20v rw st c1 m cu (huL m u) true)) :: (29, .val (.bool true)) :: (12, .val (.pointer (some ⟨4, 0 + hut * 3, none⟩))) :: (0, .val (.agg ⟨[I (u hut).fl, I (u hut).br, I (u hut).row]⟩)) :: (1, .again) :: (34, .val (I (IntKind.i64.wrap ((1 : Int) * (2 : Int) ^ (↑(u hut).row : Int).toNat)))) :: (32, .again) :: (16, .val (I (IntKind.i64.wrap ((1 : Int) * (2 : Int) ^ (↑(u hut).row : Int).toNat)))) :: [])) =
(CA 79 (C20v rw st c1 m cu (huL m u) true) ⟨⟨[I rw, I st], [⟨(0 : Nat), c1⟩, ⟨m, cu⟩]⟩, [huL m u]⟩ <|
((OT (decide ((hut : Int) ≤ IntKind.i64.wrap ((m : Int) - (1 : Int)))) true) ∧
(((((0 : Int) ≤ hut) ∧ ((hut : Int) < m)) ∧ (VR (.pointer (some ⟨4, 0 + hut * 3, none⟩)))) ∧
((HR hut m u) ∧
(((HR hut m u) ∧ (SV 4 m cu)) ∧
((PW (u hut).row) ∧
(((((3 : Nat) ≤ (3 : Nat)) ∧ (((.agg ⟨[I (u hut).fl, I (u hut).br, I (u hut).row]⟩) : Value) = (.agg ⟨[I (u hut).fl, I (u hut).br, I (u hut).row]⟩))) ∧ ((((6 : Nat) ≤ (6 : Nat)) ∧ (((.agg ⟨[I rw, I st, .slice .none (0 : Nat) (0 : Nat), .slice (.some ⟨(3 : Nat), (0 : Nat), .none⟩) (0 : Nat) c1, .slice (.some ⟨(4 : Nat), (0 : Nat), .none⟩) m cu, .map (.some (15 : Nat))]⟩) : Value) = (.agg ⟨[I rw, I st, .slice .none (0 : Nat) (0 : Nat), .slice (.some ⟨(3 : Nat), (0 : Nat), .none⟩) (0 : Nat) c1, .slice (.some ⟨(4 : Nat), (0 : Nat), .none⟩) m cu, .map (.some (15 : Nat))]⟩))) ∧ True)) ∧
((PW (u hut).row) ∧
R (.ret (.tuple ⟨[I 0, I 0, I 0]⟩)))))))))) := by kernel_rfl
theorem f15v (rw st : Int) (c1 m cu : Nat) (hut : Nat) (u : Nat → Hut) (R : ARes → Prop) : (vx.call 15 [su_v rw st c1 m cu, I hut] (retK R) (mH (huL m u)) ((25, .con (C20v rw st c1 m cu (huL m u) true)) :: (29, .val (.bool true)) :: (12, .val (.pointer (some ⟨4, 0 + hut * 3, none⟩))) :: (0, .val (.agg ⟨[I (u hut).fl, I (u hut).br, I (u hut).row]⟩)) :: (1, .again) :: (29, .val (I (IntKind.i64.wrap ((1 : Int) * (2 : Int) ^ (↑(u hut).row : Int).toNat)))) :: (23, .val (.bool false)) :: (9, .val (.bool false)) :: [])) =
(CA 79 (C20v rw st c1 m cu (huL m u) true) ⟨⟨[I rw, I st], [⟨(0 : Nat), c1⟩, ⟨m, cu⟩]⟩, [huL m u]⟩ <|
((OT (decide ((hut : Int) ≤ IntKind.i64.wrap ((m : Int) - (1 : Int)))) true) ∧
(((((0 : Int) ≤ hut) ∧ ((hut : Int) < m)) ∧ (VR (.pointer (some ⟨4, 0 + hut * 3, none⟩)))) ∧
((HR hut m u) ∧
(((HR hut m u) ∧ (SV 4 m cu)) ∧
((PW (u hut).row) ∧
((OT (IntKind.i64.wrap ((1 : Int) * (2 : Int) ^ (↑(u hut).row : Int).toNat) == IntKind.i64.wrap ((1 : Int) * (2 : Int) ^ (6 : Nat))) false) ∧
(((some (.bool (bits BinOp.and IntKind.i64 (IntKind.i64.wrap ((1 : Int) * (2 : Int) ^ (↑(u hut).row : Int).toNat) / (2 : Int) ^ (6 : Nat)) (1 : Int) == (1 : Int))) : Option Value) = some (.bool false)) ∧
R (.ret (.tuple ⟨[I 0, I 0]⟩)))))))))) := by kernel_rfl
theorem f16v (rw st : Int) (c1 m cu : Nat) (hut : Nat) (u : Nat → Hut) (R : ARes → Prop) : (vx.call 16 [su_v rw st c1 m cu, I hut] (retK R) (mH (huL m u)) ((25, .con (C20v rw st c1 m cu (huL m u) true)) :: (29, .val (.bool true)) :: (12, .val (.pointer (some ⟨4, 0 + hut * 3, none⟩))) :: (0, .val (.agg ⟨[I (u hut).fl, I (u hut).br, I (u hut).row]⟩)) :: (1, .again) :: (34, .val (I (IntKind.i64.wrap ((1 : Int) * (2 : Int) ^ (↑(u hut).row : Int).toNat)))) :: (32, .again) :: (16, .val (I (IntKind.i64.wrap ((1 : Int) * (2 : Int) ^ (↑(u hut).row : Int).toNat)))) :: [])) =
(CA 79 (C20v rw st c1 m cu (huL m u) true) ⟨⟨[I rw, I st], [⟨(0 : Nat), c1⟩, ⟨m, cu⟩]⟩, [huL m u]⟩ <|
((OT (decide ((hut : Int) ≤ IntKind.i64.wrap ((m : Int) - (1 : Int)))) true) ∧
(((((0 : Int) ≤ hut) ∧ ((hut : Int) < m)) ∧ (VR (.pointer (some ⟨4, 0 + hut * 3, none⟩)))) ∧
((HR hut m u) ∧
(((HR hut m u) ∧ (SV 4 m cu)) ∧
((PW (u hut).row) ∧
(((((3 : Nat) ≤ (3 : Nat)) ∧ (((.agg ⟨[I (u hut).fl, I (u hut).br, I (u hut).row]⟩) : Value) = (.agg ⟨[I (u hut).fl, I (u hut).br, I (u hut).row]⟩))) ∧ ((((6 : Nat) ≤ (6 : Nat)) ∧ (((.agg ⟨[I rw, I st, .slice .none (0 : Nat) (0 : Nat), .slice (.some ⟨(3 : Nat), (0 : Nat), .none⟩) (0 : Nat) c1, .slice (.some ⟨(4 : Nat), (0 : Nat), .none⟩) m cu, .map (.some (14 : Nat))]⟩) : Value) = (.agg ⟨[I rw, I st, .slice .none (0 : Nat) (0 : Nat), .slice (.some ⟨(3 : Nat), (0 : Nat), .none⟩) (0 : Nat) c1, .slice (.some ⟨(4 : Nat), (0 : Nat), .none⟩) m cu, .map (.some (14 : Nat))]⟩))) ∧ True)) ∧
((PW (u hut).row) ∧
R (.ret (.tuple ⟨[I 0, I 4]⟩)))))))))) := by kernel_rfl
theorem b20bw (rw st : Int) (c1 m cu : Nat) (i : Nat) (b1 b2 b3 : Bool) (u : Nat → Raw) (R : Nat → AExit → Hw → Prop) : (vx.code none (.l p20b) (leafW [T20bw, R20] R) (T20bw.inst (h20w rw st c1 m cu (raL m u) i)) ([(4, .split ((4, .val (.pointer (some ⟨4, 0 + i * 3, none⟩))) :: (0, .val (.agg ⟨[I (u i).fl, I (u i).br, I ((u i).row)]⟩)) :: (4, .con (C52 (u i).fl 0 40 b1)) :: [(0, .split ([(6, .tm 1 [])]) ((3, .con (C52 (u i).br 0 10 b2)) :: [(0, .split ([(5, .tm 1 [])]) ((7, .con (C52 (u i).row 0 (IntKind.i64.wrap (rw - 1)) b3)) :: [(0, .split ([(3, .tm 1 [])]) ([(5, .tm 0 [])]))]))]))]) ([(1, .tm 0 [])]))])) =
(((decide ((i : Int) < m)) = true → (((((0 : Int) ≤ i) ∧ ((i : Int) < m)) ∧ (VR (.pointer (some ⟨4, 0 + i * 3, none⟩)))) ∧
(((0 + i * 3 + 3 ≤ (raL m u).length) ∧ (((.agg ⟨[I (u i).fl, I (u i).br, I ((u i).row)]⟩) : Value) = (.agg ⟨List.take 3 (List.drop (0 + i * 3) (raL m u))⟩))) ∧
(CA 52 (C52 (u i).fl 0 40 b1) ⟨⟨[I (u i).fl, I 0, I 40], []⟩, []⟩ <|
(((!b1) = true → R (1 : Nat) .ret ⟨⟨[.bool false], []⟩, [], []⟩) ∧
((!b1) = false → (CA 52 (C52 (u i).br 0 10 b2) ⟨⟨[I (u i).br, I 0, I 10], []⟩, []⟩ <|
(((!b2) = true → R (1 : Nat) .ret ⟨⟨[.bool false], []⟩, [], []⟩) ∧
((!b2) = false → (CA 52 (C52 (u i).row 0 (IntKind.i64.wrap (rw - 1)) b3) ⟨⟨[I ((u i).row), I 0, I (IntKind.i64.wrap (rw - (1 : Int)))], []⟩, []⟩ <|
(((!b3) = true → R (1 : Nat) .ret ⟨⟨[.bool false], []⟩, [], []⟩) ∧
((!b3) = false → R (0 : Nat) .normal ⟨⟨[I (IntKind.i64.wrap ((i : Int) + (1 : Int))), I rw, I st], [⟨(0 : Nat), c1⟩, ⟨m, cu⟩]⟩, [raL m u], []⟩)))))))))))) ∧
((decide ((i : Int) < m)) = false → R (0 : Nat) (.exit 2) ⟨⟨[I i, I rw, I st], [⟨(0 : Nat), c1⟩, ⟨m, cu⟩]⟩, [raL m u], []⟩)) := by kernel_rfl
theorem f20tw (rw st : Int) (c1 m cu : Nat) (b1 b2 : Bool) (u : Nat → Raw) (R : ARes → Prop) : (vx.call 20 [su_w rw st c1 m cu] (retK R) (mH (raL m u)) ((5, .con (C52 rw 1 6 b1)) :: [(0, .split ([]) ((3, .con (C52 st 0 4 b2)) :: [(0, .split ([]) ([(20, .split ([]) ((11, .loopW T20bw (.exit 2) T20bw fun _ => h20w rw st c1 m cu (raL m u) m) :: []))]))]))])) =
(CA 52 (C52 rw 1 6 b1) ⟨⟨[I rw, I 1, I 6], []⟩, []⟩ <|
(((!b1) = true → R (.ret (.bool false))) ∧
((!b1) = false → (CA 52 (C52 st 0 4 b2) ⟨⟨[I st, I 0, I 4], []⟩, []⟩ <|
(((!b2) = true → R (.ret (.bool false))) ∧
((!b2) = false → (((decide ((m : Int) > 5)) = true → R (.ret (.bool false))) ∧
((decide ((m : Int) > 5)) = false → (LW p20b T20bw ⟨⟨[I 0, I rw, I st], [⟨(0 : Nat), c1⟩, ⟨m, cu⟩]⟩, [raL m u], []⟩ (.exit 2) T20bw (h20w rw st c1 m cu (raL m u) m) <|
R (.ret (.bool true))))))))))) := by kernel_rfl
theorem f20uw (rw st : Int) (c1 m cu : Nat) (b1 b2 : Bool) (u : Nat → Raw) (R : ARes → Prop) : (vx.call 20 [su_w rw st c1 m cu] (retK R) (mH (raL m u)) ((5, .con (C52 rw 1 6 b1)) :: [(0, .split ([]) ((3, .con (C52 st 0 4 b2)) :: [(0, .split ([]) ([(20, .split ([]) ((11, .loopW T20bw AExit.ret R20 fun _ => { hs := { vs := [Value.bool false], ns := [] }, ls := [], es := [] }) :: []))]))]))])) =
(CA 52 (C52 rw 1 6 b1) ⟨⟨[I rw, I 1, I 6], []⟩, []⟩ <|
(((!b1) = true → R (.ret (.bool false))) ∧
((!b1) = false → (CA 52 (C52 st 0 4 b2) ⟨⟨[I st, I 0, I 4], []⟩, []⟩ <|
(((!b2) = true → R (.ret (.bool false))) ∧
((!b2) = false → (((decide ((m : Int) > 5)) = true → R (.ret (.bool false))) ∧
((decide ((m : Int) > 5)) = false → (LW p20b T20bw ⟨⟨[I 0, I rw, I st], [⟨(0 : Nat), c1⟩, ⟨m, cu⟩]⟩, [raL m u], []⟩ .ret R20 ⟨⟨[.bool false], []⟩, [], []⟩ <|
R (.ret (.bool false))))))))))) := by kernel_rfl
theorem b79bw (rw st : Int) (c1 m cu : Nat) (i : Nat) (u : Nat → Hut) (R : Nat → AExit → Hw → Prop) : (vx.code none (.l p79b) (leafW [T79bw] R) (T79bw.inst (h79w rw st c1 m cu (huL m u) i)) ([(0, .split ((1, .val (.pointer (some ⟨4, 0 + i * 3, none⟩))) :: (0, .val (.agg ⟨[I (u i).fl, I (u i).br, I (u i).row]⟩)) :: (8, .val (.bool true)) :: (3, .val (.bool true)) :: (10, .val (.bool true)) :: (3, .val (.bool true)) :: (18, .val (.bool true)) :: [(7, .tm 0 [])]) ([(1, .tm 0 [])]))])) =
(((decide ((i : Int) < m)) = true → (((((0 : Int) ≤ i) ∧ ((i : Int) < m)) ∧ (VR (.pointer (some ⟨4, 0 + i * 3, none⟩)))) ∧
((HR i m u) ∧
((OT (decide ((0 : Int) ≤ (u i).fl)) true) ∧
((OT (decide ((u i).fl ≤ (40 : Int))) true) ∧
((OT (decide ((0 : Int) ≤ (u i).br)) true) ∧
((OT (decide ((u i).br ≤ (10 : Int))) true) ∧
((OT (decide ((↑(u i).row : Int) ≤ IntKind.i64.wrap (rw - (1 : Int)))) true) ∧
R (0 : Nat) .normal ⟨⟨[I m, I (IntKind.i64.wrap ((i : Int) + (1 : Int))), I rw, I st], [⟨m, cu⟩, ⟨(0 : Nat), c1⟩, ⟨m, cu⟩]⟩, [huL m u], []⟩)))))))) ∧
((decide ((i : Int) < m)) = false → R (0 : Nat) (.exit 2) ⟨⟨[I m, I i, I rw, I st], [⟨m, cu⟩, ⟨(0 : Nat), c1⟩, ⟨m, cu⟩]⟩, [huL m u], []⟩)) := by kernel_rfl
theorem f79w (rw st : Int) (c1 m cu : Nat) (u : Nat → Hut) (R : ARes → Prop) : (vx.call 79 [su_w rw st c1 m cu] (retK R) (mH (huL m u)) ((9, .val (.bool true)) :: (3, .val (.bool true)) :: (10, .val (.bool true)) :: (3, .val (.bool true)) :: (22, .val (.bool false)) :: (13, .loopW T79bw (.exit 2) T79bw fun _ => h79w rw st c1 m cu (huL m u) m) :: [])) =
((OT (decide ((1 : Int) ≤ rw)) true) ∧
((OT (decide (rw ≤ (6 : Int))) true) ∧
((OT (decide ((0 : Int) ≤ st)) true) ∧
((OT (decide (st ≤ (4 : Int))) true) ∧
((OT (decide ((m : Int) > 5)) false) ∧
(LW p79b T79bw ⟨⟨[I m, I 0, I rw, I st], [⟨m, cu⟩, ⟨(0 : Nat), c1⟩, ⟨m, cu⟩]⟩, [huL m u], []⟩ (.exit 2) T79bw (h79w rw st c1 m cu (huL m u) m) <|
R (.ret (.bool true)))))))) := by kernel_rfl
theorem f14w (rw st : Int) (c1 m cu : Nat) (hut : Nat) (u : Nat → Hut) (R : ARes → Prop) : (vx.call 14 [su_w rw st c1 m cu, I hut] (retK R) (mH (huL m u)) ((26, .con (C20w rw st c1 m cu (huL m u) true)) :: (29, .val (.bool true)) :: (12, .val (.pointer (some ⟨4, 0 + hut * 3, none⟩))) :: (0, .val (.agg ⟨[I (u hut).fl, I (u hut).br, I (u hut).row]⟩)) :: (1, .again) :: (34, .val (I (IntKind.i64.wrap ((1 : Int) * (2 : Int) ^ (↑(u hut).row : Int).toNat)))) :: (32, .again) :: (16, .val (I (IntKind.i64.wrap ((1 : Int) * (2 : Int) ^ (↑(u hut).row : Int).toNat)))) :: [])) =
(CA 79 (C20w rw st c1 m cu (huL m u) true) ⟨⟨[I rw, I st], [⟨(0 : Nat), c1⟩, ⟨m, cu⟩]⟩, [huL m u]⟩ <|
((OT (decide ((hut : Int) ≤ IntKind.i64.wrap ((m : Int) - (1 : Int)))) true) ∧
(((((0 : Int) ≤ hut) ∧ ((hut : Int) < m)) ∧ (VR (.pointer (some ⟨4, 0 + hut * 3, none⟩)))) ∧
((HR hut m u) ∧
(((HR hut m u) ∧ (SV 4 m cu)) ∧
((PW (u hut).row) ∧
(((((3 : Nat) ≤ (3 : Nat)) ∧ (((.agg ⟨[I (u hut).fl, I (u hut).br, I (u hut).row]⟩) : Value) = (.agg ⟨[I (u hut).fl, I (u hut).br, I (u hut).row]⟩))) ∧ ((((6 : Nat) ≤ (6 : Nat)) ∧ (((.agg ⟨[I rw, I st, .slice (.some ⟨(2 : Nat), (0 : Nat), .none⟩) (0 : Nat) c1, .slice .none (0 : Nat) (0 : Nat), .slice (.some ⟨(4 : Nat), (0 : Nat), .none⟩) m cu, .map (.some (15 : Nat))]⟩) : Value) = (.agg ⟨[I rw, I st, .slice (.some ⟨(2 : Nat), (0 : Nat), .none⟩) (0 : Nat) c1, .slice .none (0 : Nat) (0 : Nat), .slice (.some ⟨(4 : Nat), (0 : Nat), .none⟩) m cu, .map (.some (15 : Nat))]⟩))) ∧ True)) ∧
((PW (u hut).row) ∧
R (.ret (.tuple ⟨[I 0, I 0, I 0]⟩)))))))))) := by kernel_rfl
theorem f15w (rw st : Int) (c1 m cu : Nat) (hut : Nat) (u : Nat → Hut) (R : ARes → Prop) : (vx.call 15 [su_w rw st c1 m cu, I hut] (retK R) (mH (huL m u)) ((25, .con (C20w rw st c1 m cu (huL m u) true)) :: (29, .val (.bool true)) :: (12, .val (.pointer (some ⟨4, 0 + hut * 3, none⟩))) :: (0, .val (.agg ⟨[I (u hut).fl, I (u hut).br, I (u hut).row]⟩)) :: (1, .again) :: (29, .val (I (IntKind.i64.wrap ((1 : Int) * (2 : Int) ^ (↑(u hut).row : Int).toNat)))) :: (14, .again) :: (8, .val (.bool false)) :: (9, .val (.bool false)) :: [])) =
(CA 79 (C20w rw st c1 m cu (huL m u) true) ⟨⟨[I rw, I st], [⟨(0 : Nat), c1⟩, ⟨m, cu⟩]⟩, [huL m u]⟩ <|
((OT (decide ((hut : Int) ≤ IntKind.i64.wrap ((m : Int) - (1 : Int)))) true) ∧
(((((0 : Int) ≤ hut) ∧ ((hut : Int) < m)) ∧ (VR (.pointer (some ⟨4, 0 + hut * 3, none⟩)))) ∧
((HR hut m u) ∧
(((HR hut m u) ∧ (SV 4 m cu)) ∧
((PW (u hut).row) ∧
((((some (I (↑(0 : Nat) : Int)) : Option Value) = some (I (↑(0 : Nat) : Int))) ∧ (((some (.slice (.some ⟨(2 : Nat), (0 : Nat), .none⟩) (0 : Nat) c1) : Option Value) = some (.slice (.some ⟨(2 : Nat), (0 : Nat), .none⟩) (0 : Nat) c1)) ∧ True)) ∧
((OT (IntKind.i64.wrap ((1 : Int) * (2 : Int) ^ (↑(u hut).row : Int).toNat) == IntKind.i64.wrap ((1 : Int) * (2 : Int) ^ (6 : Nat))) false) ∧
(((some (.bool (bits BinOp.and IntKind.i64 (IntKind.i64.wrap ((1 : Int) * (2 : Int) ^ (↑(u hut).row : Int).toNat) / (2 : Int) ^ (6 : Nat)) (1 : Int) == (1 : Int))) : Option Value) = some (.bool false)) ∧
R (.ret (.tuple ⟨[I 0, I 0]⟩))))))))))) := by kernel_rfl
theorem f16w (rw st : Int) (c1 m cu : Nat) (hut : Nat) (u : Nat → Hut) (R : ARes → Prop) : (vx.call 16 [su_w rw st c1 m cu, I hut] (retK R) (mH (huL m u)) ((25, .con (C20w rw st c1 m cu (huL m u) true)) :: (29, .val (.bool true)) :: (12, .val (.pointer (some ⟨4, 0 + hut * 3, none⟩))) :: (0, .val (.agg ⟨[I (u hut).fl, I (u hut).br, I (u hut).row]⟩)) :: (1, .again) :: (34, .val (I (IntKind.i64.wrap ((1 : Int) * (2 : Int) ^ (↑(u hut).row : Int).toNat)))) :: (32, .again) :: (16, .val (I (IntKind.i64.wrap ((1 : Int) * (2 : Int) ^ (↑(u hut).row : Int).toNat)))) :: [])) =
(CA 79 (C20w rw st c1 m cu (huL m u) true) ⟨⟨[I rw, I st], [⟨(0 : Nat), c1⟩, ⟨m, cu⟩]⟩, [huL m u]⟩ <|
((OT (decide ((hut : Int) ≤ IntKind.i64.wrap ((m : Int) - (1 : Int)))) true) ∧
(((((0 : Int) ≤ hut) ∧ ((hut : Int) < m)) ∧ (VR (.pointer (some ⟨4, 0 + hut * 3, none⟩)))) ∧
((HR hut m u) ∧
(((HR hut m u) ∧ (SV 4 m cu)) ∧
((PW (u hut).row) ∧
(((((3 : Nat) ≤ (3 : Nat)) ∧ (((.agg ⟨[I (u hut).fl, I (u hut).br, I (u hut).row]⟩) : Value) = (.agg ⟨[I (u hut).fl, I (u hut).br, I (u hut).row]⟩))) ∧ ((((6 : Nat) ≤ (6 : Nat)) ∧ (((.agg ⟨[I rw, I st, .slice (.some ⟨(2 : Nat), (0 : Nat), .none⟩) (0 : Nat) c1, .slice .none (0 : Nat) (0 : Nat), .slice (.some ⟨(4 : Nat), (0 : Nat), .none⟩) m cu, .map (.some (14 : Nat))]⟩) : Value) = (.agg ⟨[I rw, I st, .slice (.some ⟨(2 : Nat), (0 : Nat), .none⟩) (0 : Nat) c1, .slice .none (0 : Nat) (0 : Nat), .slice (.some ⟨(4 : Nat), (0 : Nat), .none⟩) m cu, .map (.some (14 : Nat))]⟩))) ∧ True)) ∧
((PW (u hut).row) ∧
R (.ret (.tuple ⟨[I 0, I 4]⟩)))))))))) := by kernel_rfl
theorem b20aN (rw st : Int) (n cw n2 cv : Nat) (i : Nat) (bw bv : Bool) (w v : Nat → Sp) (R : Nat → AExit → Hw → Prop) : (vx.code none (.l p20a) (leafW [T20aN, R20] R) (T20aN.inst (h20N rw st n cw n2 cv (spL n w) (spL n2 v) i)) ([(4, .split ((4, .val (.pointer (some ⟨2, 0 + i * 2, none⟩))) :: (0, .val (.agg ⟨[I (w i).lo, I (w i).hi]⟩)) :: (0, .con (C53 (w i).lo (w i).hi 30 bw)) :: [(0, .split ([(4, .tm 1 [])]) ((4, .val (.pointer (some ⟨3, 0 + i * 2, none⟩))) :: (0, .val (.agg ⟨[I (v i).lo, I (v i).hi]⟩)) :: (0, .con (C53 (v i).lo (v i).hi 10 bv)) :: [(0, .split ([(3, .tm 1 [])]) ([(5, .tm 0 [])]))]))]) ([(1, .tm 0 [])]))])) =
(((decide ((i : Int) < n)) = true → (((((0 : Int) ≤ i) ∧ ((i : Int) < n)) ∧ (VR (.pointer (some ⟨2, 0 + i * 2, none⟩)))) ∧
(((0 + i * 2 + 2 ≤ (spL n w).length) ∧ (((.agg ⟨[I (w i).lo, I (w i).hi]⟩) : Value) = (.agg ⟨List.take 2 (List.drop (0 + i * 2) (spL n w))⟩))) ∧
(CA 53 (C53 (w i).lo (w i).hi 30 bw) ⟨⟨[I (w i).lo, I (w i).hi, I 30], []⟩, []⟩ <|
(((!bw) = true → R (1 : Nat) .ret ⟨⟨[.bool false], []⟩, [], []⟩) ∧
((!bw) = false → (((((0 : Int) ≤ i) ∧ ((i : Int) < n2)) ∧ (VR (.pointer (some ⟨3, 0 + i * 2, none⟩)))) ∧
(((0 + i * 2 + 2 ≤ (spL n2 v).length) ∧ (((.agg ⟨[I (v i).lo, I (v i).hi]⟩) : Value) = (.agg ⟨List.take 2 (List.drop (0 + i * 2) (spL n2 v))⟩))) ∧
(CA 53 (C53 (v i).lo (v i).hi 10 bv) ⟨⟨[I (v i).lo, I (v i).hi, I 10], []⟩, []⟩ <|
(((!bv) = true → R (1 : Nat) .ret ⟨⟨[.bool false], []⟩, [], []⟩) ∧
((!bv) = false → R (0 : Nat) .normal ⟨⟨[I (IntKind.i64.wrap ((i : Int) + (1 : Int))), I rw, I st], [⟨n, cw⟩, ⟨n2, cv⟩]⟩, [spL n w, spL n2 v], []⟩))))))))))) ∧
((decide ((i : Int) < n)) = false → R (0 : Nat) (.exit 0) ⟨⟨[I i, I rw, I st], [⟨n, cw⟩, ⟨n2, cv⟩]⟩, [spL n w, spL n2 v], []⟩)) := by kernel_rfl
theorem f20tN (rw st : Int) (n cw n2 cv : Nat) (b1 b2 : Bool) (w v : Nat → Sp) (R : ARes → Prop) : (vx.call 20 [suN rw st n cw n2 cv] (retK R) (mN (spL n w) (spL n2 v)) ((5, .con (C52 rw 1 6 b1)) :: [(0, .split ([]) ((3, .con (C52 st 0 4 b2)) :: [(0, .split ([]) ([(5, .split ([]) ([(8, .split ([]) ((9, .loopW T20aN (.exit 0) T20aN fun _ => h20N rw st n cw n2 cv (spL n w) (spL n2 v) n) :: []))]))]))]))])) =
(CA 52 (C52 rw 1 6 b1) ⟨⟨[I rw, I 1, I 6], []⟩, []⟩ <|
(((!b1) = true → R (.ret (.bool false))) ∧
((!b1) = false → (CA 52 (C52 st 0 4 b2) ⟨⟨[I st, I 0, I 4], []⟩, []⟩ <|
(((!b2) = true → R (.ret (.bool false))) ∧
((!b2) = false → (((decide ((n : Int) > 8)) = true → R (.ret (.bool false))) ∧
((decide ((n : Int) > 8)) = false → ((((n2 : Int) != n) = true → R (.ret (.bool false))) ∧
(((n2 : Int) != n) = false → (LW p20a T20aN ⟨⟨[I 0, I rw, I st], [⟨n, cw⟩, ⟨n2, cv⟩]⟩, [spL n w, spL n2 v], []⟩ (.exit 0) T20aN (h20N rw st n cw n2 cv (spL n w) (spL n2 v) n) <|
R (.ret (.bool true))))))))))))) := by kernel_rfl
theorem f20uN (rw st : Int) (n cw n2 cv : Nat) (b1 b2 : Bool) (w v : Nat → Sp) (R : ARes → Prop) : (vx.call 20 [suN rw st n cw n2 cv] (retK R) (mN (spL n w) (spL n2 v)) ((5, .con (C52 rw 1 6 b1)) :: [(0, .split ([]) ((3, .con (C52 st 0 4 b2)) :: [(0, .split ([]) ([(5, .split ([]) ([(8, .split ([]) ((9, .loopW T20aN AExit.ret R20 fun _ => { hs := { vs := [Value.bool false], ns := [] }, ls := [], es := [] }) :: []))]))]))]))])) =
(CA 52 (C52 rw 1 6 b1) ⟨⟨[I rw, I 1, I 6], []⟩, []⟩ <|
(((!b1) = true → R (.ret (.bool false))) ∧
((!b1) = false → (CA 52 (C52 st 0 4 b2) ⟨⟨[I st, I 0, I 4], []⟩, []⟩ <|
(((!b2) = true → R (.ret (.bool false))) ∧
((!b2) = false → (((decide ((n : Int) > 8)) = true → R (.ret (.bool false))) ∧
((decide ((n : Int) > 8)) = false → ((((n2 : Int) != n) = true → R (.ret (.bool false))) ∧
(((n2 : Int) != n) = false → (LW p20a T20aN ⟨⟨[I 0, I rw, I st], [⟨n, cw⟩, ⟨n2, cv⟩]⟩, [spL n w, spL n2 v], []⟩ .ret R20 ⟨⟨[.bool false], []⟩, [], []⟩ <|
R (.ret (.bool false))))))))))))) := by kernel_rfl
def okS0 (rw st : Int) (m : Nat) (u : Nat → Raw) : Bool := inB rw 1 6 && (inB st 0 4 && (!decide ((m : Int) > 5) && allF (huB rw u) m 0))
def okSN (rw st : Int) (n n2 : Nat) (w v : Nat → Sp) : Bool := inB rw 1 6 && (inB st 0 4 && (!decide ((n : Int) > 8) && (!((n2 : Int) != (n : Int)) && allF (hoB w v) n 0)))
section
variable {rw st : Int} {c1 m cu : Nat} {u : Nat → Raw}
theorem cl1r {a : List Value} {b : List (Nat × Nat)} : ClW ⟨⟨a, b⟩, [raL m u], []⟩ := by
 refine ⟨fun cs hc => ?_, fun e hc => (by cases hc)⟩
 simp only [List.mem_singleton] at hc
 subst hc
 exact raL_at _ _
theorem at1r : Atoms [raL m u] := by
 intro cs hc
 simp only [List.mem_singleton] at hc
 subst hc
 exact raL_at _ _
noncomputable def ob20n (rw st : Int) (c1 m cu : Nat) (u : Nat → Raw) (b : Bool) : AExit × Nat × Hw := if b = true then (.exit 2, 0, h20n rw st c1 m cu (raL m u) m) else (.ret, 1, ⟨⟨[.bool false], []⟩, [], []⟩)
theorem loop20bn (h5 : m ≤ 5) {b : Bool} (hb : allF (huB rw u) m 0 = b) {T1 : Tw} (h1 : [T20bn, R20][(ob20n rw st c1 m cu u b).2.1]? = some T1) :
    LoopOW Tryd.prog none p20b T20bn (h20n rw st c1 m cu (raL m u) 0) (ob20n rw st c1 m cu u b).1 T1 (ob20n rw st c1 m cu u b).2.2 := by
 have e0 : b = allF (huB rw u) (m - 0) 0 := by rw [Nat.sub_zero, hb]
 rw [e0] at h1 ⊢
 refine loop_vcW (P := Tryd.prog) (ro := none) (p := p20b) (Ts := [T20bn, R20]) (k := 6) (X := Nat) (inv := fun i => i ≤ m) (μ := fun i => m - i) (st := fun i => (0, h20n rw st c1 m cu (raL m u) i)) (out := fun i => ob20n rw st c1 m cu u (allF (huB rw u) (m - i) i)) rfl vx_sound
  (by intro T hT; simp only [List.mem_cons, List.not_mem_nil, or_false] at hT; rcases hT with rfl | rfl <;> rfl) (by rw [nglob]; omega) (fun i hi => ?_) (x := 0) (Nat.zero_le m) (T0 := T20bn) rfl (Nat.le_of_ble_eq_true rfl) (by decide) h1
 have hi : i ≤ m := hi
 by_cases hlt : i < m
 · have hw := wrS (i := i) (by omega)
   have hstep : allF (huB rw u) (m - i) i = (huB rw u i && allF (huB rw u) (m - (i + 1)) (i + 1)) := by
    have : m - i = (m - (i + 1)) + 1 := by omega
    rw [this]; rfl
   have pu := raL_part u hlt
   have lu := raL_len m u
   refine ⟨T20bn, _, rfl, (b20bn rw st c1 m cu i (inB (u i).fl 0 40) (inB (u i).br 0 10) (inB (u i).row 0 (IntKind.i64.wrap (rw - 1))) u _).mpr ⟨fun _ => ⟨⟨⟨by omega, by omega⟩, rfl⟩, ⟨by rw [lu]; omega, by rw [pu]; rfl⟩, C52_ok _ _ _, rfl, fun h => ?_, fun h => ⟨C52_ok _ _ _, rfl, fun h' => ?_, fun h' => ⟨C52_ok _ _ _, rfl, fun h2 => ?_, fun h2 => ?_⟩⟩⟩, fun h => absurd (by omega) (of_decide_eq_false h)⟩⟩
   · have hf : allF (huB rw u) (m - i) i = false := by rw [hstep]; simp only [huB]; rw [show inB (u i).fl 0 40 = false by simpa using h]; rfl
     exact ⟨⟨clF, trivial⟩, .inr ⟨by simp, by show ob20n rw st c1 m cu u (allF (huB rw u) (m - i) i) = _; rw [hf]; rfl⟩⟩
   · have hf : allF (huB rw u) (m - i) i = false := by rw [hstep]; simp only [huB]; rw [show inB (u i).br 0 10 = false by simpa using h', Bool.false_and, Bool.and_false]; rfl
     exact ⟨⟨clF, trivial⟩, .inr ⟨by simp, by show ob20n rw st c1 m cu u (allF (huB rw u) (m - i) i) = _; rw [hf]; rfl⟩⟩
   · have hf : allF (huB rw u) (m - i) i = false := by rw [hstep]; simp only [huB]; rw [show inB (u i).row 0 (IntKind.i64.wrap (rw - 1)) = false by simpa using h2, Bool.and_false, Bool.and_false]; rfl
     exact ⟨⟨clF, trivial⟩, .inr ⟨by simp, by show ob20n rw st c1 m cu u (allF (huB rw u) (m - i) i) = _; rw [hf]; rfl⟩⟩
   · have ht : huB rw u i = true := by simp only [huB]; rw [show inB (u i).fl 0 40 = true by simpa using h, show inB (u i).br 0 10 = true by simpa using h', show inB (u i).row 0 (IntKind.i64.wrap (rw - 1)) = true by simpa using h2]; rfl
     rw [hw]
     refine ⟨⟨cl1r, trivial⟩, .inl ⟨rfl, i + 1, hlt, by show m - (i + 1) < m - i; omega, rfl, ?_⟩⟩
     show ob20n rw st c1 m cu u (allF (huB rw u) (m - (i + 1)) (i + 1)) = ob20n rw st c1 m cu u (allF (huB rw u) (m - i) i)
     rw [hstep, ht, Bool.true_and]
 · have e : i = m := by omega
   subst e
   refine ⟨T20bn, _, rfl, (b20bn rw st c1 i cu i false false false u _).mpr ⟨fun h => absurd (of_decide_eq_true h) (by omega), fun _ => ?_⟩⟩
   refine ⟨⟨cl1r, trivial⟩, .inr ⟨by simp, ?_⟩⟩
   show ob20n rw st c1 i cu u (allF (huB rw u) (i - i) i) = _
   rw [Nat.sub_self]
   rfl
theorem C20n_ok : ConOK Tryd.prog 20 (C20n rw st c1 m cu (raL m u) (okS0 rw st m u)) := by
 refine con_of vx_sound ⟨⟨[I rw, I st], [(m, cu)]⟩, [raL m u]⟩ (fun y hy => ?_) rfl (fun y _ => rfl) (fun y hy => ?_) rfl (Nat.le_of_ble_eq_true rfl) (by rw [nglob]; exact Nat.le_of_ble_eq_true rfl)
 · cases hy
   have key : ∀ R : ARes → Prop, R (.ret (.bool (okS0 rw st m u))) → ∃ hs, vx.call 20 [su_n rw st c1 m cu] (retK R) (mH (raL m u)) hs := fun R hR => by
    have k1 := C52_ok rw 1 6
    have k2 := C52_ok st 0 4
    unfold okS0 at hR
    have pre : ∀ X : Prop, ((decide ((m : Int) > 5)) = false → inB rw 1 6 = true → inB st 0 4 = true → X) → (((!inB rw 1 6) = true → R (.ret (.bool false))) ∧ ((!inB rw 1 6) = false → ConOK Tryd.prog 52 (C52 st 0 4 (inB st 0 4)) ∧ Con.pre (C52 st 0 4 (inB st 0 4)) ⟨⟨[I st, I 0, I 4], []⟩, []⟩ ∧ (((!inB st 0 4) = true → R (.ret (.bool false))) ∧ ((!inB st 0 4) = false → ((decide ((m : Int) > 5)) = true → R (.ret (.bool false))) ∧ ((decide ((m : Int) > 5)) = false → X))))) := fun X hX => by
     refine ⟨fun h => ?_, fun h => ⟨k2, rfl, fun h2 => ?_, fun h2 => ⟨fun h5 => ?_, fun h5 => hX h5 (by simpa using h) (by simpa using h2)⟩⟩⟩
     · rw [show inB rw 1 6 = false by simpa using h] at hR; exact hR
     · rw [show inB rw 1 6 = true by simpa using h, show inB st 0 4 = false by simpa using h2] at hR; exact hR
     · rw [show inB rw 1 6 = true by simpa using h, show inB st 0 4 = true by simpa using h2, h5] at hR; exact hR
    have m5 : (decide ((m : Int) > 5)) = false → m ≤ 5 := fun h => by have := of_decide_eq_false h; omega
    cases hb : allF (huB rw u) m 0 with
    | false => exact ⟨_, (f20un rw st c1 m cu (inB rw 1 6) (inB st 0 4) u R).mpr ⟨k1, rfl, pre _ fun h5 h1 h2 => ⟨cl1r, loop20bn (c1 := c1) (m5 h5) hb rfl, by rw [h1, h2, h5, hb] at hR; exact hR⟩⟩⟩
    | true => exact ⟨_, (f20tn rw st c1 m cu (inB rw 1 6) (inB st 0 4) u R).mpr ⟨k1, rfl, pre _ fun h5 h1 h2 => ⟨cl1r, loop20bn (c1 := c1) (m5 h5) hb rfl, by rw [h1, h2, h5, hb] at hR; exact hR⟩⟩⟩
   obtain ⟨hs, h⟩ := key (fun r => r = .ret (.bool (okS0 rw st m u))) rfl
   exact ⟨hs, h⟩
 · cases hy
   exact at1r
noncomputable def ob20v (rw st : Int) (c1 m cu : Nat) (u : Nat → Raw) (b : Bool) : AExit × Nat × Hw := if b = true then (.exit 2, 0, h20v rw st c1 m cu (raL m u) m) else (.ret, 1, ⟨⟨[.bool false], []⟩, [], []⟩)
theorem loop20bv (h5 : m ≤ 5) {b : Bool} (hb : allF (huB rw u) m 0 = b) {T1 : Tw} (h1 : [T20bv, R20][(ob20v rw st c1 m cu u b).2.1]? = some T1) :
    LoopOW Tryd.prog none p20b T20bv (h20v rw st c1 m cu (raL m u) 0) (ob20v rw st c1 m cu u b).1 T1 (ob20v rw st c1 m cu u b).2.2 := by
 have e0 : b = allF (huB rw u) (m - 0) 0 := by rw [Nat.sub_zero, hb]
 rw [e0] at h1 ⊢
 refine loop_vcW (P := Tryd.prog) (ro := none) (p := p20b) (Ts := [T20bv, R20]) (k := 6) (X := Nat) (inv := fun i => i ≤ m) (μ := fun i => m - i) (st := fun i => (0, h20v rw st c1 m cu (raL m u) i)) (out := fun i => ob20v rw st c1 m cu u (allF (huB rw u) (m - i) i)) rfl vx_sound
  (by intro T hT; simp only [List.mem_cons, List.not_mem_nil, or_false] at hT; rcases hT with rfl | rfl <;> rfl) (by rw [nglob]; omega) (fun i hi => ?_) (x := 0) (Nat.zero_le m) (T0 := T20bv) rfl (Nat.le_of_ble_eq_true rfl) (by decide) h1
 have hi : i ≤ m := hi
 by_cases hlt : i < m
 · have hw := wrS (i := i) (by omega)
   have hstep : allF (huB rw u) (m - i) i = (huB rw u i && allF (huB rw u) (m - (i + 1)) (i + 1)) := by
    have : m - i = (m - (i + 1)) + 1 := by omega
    rw [this]; rfl
   have pu := raL_part u hlt
   have lu := raL_len m u
   refine ⟨T20bv, _, rfl, (b20bv rw st c1 m cu i (inB (u i).fl 0 40) (inB (u i).br 0 10) (inB (u i).row 0 (IntKind.i64.wrap (rw - 1))) u _).mpr ⟨fun _ => ⟨⟨⟨by omega, by omega⟩, rfl⟩, ⟨by rw [lu]; omega, by rw [pu]; rfl⟩, C52_ok _ _ _, rfl, fun h => ?_, fun h => ⟨C52_ok _ _ _, rfl, fun h' => ?_, fun h' => ⟨C52_ok _ _ _, rfl, fun h2 => ?_, fun h2 => ?_⟩⟩⟩, fun h => absurd (by omega) (of_decide_eq_false h)⟩⟩
   · have hf : allF (huB rw u) (m - i) i = false := by rw [hstep]; simp only [huB]; rw [show inB (u i).fl 0 40 = false by simpa using h]; rfl
     exact ⟨⟨clF, trivial⟩, .inr ⟨by simp, by show ob20v rw st c1 m cu u (allF (huB rw u) (m - i) i) = _; rw [hf]; rfl⟩⟩
   · have hf : allF (huB rw u) (m - i) i = false := by rw [hstep]; simp only [huB]; rw [show inB (u i).br 0 10 = false by simpa using h', Bool.false_and, Bool.and_false]; rfl
     exact ⟨⟨clF, trivial⟩, .inr ⟨by simp, by show ob20v rw st c1 m cu u (allF (huB rw u) (m - i) i) = _; rw [hf]; rfl⟩⟩
   · have hf : allF (huB rw u) (m - i) i = false := by rw [hstep]; simp only [huB]; rw [show inB (u i).row 0 (IntKind.i64.wrap (rw - 1)) = false by simpa using h2, Bool.and_false, Bool.and_false]; rfl
     exact ⟨⟨clF, trivial⟩, .inr ⟨by simp, by show ob20v rw st c1 m cu u (allF (huB rw u) (m - i) i) = _; rw [hf]; rfl⟩⟩
   · have ht : huB rw u i = true := by simp only [huB]; rw [show inB (u i).fl 0 40 = true by simpa using h, show inB (u i).br 0 10 = true by simpa using h', show inB (u i).row 0 (IntKind.i64.wrap (rw - 1)) = true by simpa using h2]; rfl
     rw [hw]
     refine ⟨⟨cl1r, trivial⟩, .inl ⟨rfl, i + 1, hlt, by show m - (i + 1) < m - i; omega, rfl, ?_⟩⟩
     show ob20v rw st c1 m cu u (allF (huB rw u) (m - (i + 1)) (i + 1)) = ob20v rw st c1 m cu u (allF (huB rw u) (m - i) i)
     rw [hstep, ht, Bool.true_and]
 · have e : i = m := by omega
   subst e
   refine ⟨T20bv, _, rfl, (b20bv rw st c1 i cu i false false false u _).mpr ⟨fun h => absurd (of_decide_eq_true h) (by omega), fun _ => ?_⟩⟩
   refine ⟨⟨cl1r, trivial⟩, .inr ⟨by simp, ?_⟩⟩
   show ob20v rw st c1 i cu u (allF (huB rw u) (i - i) i) = _
   rw [Nat.sub_self]
   rfl
theorem C20v_ok : ConOK Tryd.prog 20 (C20v rw st c1 m cu (raL m u) (okS0 rw st m u)) := by
 refine con_of vx_sound ⟨⟨[I rw, I st], [(0, c1), (m, cu)]⟩, [raL m u]⟩ (fun y hy => ?_) rfl (fun y _ => rfl) (fun y hy => ?_) rfl (Nat.le_of_ble_eq_true rfl) (by rw [nglob]; exact Nat.le_of_ble_eq_true rfl)
 · cases hy
   have key : ∀ R : ARes → Prop, R (.ret (.bool (okS0 rw st m u))) → ∃ hs, vx.call 20 [su_v rw st c1 m cu] (retK R) (mH (raL m u)) hs := fun R hR => by
    have k1 := C52_ok rw 1 6
    have k2 := C52_ok st 0 4
    unfold okS0 at hR
    have pre : ∀ X : Prop, ((decide ((m : Int) > 5)) = false → inB rw 1 6 = true → inB st 0 4 = true → X) → (((!inB rw 1 6) = true → R (.ret (.bool false))) ∧ ((!inB rw 1 6) = false → ConOK Tryd.prog 52 (C52 st 0 4 (inB st 0 4)) ∧ Con.pre (C52 st 0 4 (inB st 0 4)) ⟨⟨[I st, I 0, I 4], []⟩, []⟩ ∧ (((!inB st 0 4) = true → R (.ret (.bool false))) ∧ ((!inB st 0 4) = false → ((decide ((m : Int) > 5)) = true → R (.ret (.bool false))) ∧ ((decide ((m : Int) > 5)) = false → X))))) := fun X hX => by
     refine ⟨fun h => ?_, fun h => ⟨k2, rfl, fun h2 => ?_, fun h2 => ⟨fun h5 => ?_, fun h5 => hX h5 (by simpa using h) (by simpa using h2)⟩⟩⟩
     · rw [show inB rw 1 6 = false by simpa using h] at hR; exact hR
     · rw [show inB rw 1 6 = true by simpa using h, show inB st 0 4 = false by simpa using h2] at hR; exact hR
     · rw [show inB rw 1 6 = true by simpa using h, show inB st 0 4 = true by simpa using h2, h5] at hR; exact hR
    have m5 : (decide ((m : Int) > 5)) = false → m ≤ 5 := fun h => by have := of_decide_eq_false h; omega
    cases hb : allF (huB rw u) m 0 with
    | false => exact ⟨_, (f20uv rw st c1 m cu (inB rw 1 6) (inB st 0 4) u R).mpr ⟨k1, rfl, pre _ fun h5 h1 h2 => ⟨cl1r, loop20bv (c1 := c1) (m5 h5) hb rfl, by rw [h1, h2, h5, hb] at hR; exact hR⟩⟩⟩
    | true => exact ⟨_, (f20tv rw st c1 m cu (inB rw 1 6) (inB st 0 4) u R).mpr ⟨k1, rfl, pre _ fun h5 h1 h2 => ⟨cl1r, loop20bv (c1 := c1) (m5 h5) hb rfl, by rw [h1, h2, h5, hb] at hR; exact hR⟩⟩⟩
   obtain ⟨hs, h⟩ := key (fun r => r = .ret (.bool (okS0 rw st m u))) rfl
   exact ⟨hs, h⟩
 · cases hy
   exact at1r
noncomputable def ob20w (rw st : Int) (c1 m cu : Nat) (u : Nat → Raw) (b : Bool) : AExit × Nat × Hw := if b = true then (.exit 2, 0, h20w rw st c1 m cu (raL m u) m) else (.ret, 1, ⟨⟨[.bool false], []⟩, [], []⟩)
theorem loop20bw (h5 : m ≤ 5) {b : Bool} (hb : allF (huB rw u) m 0 = b) {T1 : Tw} (h1 : [T20bw, R20][(ob20w rw st c1 m cu u b).2.1]? = some T1) :
    LoopOW Tryd.prog none p20b T20bw (h20w rw st c1 m cu (raL m u) 0) (ob20w rw st c1 m cu u b).1 T1 (ob20w rw st c1 m cu u b).2.2 := by
 have e0 : b = allF (huB rw u) (m - 0) 0 := by rw [Nat.sub_zero, hb]
 rw [e0] at h1 ⊢
 refine loop_vcW (P := Tryd.prog) (ro := none) (p := p20b) (Ts := [T20bw, R20]) (k := 6) (X := Nat) (inv := fun i => i ≤ m) (μ := fun i => m - i) (st := fun i => (0, h20w rw st c1 m cu (raL m u) i)) (out := fun i => ob20w rw st c1 m cu u (allF (huB rw u) (m - i) i)) rfl vx_sound
  (by intro T hT; simp only [List.mem_cons, List.not_mem_nil, or_false] at hT; rcases hT with rfl | rfl <;> rfl) (by rw [nglob]; omega) (fun i hi => ?_) (x := 0) (Nat.zero_le m) (T0 := T20bw) rfl (Nat.le_of_ble_eq_true rfl) (by decide) h1
 have hi : i ≤ m := hi
 by_cases hlt : i < m
 · have hw := wrS (i := i) (by omega)
   have hstep : allF (huB rw u) (m - i) i = (huB rw u i && allF (huB rw u) (m - (i + 1)) (i + 1)) := by
    have : m - i = (m - (i + 1)) + 1 := by omega
    rw [this]; rfl
   have pu := raL_part u hlt
   have lu := raL_len m u
   refine ⟨T20bw, _, rfl, (b20bw rw st c1 m cu i (inB (u i).fl 0 40) (inB (u i).br 0 10) (inB (u i).row 0 (IntKind.i64.wrap (rw - 1))) u _).mpr ⟨fun _ => ⟨⟨⟨by omega, by omega⟩, rfl⟩, ⟨by rw [lu]; omega, by rw [pu]; rfl⟩, C52_ok _ _ _, rfl, fun h => ?_, fun h => ⟨C52_ok _ _ _, rfl, fun h' => ?_, fun h' => ⟨C52_ok _ _ _, rfl, fun h2 => ?_, fun h2 => ?_⟩⟩⟩, fun h => absurd (by omega) (of_decide_eq_false h)⟩⟩
   · have hf : allF (huB rw u) (m - i) i = false := by rw [hstep]; simp only [huB]; rw [show inB (u i).fl 0 40 = false by simpa using h]; rfl
     exact ⟨⟨clF, trivial⟩, .inr ⟨by simp, by show ob20w rw st c1 m cu u (allF (huB rw u) (m - i) i) = _; rw [hf]; rfl⟩⟩
   · have hf : allF (huB rw u) (m - i) i = false := by rw [hstep]; simp only [huB]; rw [show inB (u i).br 0 10 = false by simpa using h', Bool.false_and, Bool.and_false]; rfl
     exact ⟨⟨clF, trivial⟩, .inr ⟨by simp, by show ob20w rw st c1 m cu u (allF (huB rw u) (m - i) i) = _; rw [hf]; rfl⟩⟩
   · have hf : allF (huB rw u) (m - i) i = false := by rw [hstep]; simp only [huB]; rw [show inB (u i).row 0 (IntKind.i64.wrap (rw - 1)) = false by simpa using h2, Bool.and_false, Bool.and_false]; rfl
     exact ⟨⟨clF, trivial⟩, .inr ⟨by simp, by show ob20w rw st c1 m cu u (allF (huB rw u) (m - i) i) = _; rw [hf]; rfl⟩⟩
   · have ht : huB rw u i = true := by simp only [huB]; rw [show inB (u i).fl 0 40 = true by simpa using h, show inB (u i).br 0 10 = true by simpa using h', show inB (u i).row 0 (IntKind.i64.wrap (rw - 1)) = true by simpa using h2]; rfl
     rw [hw]
     refine ⟨⟨cl1r, trivial⟩, .inl ⟨rfl, i + 1, hlt, by show m - (i + 1) < m - i; omega, rfl, ?_⟩⟩
     show ob20w rw st c1 m cu u (allF (huB rw u) (m - (i + 1)) (i + 1)) = ob20w rw st c1 m cu u (allF (huB rw u) (m - i) i)
     rw [hstep, ht, Bool.true_and]
 · have e : i = m := by omega
   subst e
   refine ⟨T20bw, _, rfl, (b20bw rw st c1 i cu i false false false u _).mpr ⟨fun h => absurd (of_decide_eq_true h) (by omega), fun _ => ?_⟩⟩
   refine ⟨⟨cl1r, trivial⟩, .inr ⟨by simp, ?_⟩⟩
   show ob20w rw st c1 i cu u (allF (huB rw u) (i - i) i) = _
   rw [Nat.sub_self]
   rfl
theorem C20w_ok : ConOK Tryd.prog 20 (C20w rw st c1 m cu (raL m u) (okS0 rw st m u)) := by
 refine con_of vx_sound ⟨⟨[I rw, I st], [(0, c1), (m, cu)]⟩, [raL m u]⟩ (fun y hy => ?_) rfl (fun y _ => rfl) (fun y hy => ?_) rfl (Nat.le_of_ble_eq_true rfl) (by rw [nglob]; exact Nat.le_of_ble_eq_true rfl)
 · cases hy
   have key : ∀ R : ARes → Prop, R (.ret (.bool (okS0 rw st m u))) → ∃ hs, vx.call 20 [su_w rw st c1 m cu] (retK R) (mH (raL m u)) hs := fun R hR => by
    have k1 := C52_ok rw 1 6
    have k2 := C52_ok st 0 4
    unfold okS0 at hR
    have pre : ∀ X : Prop, ((decide ((m : Int) > 5)) = false → inB rw 1 6 = true → inB st 0 4 = true → X) → (((!inB rw 1 6) = true → R (.ret (.bool false))) ∧ ((!inB rw 1 6) = false → ConOK Tryd.prog 52 (C52 st 0 4 (inB st 0 4)) ∧ Con.pre (C52 st 0 4 (inB st 0 4)) ⟨⟨[I st, I 0, I 4], []⟩, []⟩ ∧ (((!inB st 0 4) = true → R (.ret (.bool false))) ∧ ((!inB st 0 4) = false → ((decide ((m : Int) > 5)) = true → R (.ret (.bool false))) ∧ ((decide ((m : Int) > 5)) = false → X))))) := fun X hX => by
     refine ⟨fun h => ?_, fun h => ⟨k2, rfl, fun h2 => ?_, fun h2 => ⟨fun h5 => ?_, fun h5 => hX h5 (by simpa using h) (by simpa using h2)⟩⟩⟩
     · rw [show inB rw 1 6 = false by simpa using h] at hR; exact hR
     · rw [show inB rw 1 6 = true by simpa using h, show inB st 0 4 = false by simpa using h2] at hR; exact hR
     · rw [show inB rw 1 6 = true by simpa using h, show inB st 0 4 = true by simpa using h2, h5] at hR; exact hR
    have m5 : (decide ((m : Int) > 5)) = false → m ≤ 5 := fun h => by have := of_decide_eq_false h; omega
    cases hb : allF (huB rw u) m 0 with
    | false => exact ⟨_, (f20uw rw st c1 m cu (inB rw 1 6) (inB st 0 4) u R).mpr ⟨k1, rfl, pre _ fun h5 h1 h2 => ⟨cl1r, loop20bw (c1 := c1) (m5 h5) hb rfl, by rw [h1, h2, h5, hb] at hR; exact hR⟩⟩⟩
    | true => exact ⟨_, (f20tw rw st c1 m cu (inB rw 1 6) (inB st 0 4) u R).mpr ⟨k1, rfl, pre _ fun h5 h1 h2 => ⟨cl1r, loop20bw (c1 := c1) (m5 h5) hb rfl, by rw [h1, h2, h5, hb] at hR; exact hR⟩⟩⟩
   obtain ⟨hs, h⟩ := key (fun r => r = .ret (.bool (okS0 rw st m u))) rfl
   exact ⟨hs, h⟩
 · cases hy
   exact at1r
end
section
variable {rw st : Int} {c1 m cu : Nat} {u : Nat → Hut}
theorem cl1h {a : List Value} {b : List (Nat × Nat)} : ClW ⟨⟨a, b⟩, [huL m u], []⟩ := by
 refine ⟨fun cs hc => ?_, fun e hc => (by cases hc)⟩
 simp only [List.mem_singleton] at hc
 subst hc
 exact huL_at _ _
theorem at1h : Atoms [huL m u] := by
 intro cs hc
 simp only [List.mem_singleton] at hc
 subst hc
 exact huL_at _ _
theorem one_cast {row : Nat} (hr : row ≤ 6) : IntKind.i64.wrap ((1 : Int) * (2 : Int) ^ ((row : Int)).toNat) = ((2 ^ row : Nat) : Int) := by rw [Int.toNat_natCast]; exact one_row hr
theorem pow_not64 {row : Nat} (hr : row < 6) : (2 : Nat) ^ row ≠ 64 := by
 intro h
 have := (Nat.pow_right_inj (a := 2) (by omega) (m := row) (n := 6)).1 h
 omega
theorem loop79bn (hrw : 1 ≤ rw ∧ rw ≤ 6) (hU : HUK rw m u) : LoopOW Tryd.prog none p79b T79bn (h79n rw st c1 m cu (huL m u) 0) (.exit 2) T79bn (h79n rw st c1 m cu (huL m u) m) := by
 have h5 := hU.m5
 refine loop_forW (Ts := [T79bn]) (k := 6) (n := m) (e := .exit 2) (st := fun i => (0, h79n rw st c1 m cu (huL m u) i)) rfl vx_sound ?_ (by rw [nglob]; omega) ⟨by simp, trivial⟩ (fun i _ => cl1h) (fun i hi R hR => ?_) (fun R hR => ?_) rfl (Nat.le_of_ble_eq_true rfl) (by decide) rfl
 · intro T hT; simp only [List.mem_singleton] at hT; subst hT; rfl
 · have hw := wrS (i := i) (by omega)
   obtain ⟨u0, u1, u2, u3, u4⟩ := hU.u i hi
   have er : IntKind.i64.wrap (rw - 1) = rw - 1 := wrapI (by omega) (by omega)
   have pu := huL_part u hi
   have lu := huL_len m u
   refine ⟨T79bn, _, rfl, (b79bn rw st c1 m cu i u R).mpr ⟨fun _ => ?_, fun h => absurd (by omega) (of_decide_eq_false h)⟩⟩
   rw [er, hw]
   exact ⟨⟨⟨by omega, by omega⟩, rfl⟩, ⟨by rw [lu]; omega, by rw [pu]; rfl⟩, tt (decide_eq_true (by omega)), tt (decide_eq_true (by omega)), tt (decide_eq_true (by omega)), tt (decide_eq_true (by omega)), tt (decide_eq_true (by omega)), hR⟩
 · exact ⟨T79bn, _, rfl, (b79bn rw st c1 m cu m u R).mpr ⟨fun h => absurd (of_decide_eq_true h) (by omega), fun _ => hR⟩⟩
theorem C79n_ok (hrw : 1 ≤ rw ∧ rw ≤ 6) (hst : 0 ≤ st ∧ st ≤ 4) (hU : HUK rw m u) : ConOK Tryd.prog 79 (C20n rw st c1 m cu (huL m u) true) := by
 have lb := loop79bn (st := st) (c1 := c1) (cu := cu) hrw hU
 have h5 := hU.m5
 refine con_of vx_sound ⟨⟨[I rw, I st], [(m, cu)]⟩, [huL m u]⟩ (fun y hy => ?_) rfl (fun y _ => rfl) (fun y hy => ?_) rfl (Nat.le_of_ble_eq_true rfl) (by rw [nglob]; exact Nat.le_of_ble_eq_true rfl)
 · cases hy
   exact ⟨_, (f79n rw st c1 m cu u _).mpr ⟨tt (decide_eq_true hrw.1), tt (decide_eq_true hrw.2), tt (decide_eq_true hst.1), tt (decide_eq_true hst.2), tf (decide_eq_false (by omega)), cl1h, lb, rfl⟩⟩
 · cases hy
   exact at1h
theorem C14n_ok (hrw : 1 ≤ rw ∧ rw ≤ 6) (hst : 0 ≤ st ∧ st ≤ 4) (hU : HUK rw m u) {hut : Nat} (hh : hut < m) : ConOK Tryd.prog 14 (CSn rw st c1 m cu (huL m u) hut (.tuple ⟨[I 0, I 0, I 0]⟩)) := by
 obtain ⟨u0, u1, u2, u3, u4⟩ := hU.u hut hh
 have h5 := hU.m5
 have pu := huL_part u hh
 have lu := huL_len m u
 have e : IntKind.i64.wrap ((m : Int) - 1) = (m : Int) - 1 := wrapI (by omega) (by omega)
 refine con_of vx_sound ⟨⟨[I rw, I st, I hut], [(m, cu)]⟩, [huL m u]⟩ (fun y hy => ?_) rfl (fun y _ => rfl) (fun y hy => ?_) rfl (Nat.le_of_ble_eq_true rfl) (by rw [nglob]; exact Nat.le_of_ble_eq_true rfl)
 · cases hy
   refine ⟨_, (f14n rw st c1 m cu hut u _).mpr ?_⟩
   rw [e]
   exact ⟨C79n_ok (c1 := c1) hrw hst hU, rfl, tt (decide_eq_true (by omega)), ⟨⟨by omega, by omega⟩, rfl⟩, ⟨by rw [lu]; omega, by rw [pu]; rfl⟩, ⟨⟨by rw [lu]; omega, by rw [pu]; rfl⟩, rfl, trivial⟩, ⟨⟨by omega, by omega⟩, rfl⟩, ⟨⟨Nat.le_refl _, rfl⟩, ⟨Nat.le_refl _, rfl⟩, trivial⟩, ⟨⟨by omega, by omega⟩, rfl⟩, rfl⟩
 · cases hy
   exact at1h
theorem C16n_ok (hrw : 1 ≤ rw ∧ rw ≤ 6) (hst : 0 ≤ st ∧ st ≤ 4) (hU : HUK rw m u) {hut : Nat} (hh : hut < m) : ConOK Tryd.prog 16 (CSn rw st c1 m cu (huL m u) hut (.tuple ⟨[I 0, I 4]⟩)) := by
 obtain ⟨u0, u1, u2, u3, u4⟩ := hU.u hut hh
 have h5 := hU.m5
 have pu := huL_part u hh
 have lu := huL_len m u
 have e : IntKind.i64.wrap ((m : Int) - 1) = (m : Int) - 1 := wrapI (by omega) (by omega)
 refine con_of vx_sound ⟨⟨[I rw, I st, I hut], [(m, cu)]⟩, [huL m u]⟩ (fun y hy => ?_) rfl (fun y _ => rfl) (fun y hy => ?_) rfl (Nat.le_of_ble_eq_true rfl) (by rw [nglob]; exact Nat.le_of_ble_eq_true rfl)
 · cases hy
   refine ⟨_, (f16n rw st c1 m cu hut u _).mpr ?_⟩
   rw [e]
   exact ⟨C79n_ok (c1 := c1) hrw hst hU, rfl, tt (decide_eq_true (by omega)), ⟨⟨by omega, by omega⟩, rfl⟩, ⟨by rw [lu]; omega, by rw [pu]; rfl⟩, ⟨⟨by rw [lu]; omega, by rw [pu]; rfl⟩, rfl, trivial⟩, ⟨⟨by omega, by omega⟩, rfl⟩, ⟨⟨Nat.le_refl _, rfl⟩, ⟨Nat.le_refl _, rfl⟩, trivial⟩, ⟨⟨by omega, by omega⟩, rfl⟩, rfl⟩
 · cases hy
   exact at1h
theorem C15n_ok (hrw : 1 ≤ rw ∧ rw ≤ 6) (hst : 0 ≤ st ∧ st ≤ 4) (hU : HUK rw m u) {hut : Nat} (hh : hut < m) : ConOK Tryd.prog 15 (CSn rw st c1 m cu (huL m u) hut (.tuple ⟨[I 0, I 0]⟩)) := by
 obtain ⟨u0, u1, u2, u3, u4⟩ := hU.u hut hh
 have h5 := hU.m5
 have pu := huL_part u hh
 have lu := huL_len m u
 have e : IntKind.i64.wrap ((m : Int) - 1) = (m : Int) - 1 := wrapI (by omega) (by omega)
 refine con_of vx_sound ⟨⟨[I rw, I st, I hut], [(m, cu)]⟩, [huL m u]⟩ (fun y hy => ?_) rfl (fun y _ => rfl) (fun y hy => ?_) rfl (Nat.le_of_ble_eq_true rfl) (by rw [nglob]; exact Nat.le_of_ble_eq_true rfl)
 · cases hy
   obtain ⟨e1, e2⟩ := los_eq (c := 2 ^ (u hut).row) (pow_lt7 (by omega))
   have l1 := e1.trans (decide_eq_false (pow_not64 (show (u hut).row < 6 by omega)))
   have l2 := e2.trans (show (2 ^ (u hut).row).testBit 6 = false by rw [Nat.testBit_two_pow, decide_eq_false (by omega)])
   rw [← one_cast (show (u hut).row ≤ 6 by omega)] at l1 l2
   refine ⟨_, (f15n rw st c1 m cu hut u _).mpr ?_⟩
   rw [e]
   exact ⟨C79n_ok (c1 := c1) hrw hst hU, rfl, tt (decide_eq_true (by omega)), ⟨⟨by omega, by omega⟩, rfl⟩, ⟨by rw [lu]; omega, by rw [pu]; rfl⟩, ⟨⟨by rw [lu]; omega, by rw [pu]; rfl⟩, rfl, trivial⟩, ⟨⟨by omega, by omega⟩, rfl⟩, tf l1, tf l2, rfl⟩
 · cases hy
   exact at1h
theorem loop79bv (hrw : 1 ≤ rw ∧ rw ≤ 6) (hU : HUK rw m u) : LoopOW Tryd.prog none p79b T79bv (h79v rw st c1 m cu (huL m u) 0) (.exit 2) T79bv (h79v rw st c1 m cu (huL m u) m) := by
 have h5 := hU.m5
 refine loop_forW (Ts := [T79bv]) (k := 6) (n := m) (e := .exit 2) (st := fun i => (0, h79v rw st c1 m cu (huL m u) i)) rfl vx_sound ?_ (by rw [nglob]; omega) ⟨by simp, trivial⟩ (fun i _ => cl1h) (fun i hi R hR => ?_) (fun R hR => ?_) rfl (Nat.le_of_ble_eq_true rfl) (by decide) rfl
 · intro T hT; simp only [List.mem_singleton] at hT; subst hT; rfl
 · have hw := wrS (i := i) (by omega)
   obtain ⟨u0, u1, u2, u3, u4⟩ := hU.u i hi
   have er : IntKind.i64.wrap (rw - 1) = rw - 1 := wrapI (by omega) (by omega)
   have pu := huL_part u hi
   have lu := huL_len m u
   refine ⟨T79bv, _, rfl, (b79bv rw st c1 m cu i u R).mpr ⟨fun _ => ?_, fun h => absurd (by omega) (of_decide_eq_false h)⟩⟩
   rw [er, hw]
   exact ⟨⟨⟨by omega, by omega⟩, rfl⟩, ⟨by rw [lu]; omega, by rw [pu]; rfl⟩, tt (decide_eq_true (by omega)), tt (decide_eq_true (by omega)), tt (decide_eq_true (by omega)), tt (decide_eq_true (by omega)), tt (decide_eq_true (by omega)), hR⟩
 · exact ⟨T79bv, _, rfl, (b79bv rw st c1 m cu m u R).mpr ⟨fun h => absurd (of_decide_eq_true h) (by omega), fun _ => hR⟩⟩
theorem C79v_ok (hrw : 1 ≤ rw ∧ rw ≤ 6) (hst : 0 ≤ st ∧ st ≤ 4) (hU : HUK rw m u) : ConOK Tryd.prog 79 (C20v rw st c1 m cu (huL m u) true) := by
 have lb := loop79bv (st := st) (c1 := c1) (cu := cu) hrw hU
 have h5 := hU.m5
 refine con_of vx_sound ⟨⟨[I rw, I st], [(0, c1), (m, cu)]⟩, [huL m u]⟩ (fun y hy => ?_) rfl (fun y _ => rfl) (fun y hy => ?_) rfl (Nat.le_of_ble_eq_true rfl) (by rw [nglob]; exact Nat.le_of_ble_eq_true rfl)
 · cases hy
   exact ⟨_, (f79v rw st c1 m cu u _).mpr ⟨tt (decide_eq_true hrw.1), tt (decide_eq_true hrw.2), tt (decide_eq_true hst.1), tt (decide_eq_true hst.2), tf (decide_eq_false (by omega)), cl1h, lb, rfl⟩⟩
 · cases hy
   exact at1h
theorem C14v_ok (hrw : 1 ≤ rw ∧ rw ≤ 6) (hst : 0 ≤ st ∧ st ≤ 4) (hU : HUK rw m u) {hut : Nat} (hh : hut < m) : ConOK Tryd.prog 14 (CSv rw st c1 m cu (huL m u) hut (.tuple ⟨[I 0, I 0, I 0]⟩)) := by
 obtain ⟨u0, u1, u2, u3, u4⟩ := hU.u hut hh
 have h5 := hU.m5
 have pu := huL_part u hh
 have lu := huL_len m u
 have e : IntKind.i64.wrap ((m : Int) - 1) = (m : Int) - 1 := wrapI (by omega) (by omega)
 refine con_of vx_sound ⟨⟨[I rw, I st, I hut], [(0, c1), (m, cu)]⟩, [huL m u]⟩ (fun y hy => ?_) rfl (fun y _ => rfl) (fun y hy => ?_) rfl (Nat.le_of_ble_eq_true rfl) (by rw [nglob]; exact Nat.le_of_ble_eq_true rfl)
 · cases hy
   refine ⟨_, (f14v rw st c1 m cu hut u _).mpr ?_⟩
   rw [e]
   exact ⟨C79v_ok (c1 := c1) hrw hst hU, rfl, tt (decide_eq_true (by omega)), ⟨⟨by omega, by omega⟩, rfl⟩, ⟨by rw [lu]; omega, by rw [pu]; rfl⟩, ⟨⟨by rw [lu]; omega, by rw [pu]; rfl⟩, rfl, trivial⟩, ⟨⟨by omega, by omega⟩, rfl⟩, ⟨⟨Nat.le_refl _, rfl⟩, ⟨Nat.le_refl _, rfl⟩, trivial⟩, ⟨⟨by omega, by omega⟩, rfl⟩, rfl⟩
 · cases hy
   exact at1h
theorem C16v_ok (hrw : 1 ≤ rw ∧ rw ≤ 6) (hst : 0 ≤ st ∧ st ≤ 4) (hU : HUK rw m u) {hut : Nat} (hh : hut < m) : ConOK Tryd.prog 16 (CSv rw st c1 m cu (huL m u) hut (.tuple ⟨[I 0, I 4]⟩)) := by
 obtain ⟨u0, u1, u2, u3, u4⟩ := hU.u hut hh
 have h5 := hU.m5
 have pu := huL_part u hh
 have lu := huL_len m u
 have e : IntKind.i64.wrap ((m : Int) - 1) = (m : Int) - 1 := wrapI (by omega) (by omega)
 refine con_of vx_sound ⟨⟨[I rw, I st, I hut], [(0, c1), (m, cu)]⟩, [huL m u]⟩ (fun y hy => ?_) rfl (fun y _ => rfl) (fun y hy => ?_) rfl (Nat.le_of_ble_eq_true rfl) (by rw [nglob]; exact Nat.le_of_ble_eq_true rfl)
 · cases hy
   refine ⟨_, (f16v rw st c1 m cu hut u _).mpr ?_⟩
   rw [e]
   exact ⟨C79v_ok (c1 := c1) hrw hst hU, rfl, tt (decide_eq_true (by omega)), ⟨⟨by omega, by omega⟩, rfl⟩, ⟨by rw [lu]; omega, by rw [pu]; rfl⟩, ⟨⟨by rw [lu]; omega, by rw [pu]; rfl⟩, rfl, trivial⟩, ⟨⟨by omega, by omega⟩, rfl⟩, ⟨⟨Nat.le_refl _, rfl⟩, ⟨Nat.le_refl _, rfl⟩, trivial⟩, ⟨⟨by omega, by omega⟩, rfl⟩, rfl⟩
 · cases hy
   exact at1h
theorem C15v_ok (hrw : 1 ≤ rw ∧ rw ≤ 6) (hst : 0 ≤ st ∧ st ≤ 4) (hU : HUK rw m u) {hut : Nat} (hh : hut < m) : ConOK Tryd.prog 15 (CSv rw st c1 m cu (huL m u) hut (.tuple ⟨[I 0, I 0]⟩)) := by
 obtain ⟨u0, u1, u2, u3, u4⟩ := hU.u hut hh
 have h5 := hU.m5
 have pu := huL_part u hh
 have lu := huL_len m u
 have e : IntKind.i64.wrap ((m : Int) - 1) = (m : Int) - 1 := wrapI (by omega) (by omega)
 refine con_of vx_sound ⟨⟨[I rw, I st, I hut], [(0, c1), (m, cu)]⟩, [huL m u]⟩ (fun y hy => ?_) rfl (fun y _ => rfl) (fun y hy => ?_) rfl (Nat.le_of_ble_eq_true rfl) (by rw [nglob]; exact Nat.le_of_ble_eq_true rfl)
 · cases hy
   obtain ⟨e1, e2⟩ := los_eq (c := 2 ^ (u hut).row) (pow_lt7 (by omega))
   have l1 := e1.trans (decide_eq_false (pow_not64 (show (u hut).row < 6 by omega)))
   have l2 := e2.trans (show (2 ^ (u hut).row).testBit 6 = false by rw [Nat.testBit_two_pow, decide_eq_false (by omega)])
   rw [← one_cast (show (u hut).row ≤ 6 by omega)] at l1 l2
   refine ⟨_, (f15v rw st c1 m cu hut u _).mpr ?_⟩
   rw [e]
   exact ⟨C79v_ok (c1 := c1) hrw hst hU, rfl, tt (decide_eq_true (by omega)), ⟨⟨by omega, by omega⟩, rfl⟩, ⟨by rw [lu]; omega, by rw [pu]; rfl⟩, ⟨⟨by rw [lu]; omega, by rw [pu]; rfl⟩, rfl, trivial⟩, ⟨⟨by omega, by omega⟩, rfl⟩, tf l1, tf l2, rfl⟩
 · cases hy
   exact at1h
theorem loop79bw (hrw : 1 ≤ rw ∧ rw ≤ 6) (hU : HUK rw m u) : LoopOW Tryd.prog none p79b T79bw (h79w rw st c1 m cu (huL m u) 0) (.exit 2) T79bw (h79w rw st c1 m cu (huL m u) m) := by
 have h5 := hU.m5
 refine loop_forW (Ts := [T79bw]) (k := 6) (n := m) (e := .exit 2) (st := fun i => (0, h79w rw st c1 m cu (huL m u) i)) rfl vx_sound ?_ (by rw [nglob]; omega) ⟨by simp, trivial⟩ (fun i _ => cl1h) (fun i hi R hR => ?_) (fun R hR => ?_) rfl (Nat.le_of_ble_eq_true rfl) (by decide) rfl
 · intro T hT; simp only [List.mem_singleton] at hT; subst hT; rfl
 · have hw := wrS (i := i) (by omega)
   obtain ⟨u0, u1, u2, u3, u4⟩ := hU.u i hi
   have er : IntKind.i64.wrap (rw - 1) = rw - 1 := wrapI (by omega) (by omega)
   have pu := huL_part u hi
   have lu := huL_len m u
   refine ⟨T79bw, _, rfl, (b79bw rw st c1 m cu i u R).mpr ⟨fun _ => ?_, fun h => absurd (by omega) (of_decide_eq_false h)⟩⟩
   rw [er, hw]
   exact ⟨⟨⟨by omega, by omega⟩, rfl⟩, ⟨by rw [lu]; omega, by rw [pu]; rfl⟩, tt (decide_eq_true (by omega)), tt (decide_eq_true (by omega)), tt (decide_eq_true (by omega)), tt (decide_eq_true (by omega)), tt (decide_eq_true (by omega)), hR⟩
 · exact ⟨T79bw, _, rfl, (b79bw rw st c1 m cu m u R).mpr ⟨fun h => absurd (of_decide_eq_true h) (by omega), fun _ => hR⟩⟩
theorem C79w_ok (hrw : 1 ≤ rw ∧ rw ≤ 6) (hst : 0 ≤ st ∧ st ≤ 4) (hU : HUK rw m u) : ConOK Tryd.prog 79 (C20w rw st c1 m cu (huL m u) true) := by
 have lb := loop79bw (st := st) (c1 := c1) (cu := cu) hrw hU
 have h5 := hU.m5
 refine con_of vx_sound ⟨⟨[I rw, I st], [(0, c1), (m, cu)]⟩, [huL m u]⟩ (fun y hy => ?_) rfl (fun y _ => rfl) (fun y hy => ?_) rfl (Nat.le_of_ble_eq_true rfl) (by rw [nglob]; exact Nat.le_of_ble_eq_true rfl)
 · cases hy
   exact ⟨_, (f79w rw st c1 m cu u _).mpr ⟨tt (decide_eq_true hrw.1), tt (decide_eq_true hrw.2), tt (decide_eq_true hst.1), tt (decide_eq_true hst.2), tf (decide_eq_false (by omega)), cl1h, lb, rfl⟩⟩
 · cases hy
   exact at1h
theorem C14w_ok (hrw : 1 ≤ rw ∧ rw ≤ 6) (hst : 0 ≤ st ∧ st ≤ 4) (hU : HUK rw m u) {hut : Nat} (hh : hut < m) : ConOK Tryd.prog 14 (CSw rw st c1 m cu (huL m u) hut (.tuple ⟨[I 0, I 0, I 0]⟩)) := by
 obtain ⟨u0, u1, u2, u3, u4⟩ := hU.u hut hh
 have h5 := hU.m5
 have pu := huL_part u hh
 have lu := huL_len m u
 have e : IntKind.i64.wrap ((m : Int) - 1) = (m : Int) - 1 := wrapI (by omega) (by omega)
 refine con_of vx_sound ⟨⟨[I rw, I st, I hut], [(0, c1), (m, cu)]⟩, [huL m u]⟩ (fun y hy => ?_) rfl (fun y _ => rfl) (fun y hy => ?_) rfl (Nat.le_of_ble_eq_true rfl) (by rw [nglob]; exact Nat.le_of_ble_eq_true rfl)
 · cases hy
   refine ⟨_, (f14w rw st c1 m cu hut u _).mpr ?_⟩
   rw [e]
   exact ⟨C79w_ok (c1 := c1) hrw hst hU, rfl, tt (decide_eq_true (by omega)), ⟨⟨by omega, by omega⟩, rfl⟩, ⟨by rw [lu]; omega, by rw [pu]; rfl⟩, ⟨⟨by rw [lu]; omega, by rw [pu]; rfl⟩, rfl, trivial⟩, ⟨⟨by omega, by omega⟩, rfl⟩, ⟨⟨Nat.le_refl _, rfl⟩, ⟨Nat.le_refl _, rfl⟩, trivial⟩, ⟨⟨by omega, by omega⟩, rfl⟩, rfl⟩
 · cases hy
   exact at1h
theorem C16w_ok (hrw : 1 ≤ rw ∧ rw ≤ 6) (hst : 0 ≤ st ∧ st ≤ 4) (hU : HUK rw m u) {hut : Nat} (hh : hut < m) : ConOK Tryd.prog 16 (CSw rw st c1 m cu (huL m u) hut (.tuple ⟨[I 0, I 4]⟩)) := by
 obtain ⟨u0, u1, u2, u3, u4⟩ := hU.u hut hh
 have h5 := hU.m5
 have pu := huL_part u hh
 have lu := huL_len m u
 have e : IntKind.i64.wrap ((m : Int) - 1) = (m : Int) - 1 := wrapI (by omega) (by omega)
 refine con_of vx_sound ⟨⟨[I rw, I st, I hut], [(0, c1), (m, cu)]⟩, [huL m u]⟩ (fun y hy => ?_) rfl (fun y _ => rfl) (fun y hy => ?_) rfl (Nat.le_of_ble_eq_true rfl) (by rw [nglob]; exact Nat.le_of_ble_eq_true rfl)
 · cases hy
   refine ⟨_, (f16w rw st c1 m cu hut u _).mpr ?_⟩
   rw [e]
   exact ⟨C79w_ok (c1 := c1) hrw hst hU, rfl, tt (decide_eq_true (by omega)), ⟨⟨by omega, by omega⟩, rfl⟩, ⟨by rw [lu]; omega, by rw [pu]; rfl⟩, ⟨⟨by rw [lu]; omega, by rw [pu]; rfl⟩, rfl, trivial⟩, ⟨⟨by omega, by omega⟩, rfl⟩, ⟨⟨Nat.le_refl _, rfl⟩, ⟨Nat.le_refl _, rfl⟩, trivial⟩, ⟨⟨by omega, by omega⟩, rfl⟩, rfl⟩
 · cases hy
   exact at1h
theorem C15w_ok (hrw : 1 ≤ rw ∧ rw ≤ 6) (hst : 0 ≤ st ∧ st ≤ 4) (hU : HUK rw m u) {hut : Nat} (hh : hut < m) : ConOK Tryd.prog 15 (CSw rw st c1 m cu (huL m u) hut (.tuple ⟨[I 0, I 0]⟩)) := by
 obtain ⟨u0, u1, u2, u3, u4⟩ := hU.u hut hh
 have h5 := hU.m5
 have pu := huL_part u hh
 have lu := huL_len m u
 have e : IntKind.i64.wrap ((m : Int) - 1) = (m : Int) - 1 := wrapI (by omega) (by omega)
 refine con_of vx_sound ⟨⟨[I rw, I st, I hut], [(0, c1), (m, cu)]⟩, [huL m u]⟩ (fun y hy => ?_) rfl (fun y _ => rfl) (fun y hy => ?_) rfl (Nat.le_of_ble_eq_true rfl) (by rw [nglob]; exact Nat.le_of_ble_eq_true rfl)
 · cases hy
   obtain ⟨e1, e2⟩ := los_eq (c := 2 ^ (u hut).row) (pow_lt7 (by omega))
   have l1 := e1.trans (decide_eq_false (pow_not64 (show (u hut).row < 6 by omega)))
   have l2 := e2.trans (show (2 ^ (u hut).row).testBit 6 = false by rw [Nat.testBit_two_pow, decide_eq_false (by omega)])
   rw [← one_cast (show (u hut).row ≤ 6 by omega)] at l1 l2
   refine ⟨_, (f15w rw st c1 m cu hut u _).mpr ?_⟩
   rw [e]
   exact ⟨C79w_ok (c1 := c1) hrw hst hU, rfl, tt (decide_eq_true (by omega)), ⟨⟨by omega, by omega⟩, rfl⟩, ⟨by rw [lu]; omega, by rw [pu]; rfl⟩, ⟨⟨by rw [lu]; omega, by rw [pu]; rfl⟩, rfl, trivial⟩, ⟨⟨by omega, by omega⟩, rfl⟩, ⟨rfl, rfl, trivial⟩, tf l1, tf l2, rfl⟩
 · cases hy
   exact at1h
end
section
variable {rw st : Int} {n cw n2 cv : Nat} {w v : Nat → Sp}
theorem clN {a : List Value} {b : List (Nat × Nat)} : ClW ⟨⟨a, b⟩, [spL n w, spL n2 v], []⟩ := by
 refine ⟨fun cs hc => ?_, fun e hc => (by cases hc)⟩
 simp only [List.mem_cons, List.not_mem_nil, or_false] at hc
 rcases hc with rfl | rfl
 · exact spL_at _ _
 · exact spL_at _ _
noncomputable def oaN (rw st : Int) (n cw n2 cv : Nat) (w v : Nat → Sp) (b : Bool) : AExit × Nat × Hw := if b = true then (.exit 0, 0, h20N rw st n cw n2 cv (spL n w) (spL n2 v) n) else (.ret, 1, ⟨⟨[.bool false], []⟩, [], []⟩)
theorem loop20aN (h8 : n ≤ 8) (hn2 : n2 = n) {b : Bool} (hb : allF (hoB w v) n 0 = b) {T1 : Tw} (h1 : [T20aN, R20][(oaN rw st n cw n2 cv w v b).2.1]? = some T1) :
    LoopOW Tryd.prog none p20a T20aN (h20N rw st n cw n2 cv (spL n w) (spL n2 v) 0) (oaN rw st n cw n2 cv w v b).1 T1 (oaN rw st n cw n2 cv w v b).2.2 := by
 have e0 : b = allF (hoB w v) (n - 0) 0 := by rw [Nat.sub_zero, hb]
 rw [e0] at h1 ⊢
 refine loop_vcW (P := Tryd.prog) (ro := none) (p := p20a) (Ts := [T20aN, R20]) (k := 6) (X := Nat) (inv := fun i => i ≤ n) (μ := fun i => n - i) (st := fun i => (0, h20N rw st n cw n2 cv (spL n w) (spL n2 v) i)) (out := fun i => oaN rw st n cw n2 cv w v (allF (hoB w v) (n - i) i)) rfl vx_sound
  (by intro T hT; simp only [List.mem_cons, List.not_mem_nil, or_false] at hT; rcases hT with rfl | rfl <;> rfl) (by rw [nglob]; omega) (fun i hi => ?_) (x := 0) (Nat.zero_le n) (T0 := T20aN) rfl (Nat.le_of_ble_eq_true rfl) (by decide) h1
 have hi : i ≤ n := hi
 by_cases hlt : i < n
 · have hw := wrS (i := i) (by omega)
   have hstep : allF (hoB w v) (n - i) i = (hoB w v i && allF (hoB w v) (n - (i + 1)) (i + 1)) := by
    have : n - i = (n - (i + 1)) + 1 := by omega
    rw [this]; rfl
   have pw := spL_part w hlt
   have pv := spL_part v (show i < n2 by omega)
   have lw := spL_len n w
   have lv := spL_len n2 v
   refine ⟨T20aN, _, rfl, (b20aN rw st n cw n2 cv i (spB (w i) 30) (spB (v i) 10) w v _).mpr ⟨fun _ => ⟨⟨⟨by omega, by omega⟩, rfl⟩, ⟨by rw [lw]; omega, by rw [pw]; rfl⟩, C53_ok (w i) 30, rfl, fun h => ?_, fun h => ⟨⟨⟨by omega, by omega⟩, rfl⟩, ⟨by rw [lv]; omega, by rw [pv]; rfl⟩, C53_ok (v i) 10, rfl, fun h' => ?_, fun h' => ?_⟩⟩, fun h => absurd (by omega) (of_decide_eq_false h)⟩⟩
   · have hf : allF (hoB w v) (n - i) i = false := by rw [hstep]; simp only [hoB]; rw [show spB (w i) 30 = false by simpa using h]; rfl
     exact ⟨⟨clF, trivial⟩, .inr ⟨by simp, by show oaN rw st n cw n2 cv w v (allF (hoB w v) (n - i) i) = _; rw [hf]; rfl⟩⟩
   · have hf : allF (hoB w v) (n - i) i = false := by rw [hstep]; simp only [hoB]; rw [show spB (v i) 10 = false by simpa using h', Bool.and_false]; rfl
     exact ⟨⟨clF, trivial⟩, .inr ⟨by simp, by show oaN rw st n cw n2 cv w v (allF (hoB w v) (n - i) i) = _; rw [hf]; rfl⟩⟩
   · have ht : hoB w v i = true := by simp only [hoB]; rw [show spB (w i) 30 = true by simpa using h, show spB (v i) 10 = true by simpa using h']; rfl
     rw [hw]
     refine ⟨⟨clN, trivial⟩, .inl ⟨rfl, i + 1, hlt, by show n - (i + 1) < n - i; omega, rfl, ?_⟩⟩
     show oaN rw st n cw n2 cv w v (allF (hoB w v) (n - (i + 1)) (i + 1)) = oaN rw st n cw n2 cv w v (allF (hoB w v) (n - i) i)
     rw [hstep, ht, Bool.true_and]
 · have e : i = n := by omega
   subst e
   refine ⟨T20aN, _, rfl, (b20aN rw st i cw n2 cv i false false w v _).mpr ⟨fun h => absurd (of_decide_eq_true h) (by omega), fun _ => ?_⟩⟩
   refine ⟨⟨clN, trivial⟩, .inr ⟨by simp, ?_⟩⟩
   show oaN rw st i cw n2 cv w v (allF (hoB w v) (i - i) i) = _
   rw [Nat.sub_self]
   rfl
theorem C20N_ok : ConOK Tryd.prog 20 (C20N rw st n cw n2 cv (spL n w) (spL n2 v) (okSN rw st n n2 w v)) := by
 refine con_of vx_sound ⟨⟨[I rw, I st], [(n, cw), (n2, cv)]⟩, [spL n w, spL n2 v]⟩ (fun y hy => ?_) rfl (fun y _ => rfl) (fun y hy => ?_) rfl (Nat.le_of_ble_eq_true rfl) (by rw [nglob]; exact Nat.le_of_ble_eq_true rfl)
 · cases hy
   have key : ∀ R : ARes → Prop, R (.ret (.bool (okSN rw st n n2 w v))) → ∃ hs, vx.call 20 [suN rw st n cw n2 cv] (retK R) (mN (spL n w) (spL n2 v)) hs := fun R hR => by
    have k1 := C52_ok rw 1 6
    have k2 := C52_ok st 0 4
    unfold okSN at hR
    have pre : ∀ X : Prop, ((decide ((n : Int) > 8)) = false → ((n2 : Int) != (n : Int)) = false → inB rw 1 6 = true → inB st 0 4 = true → X) → (((!inB rw 1 6) = true → R (.ret (.bool false))) ∧ ((!inB rw 1 6) = false → ConOK Tryd.prog 52 (C52 st 0 4 (inB st 0 4)) ∧ Con.pre (C52 st 0 4 (inB st 0 4)) ⟨⟨[I st, I 0, I 4], []⟩, []⟩ ∧ (((!inB st 0 4) = true → R (.ret (.bool false))) ∧ ((!inB st 0 4) = false → ((decide ((n : Int) > 8)) = true → R (.ret (.bool false))) ∧ ((decide ((n : Int) > 8)) = false → ((((n2 : Int) != (n : Int)) = true → R (.ret (.bool false))) ∧ (((n2 : Int) != (n : Int)) = false → X))))))) := fun X hX => by
     refine ⟨fun h => ?_, fun h => ⟨k2, rfl, fun h2 => ?_, fun h2 => ⟨fun h3 => ?_, fun h3 => ⟨fun h4 => ?_, fun h4 => hX h3 h4 (by simpa using h) (by simpa using h2)⟩⟩⟩⟩
     · rw [show inB rw 1 6 = false by simpa using h] at hR; exact hR
     · rw [show inB rw 1 6 = true by simpa using h, show inB st 0 4 = false by simpa using h2] at hR; exact hR
     · rw [show inB rw 1 6 = true by simpa using h, show inB st 0 4 = true by simpa using h2, h3] at hR; exact hR
     · rw [show inB rw 1 6 = true by simpa using h, show inB st 0 4 = true by simpa using h2, h3, h4] at hR; exact hR
    have n8 : (decide ((n : Int) > 8)) = false → n ≤ 8 := fun h => by have := of_decide_eq_false h; omega
    have nn : ((n2 : Int) != (n : Int)) = false → n2 = n := fun h => by
     have : (n2 : Int) = n := by simpa using h
     omega
    cases ha : allF (hoB w v) n 0 with
    | false => exact ⟨_, (f20uN rw st n cw n2 cv (inB rw 1 6) (inB st 0 4) w v R).mpr ⟨k1, rfl, pre _ fun h3 h4 h1 h2 => ⟨clN, loop20aN (n8 h3) (nn h4) ha rfl, by rw [h1, h2, h3, h4, ha] at hR; exact hR⟩⟩⟩
    | true => exact ⟨_, (f20tN rw st n cw n2 cv (inB rw 1 6) (inB st 0 4) w v R).mpr ⟨k1, rfl, pre _ fun h3 h4 h1 h2 => ⟨clN, loop20aN (n8 h3) (nn h4) ha rfl, by rw [h1, h2, h3, h4, ha] at hR; exact hR⟩⟩⟩
   obtain ⟨hs, h⟩ := key (fun r => r = .ret (.bool (okSN rw st n n2 w v))) rfl
   exact ⟨hs, h⟩
 · cases hy
   intro cs hc
   simp only [List.mem_cons, List.not_mem_nil, or_false] at hc
   rcases hc with rfl | rfl
   · exact spL_at _ _
   · exact spL_at _ _
end
end Go.Ab
