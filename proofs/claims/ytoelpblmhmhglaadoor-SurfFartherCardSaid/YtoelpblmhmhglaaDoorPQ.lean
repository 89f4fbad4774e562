/- package surf: Save of surfs without hours, or without huts. -/
import Derived.Test.YtoelpblmhmhglaaDoorPL
import Derived.Test.YtoelpblmhmhglaaDoorPM
import Derived.Test.YtoelpblmhmhglaaDoorPK
import Derived.Test.YtoelpblmhmhglaaDoorPN
import Derived.Test.YtoelpblmhmhglaaDoorPP
set_option maxRecDepth 100000
namespace Go.Ab
open Go Go.RowKit Go.Proofs
theorem b57n (rw st : Int) (c1 m cu : Nat) (i : Nat) (many : Int) (u : Nat → Hut) (R : Nat → AExit → Hw → Prop) : (vx.code none (.l p57) (leafW [T57n] R) (T57n.inst (h57n rw st c1 m cu (huL m u) (rcL many m 0 fun _ => 0) i)) ([(0, .split ((2, .val (.pointer (some ⟨4, 0 + i * 3, none⟩))) :: (0, .val (.agg ⟨[I (u i).fl, I (u i).br, I (u i).row]⟩)) :: (29, .val (I (IntKind.i64.wrap ((1 : Int) * (2 : Int) ^ (↑(u i).row : Int).toNat)))) :: (32, .again) :: (16, .val (I (IntKind.i64.wrap ((1 : Int) * (2 : Int) ^ (↑(u i).row : Int).toNat)))) :: [(41, .tm 0 [])]) ([(1, .tm 0 [])]))])) =
(((decide ((i : Int) < m)) = true → (((((0 : Int) ≤ i) ∧ ((i : Int) < m)) ∧ (VR (.pointer (some ⟨4, 0 + i * 3, none⟩)))) ∧
((HR i m u) ∧
((PW (u i).row) ∧
(((((3 : Nat) ≤ (3 : Nat)) ∧ (((.agg ⟨[I (u i).fl, I (u i).br, I (u i).row]⟩) : Value) = (.agg ⟨[I (u i).fl, I (u i).br, I (u i).row]⟩))) ∧ ((((6 : Nat) ≤ (6 : Nat)) ∧ (((.agg ⟨[I rw, I st, .slice .none (0 : Nat) (0 : Nat), .slice .none (0 : Nat) (0 : Nat), .slice (.some ⟨(4 : Nat), (0 : Nat), .none⟩) m cu, .map (.some (5 : Nat))]⟩) : Value) = (.agg ⟨[I rw, I st, .slice .none (0 : Nat) (0 : Nat), .slice .none (0 : Nat) (0 : Nat), .slice (.some ⟨(4 : Nat), (0 : Nat), .none⟩) m cu, .map (.some (5 : Nat))]⟩))) ∧ True)) ∧
((PW (u i).row) ∧
R (0 : Nat) .normal ⟨⟨[I m, I (IntKind.i64.wrap ((i : Int) + (1 : Int))), I rw, I st], [⟨m, cu⟩, ⟨m, cu⟩]⟩, [huL m u, [I many, I m, I 0, I 0, I 0, I 0, I 0, I 0]], []⟩)))))) ∧
((decide ((i : Int) < m)) = false → R (0 : Nat) (.exit 0) ⟨⟨[I m, I i, I rw, I st], [⟨m, cu⟩, ⟨m, cu⟩]⟩, [huL m u, [I many, I m, I 0, I 0, I 0, I 0, I 0, I 0]], []⟩)) := by kernel_rfl
theorem f57n (rw st : Int) (c1 m cu : Nat) (many : Int) (u : Nat → Hut) (R : ARes → Prop) : (vx.call 57 [sh_n rw st c1 m cu, I many] (retK R) (mH6 (huL m u)) ((16, .loopW T57n (.exit 0) T57n fun _ => h57n rw st c1 m cu (huL m u) (rcL many (m : Int) (0 : Int) fun _ => (0 : Int)) m) :: [])) =
(LW p57 T57n ⟨⟨[I m, I 0, I rw, I st], [⟨m, cu⟩, ⟨m, cu⟩]⟩, [huL m u, [I many, I m, I 0, I 0, I 0, I 0, I 0, I 0]], []⟩ (.exit 0) T57n (h57n rw st c1 m cu (huL m u) (rcL many (m : Int) (0 : Int) fun _ => (0 : Int)) m) <|
R (.ret (.agg ⟨[I many, I m, I 0, I 0, I 0, I 0, I 0, I 0]⟩))) := by kernel_rfl
theorem b57v (rw st : Int) (c1 m cu : Nat) (i : Nat) (many : Int) (u : Nat → Hut) (R : Nat → AExit → Hw → Prop) : (vx.code none (.l p57) (leafW [T57v] R) (T57v.inst (h57v rw st c1 m cu (huL m u) (rcL many m 0 fun _ => 0) i)) ([(0, .split ((2, .val (.pointer (some ⟨4, 0 + i * 3, none⟩))) :: (0, .val (.agg ⟨[I (u i).fl, I (u i).br, I (u i).row]⟩)) :: (29, .val (I (IntKind.i64.wrap ((1 : Int) * (2 : Int) ^ (↑(u i).row : Int).toNat)))) :: (32, .again) :: (16, .val (I (IntKind.i64.wrap ((1 : Int) * (2 : Int) ^ (↑(u i).row : Int).toNat)))) :: [(41, .tm 0 [])]) ([(1, .tm 0 [])]))])) =
(((decide ((i : Int) < m)) = true → (((((0 : Int) ≤ i) ∧ ((i : Int) < m)) ∧ (VR (.pointer (some ⟨4, 0 + i * 3, none⟩)))) ∧
((HR i m u) ∧
((PW (u i).row) ∧
(((((3 : Nat) ≤ (3 : Nat)) ∧ (((.agg ⟨[I (u i).fl, I (u i).br, I (u i).row]⟩) : Value) = (.agg ⟨[I (u i).fl, I (u i).br, I (u i).row]⟩))) ∧ ((((6 : Nat) ≤ (6 : Nat)) ∧ (((.agg ⟨[I rw, I st, .slice .none (0 : Nat) (0 : Nat), .slice (.some ⟨(3 : Nat), (0 : Nat), .none⟩) (0 : Nat) c1, .slice (.some ⟨(4 : Nat), (0 : Nat), .none⟩) m cu, .map (.some (5 : Nat))]⟩) : Value) = (.agg ⟨[I rw, I st, .slice .none (0 : Nat) (0 : Nat), .slice (.some ⟨(3 : Nat), (0 : Nat), .none⟩) (0 : Nat) c1, .slice (.some ⟨(4 : Nat), (0 : Nat), .none⟩) m cu, .map (.some (5 : Nat))]⟩))) ∧ True)) ∧
((PW (u i).row) ∧
R (0 : Nat) .normal ⟨⟨[I m, I (IntKind.i64.wrap ((i : Int) + (1 : Int))), I rw, I st], [⟨m, cu⟩, ⟨(0 : Nat), c1⟩, ⟨m, cu⟩]⟩, [huL m u, [I many, I m, I 0, I 0, I 0, I 0, I 0, I 0]], []⟩)))))) ∧
((decide ((i : Int) < m)) = false → R (0 : Nat) (.exit 0) ⟨⟨[I m, I i, I rw, I st], [⟨m, cu⟩, ⟨(0 : Nat), c1⟩, ⟨m, cu⟩]⟩, [huL m u, [I many, I m, I 0, I 0, I 0, I 0, I 0, I 0]], []⟩)) := by kernel_rfl
theorem f57v (rw st : Int) (c1 m cu : Nat) (many : Int) (u : Nat → Hut) (R : ARes → Prop) : (vx.call 57 [sh_v rw st c1 m cu, I many] (retK R) (mH6 (huL m u)) ((16, .loopW T57v (.exit 0) T57v fun _ => h57v rw st c1 m cu (huL m u) (rcL many (m : Int) (0 : Int) fun _ => (0 : Int)) m) :: [])) =
(LW p57 T57v ⟨⟨[I m, I 0, I rw, I st], [⟨m, cu⟩, ⟨(0 : Nat), c1⟩, ⟨m, cu⟩]⟩, [huL m u, [I many, I m, I 0, I 0, I 0, I 0, I 0, I 0]], []⟩ (.exit 0) T57v (h57v rw st c1 m cu (huL m u) (rcL many (m : Int) (0 : Int) fun _ => (0 : Int)) m) <|
R (.ret (.agg ⟨[I many, I m, I 0, I 0, I 0, I 0, I 0, I 0]⟩))) := by kernel_rfl
theorem b57w (rw st : Int) (c1 m cu : Nat) (i : Nat) (many : Int) (u : Nat → Hut) (R : Nat → AExit → Hw → Prop) : (vx.code none (.l p57) (leafW [T57w] R) (T57w.inst (h57w rw st c1 m cu (huL m u) (rcL many m 0 fun _ => 0) i)) ([(0, .split ((2, .val (.pointer (some ⟨4, 0 + i * 3, none⟩))) :: (0, .val (.agg ⟨[I (u i).fl, I (u i).br, I (u i).row]⟩)) :: (29, .val (I (IntKind.i64.wrap ((1 : Int) * (2 : Int) ^ (↑(u i).row : Int).toNat)))) :: (32, .again) :: (16, .val (I (IntKind.i64.wrap ((1 : Int) * (2 : Int) ^ (↑(u i).row : Int).toNat)))) :: [(41, .tm 0 [])]) ([(1, .tm 0 [])]))])) =
(((decide ((i : Int) < m)) = true → (((((0 : Int) ≤ i) ∧ ((i : Int) < m)) ∧ (VR (.pointer (some ⟨4, 0 + i * 3, none⟩)))) ∧
((HR i m u) ∧
((PW (u i).row) ∧
(((((3 : Nat) ≤ (3 : Nat)) ∧ (((.agg ⟨[I (u i).fl, I (u i).br, I (u i).row]⟩) : Value) = (.agg ⟨[I (u i).fl, I (u i).br, I (u i).row]⟩))) ∧ ((((6 : Nat) ≤ (6 : Nat)) ∧ (((.agg ⟨[I rw, I st, .slice (.some ⟨(2 : Nat), (0 : Nat), .none⟩) (0 : Nat) c1, .slice .none (0 : Nat) (0 : Nat), .slice (.some ⟨(4 : Nat), (0 : Nat), .none⟩) m cu, .map (.some (5 : Nat))]⟩) : Value) = (.agg ⟨[I rw, I st, .slice (.some ⟨(2 : Nat), (0 : Nat), .none⟩) (0 : Nat) c1, .slice .none (0 : Nat) (0 : Nat), .slice (.some ⟨(4 : Nat), (0 : Nat), .none⟩) m cu, .map (.some (5 : Nat))]⟩))) ∧ True)) ∧
((PW (u i).row) ∧
R (0 : Nat) .normal ⟨⟨[I m, I (IntKind.i64.wrap ((i : Int) + (1 : Int))), I rw, I st], [⟨m, cu⟩, ⟨(0 : Nat), c1⟩, ⟨m, cu⟩]⟩, [huL m u, [I many, I m, I 0, I 0, I 0, I 0, I 0, I 0]], []⟩)))))) ∧
((decide ((i : Int) < m)) = false → R (0 : Nat) (.exit 0) ⟨⟨[I m, I i, I rw, I st], [⟨m, cu⟩, ⟨(0 : Nat), c1⟩, ⟨m, cu⟩]⟩, [huL m u, [I many, I m, I 0, I 0, I 0, I 0, I 0, I 0]], []⟩)) := by kernel_rfl
theorem f57w (rw st : Int) (c1 m cu : Nat) (many : Int) (u : Nat → Hut) (R : ARes → Prop) : (vx.call 57 [sh_w rw st c1 m cu, I many] (retK R) (mH6 (huL m u)) ((16, .loopW T57w (.exit 0) T57w fun _ => h57w rw st c1 m cu (huL m u) (rcL many (m : Int) (0 : Int) fun _ => (0 : Int)) m) :: [])) =
(LW p57 T57w ⟨⟨[I m, I 0, I rw, I st], [⟨m, cu⟩, ⟨(0 : Nat), c1⟩, ⟨m, cu⟩]⟩, [huL m u, [I many, I m, I 0, I 0, I 0, I 0, I 0, I 0]], []⟩ (.exit 0) T57w (h57w rw st c1 m cu (huL m u) (rcL many (m : Int) (0 : Int) fun _ => (0 : Int)) m) <|
R (.ret (.agg ⟨[I many, I m, I 0, I 0, I 0, I 0, I 0, I 0]⟩))) := by kernel_rfl
theorem f21n (rw st : Int) (c1 m cu : Nat) (u : Nat → Hut) (many left : Nat) (L : Nat → Int) (R : Hx → Prop) : (vx.call 21 [.agg ⟨[I rw, I st, nilS, nilS, slV 4 m cu]⟩, I many] (retN (rowTs 5 3) R) (mH (huL m u)) ((20, .con (C20n rw st c1 m cu (huL m u) true)) :: (19, .val (.bool true)) :: (8, .con (C57n rw st c1 m cu (huL m u) many)) :: (19, .con (C101 0)) :: (2, .loopW T96od AExit.ret R96 fun _ => r96 m left L) :: [(22, .tm 0 [((5 : Nat), (25 : Nat))])])) =
(CA 79 (C20n rw st c1 m cu (huL m u) true) ⟨⟨[I rw, I st], [⟨m, cu⟩]⟩, [huL m u]⟩ <|
((OT (decide ((many : Int) ≤ 5)) true) ∧
(CA 57 (C57n rw st c1 m cu (huL m u) many) ⟨⟨[I rw, I st, I many], [⟨m, cu⟩]⟩, [huL m u]⟩ <|
(CA 101 (C101 0) ⟨⟨[I 0], []⟩, []⟩ <|
(LW p96o T96od ⟨⟨[I 0, I (IntKind.i64.wrap ((↑(0 : Nat) : Int) + (1 : Int))), I 0], []⟩, [[I many, I m, I 0, I 0, I 0, I 0, I 0, I 0]], []⟩ .ret R96 ⟨⟨[I left, .bool true], [⟨m, m⟩]⟩, [ints m L], []⟩ <|
R ⟨⟨[I left, I 0], [⟨m, m⟩]⟩, [ints m L]⟩))))) := by kernel_rfl
theorem f21v (rw st : Int) (c1 m cu : Nat) (u : Nat → Hut) (many left : Nat) (L : Nat → Int) (R : Hx → Prop) : (vx.call 21 [.agg ⟨[I rw, I st, nilS, slV 3 0 c1, slV 4 m cu]⟩, I many] (retN (rowTs 5 3) R) (mH (huL m u)) ((20, .con (C20v rw st c1 m cu (huL m u) true)) :: (19, .val (.bool true)) :: (8, .con (C57v rw st c1 m cu (huL m u) many)) :: (19, .con (C101 0)) :: (2, .loopW T96od AExit.ret R96 fun _ => r96 m left L) :: [(22, .tm 0 [((5 : Nat), (25 : Nat))])])) =
(CA 79 (C20v rw st c1 m cu (huL m u) true) ⟨⟨[I rw, I st], [⟨(0 : Nat), c1⟩, ⟨m, cu⟩]⟩, [huL m u]⟩ <|
((OT (decide ((many : Int) ≤ 5)) true) ∧
(CA 57 (C57v rw st c1 m cu (huL m u) many) ⟨⟨[I rw, I st, I many], [⟨(0 : Nat), c1⟩, ⟨m, cu⟩]⟩, [huL m u]⟩ <|
(CA 101 (C101 0) ⟨⟨[I 0], []⟩, []⟩ <|
(LW p96o T96od ⟨⟨[I 0, I (IntKind.i64.wrap ((↑(0 : Nat) : Int) + (1 : Int))), I 0], []⟩, [[I many, I m, I 0, I 0, I 0, I 0, I 0, I 0]], []⟩ .ret R96 ⟨⟨[I left, .bool true], [⟨m, m⟩]⟩, [ints m L], []⟩ <|
R ⟨⟨[I left, I 0], [⟨m, m⟩]⟩, [ints m L]⟩))))) := by kernel_rfl
theorem f21w (rw st : Int) (c1 m cu : Nat) (u : Nat → Hut) (many left : Nat) (L : Nat → Int) (R : Hx → Prop) : (vx.call 21 [.agg ⟨[I rw, I st, slV 2 0 c1, nilS, slV 4 m cu]⟩, I many] (retN (rowTs 5 3) R) (mH (huL m u)) ((20, .con (C20w rw st c1 m cu (huL m u) true)) :: (19, .val (.bool true)) :: (8, .con (C57w rw st c1 m cu (huL m u) many)) :: (19, .con (C101 0)) :: (2, .loopW T96od AExit.ret R96 fun _ => r96 m left L) :: [(22, .tm 0 [((5 : Nat), (25 : Nat))])])) =
(CA 79 (C20w rw st c1 m cu (huL m u) true) ⟨⟨[I rw, I st], [⟨(0 : Nat), c1⟩, ⟨m, cu⟩]⟩, [huL m u]⟩ <|
((OT (decide ((many : Int) ≤ 5)) true) ∧
(CA 57 (C57w rw st c1 m cu (huL m u) many) ⟨⟨[I rw, I st, I many], [⟨(0 : Nat), c1⟩, ⟨m, cu⟩]⟩, [huL m u]⟩ <|
(CA 101 (C101 0) ⟨⟨[I 0], []⟩, []⟩ <|
(LW p96o T96od ⟨⟨[I 0, I (IntKind.i64.wrap ((↑(0 : Nat) : Int) + (1 : Int))), I 0], []⟩, [[I many, I m, I 0, I 0, I 0, I 0, I 0, I 0]], []⟩ .ret R96 ⟨⟨[I left, .bool true], [⟨m, m⟩]⟩, [ints m L], []⟩ <|
R ⟨⟨[I left, I 0], [⟨m, m⟩]⟩, [ints m L]⟩))))) := by kernel_rfl
theorem f57N (rw st : Int) (n cw n2 cv : Nat) (many : Int) (R : ARes → Prop) : (vx.call 57 [sh_N rw st n cw n2 cv, I many] (retK R) mD6 ([])) =
(R (.ret (.agg ⟨[I many, I (↑(0 : Nat) : Int), I 0, I 0, I 0, I 0, I 0, I 0]⟩))) := by kernel_rfl
theorem f21N (rw st : Int) (n cw n2 cv : Nat) (ws vs : List Value) (many left : Nat) (L : Nat → Int) (R : Hx → Prop) : (vx.call 21 [.agg ⟨[I rw, I st, slV 2 n cw, slV 3 n2 cv, nilS]⟩, I many] (retN (rowTs 5 3) R) (mN ws vs) ((20, .con (C20N rw st n cw n2 cv ws vs true)) :: (19, .val (.bool true)) :: (8, .con (C57N rw st n cw n2 cv many)) :: (19, .con (C101 0)) :: (2, .loopW T96od AExit.ret R96 fun _ => r96 (0 : Nat) left L) :: [(22, .tm 0 [((5 : Nat), (25 : Nat))])])) =
(CA 79 (C20N rw st n cw n2 cv ws vs true) ⟨⟨[I rw, I st], [⟨n, cw⟩, ⟨n2, cv⟩]⟩, [ws, vs]⟩ <|
((OT (decide ((many : Int) ≤ 5)) true) ∧
(CA 57 (C57N rw st n cw n2 cv many) ⟨⟨[I rw, I st, I many], [⟨n, cw⟩, ⟨n2, cv⟩]⟩, []⟩ <|
(CA 101 (C101 0) ⟨⟨[I 0], []⟩, []⟩ <|
(LW p96o T96od ⟨⟨[I 0, I (IntKind.i64.wrap ((↑(0 : Nat) : Int) + (1 : Int))), I 0], []⟩, [[I many, I 0, I 0, I 0, I 0, I 0, I 0, I 0]], []⟩ .ret R96 ⟨⟨[I left, .bool true], [⟨(0 : Nat), (0 : Nat)⟩]⟩, [[]], []⟩ <|
R ⟨⟨[I left, I 0], [⟨(0 : Nat), (0 : Nat)⟩]⟩, [[]]⟩))))) := by kernel_rfl
theorem f57nnN (rw st : Int) (many : Int) (R : ARes → Prop) : (vx.call 57 [sh_nnN rw st, I many] (retK R) mD6 ([])) =
(R (.ret (.agg ⟨[I many, I (↑(0 : Nat) : Int), I 0, I 0, I 0, I 0, I 0, I 0]⟩))) := by kernel_rfl
theorem f21nnN (rw st : Int) (many left : Nat) (L : Nat → Int) (R : Hx → Prop) : (vx.call 21 [.agg ⟨[I rw, I st, nilS, nilS, nilS]⟩, I many] (retN (rowTs 5 3) R) mD5 ((20, .con (CX ((TL.val nilS (TL.val nilS (TL.val nilS TL.nil))).hole.hole.agg TL.nil) rw st [] true)) :: (19, .val (.bool true)) :: (8, .con (C57nnN rw st many)) :: (19, .con (C101 0)) :: (2, .loopW T96od AExit.ret R96 fun _ => r96 (0 : Nat) left L) :: [(22, .tm 0 [((5 : Nat), (25 : Nat))])])) =
(CA 79 (CX ((TL.val nilS (TL.val nilS (TL.val nilS TL.nil))).hole.hole.agg TL.nil) rw st [] true) ⟨⟨[I rw, I st], []⟩, []⟩ <|
((OT (decide ((many : Int) ≤ 5)) true) ∧
(CA 57 (C57nnN rw st many) ⟨⟨[I rw, I st, I many], []⟩, []⟩ <|
(CA 101 (C101 0) ⟨⟨[I 0], []⟩, []⟩ <|
(LW p96o T96od ⟨⟨[I 0, I (IntKind.i64.wrap ((↑(0 : Nat) : Int) + (1 : Int))), I 0], []⟩, [[I many, I 0, I 0, I 0, I 0, I 0, I 0, I 0]], []⟩ .ret R96 ⟨⟨[I left, .bool true], [⟨(0 : Nat), (0 : Nat)⟩]⟩, [[]], []⟩ <|
R ⟨⟨[I left, I 0], [⟨(0 : Nat), (0 : Nat)⟩]⟩, [[]]⟩))))) := by kernel_rfl
theorem f57nvN (rw st : Int) (c1 : Nat) (many : Int) (R : ARes → Prop) : (vx.call 57 [sh_nvN rw st c1, I many] (retK R) mD6 ([])) =
(R (.ret (.agg ⟨[I many, I (↑(0 : Nat) : Int), I 0, I 0, I 0, I 0, I 0, I 0]⟩))) := by kernel_rfl
theorem f21nvN (rw st : Int) (c1 : Nat) (many left : Nat) (L : Nat → Int) (R : Hx → Prop) : (vx.call 21 [.agg ⟨[I rw, I st, nilS, slV 3 0 c1, nilS]⟩, I many] (retN (rowTs 5 3) R) mD5 ((20, .con (CX ((TL.val nilS (TL.slice 3 0 (TL.val nilS TL.nil))).hole.hole.agg TL.nil) rw st [(0, c1)] true)) :: (19, .val (.bool true)) :: (8, .con (C57nvN rw st c1 many)) :: (19, .con (C101 0)) :: (2, .loopW T96od AExit.ret R96 fun _ => r96 (0 : Nat) left L) :: [(22, .tm 0 [((5 : Nat), (25 : Nat))])])) =
(CA 79 (CX ((TL.val nilS (TL.slice 3 0 (TL.val nilS TL.nil))).hole.hole.agg TL.nil) rw st [(0, c1)] true) ⟨⟨[I rw, I st], [⟨(0 : Nat), c1⟩]⟩, []⟩ <|
((OT (decide ((many : Int) ≤ 5)) true) ∧
(CA 57 (C57nvN rw st c1 many) ⟨⟨[I rw, I st, I many], [⟨(0 : Nat), c1⟩]⟩, []⟩ <|
(CA 101 (C101 0) ⟨⟨[I 0], []⟩, []⟩ <|
(LW p96o T96od ⟨⟨[I 0, I (IntKind.i64.wrap ((↑(0 : Nat) : Int) + (1 : Int))), I 0], []⟩, [[I many, I 0, I 0, I 0, I 0, I 0, I 0, I 0]], []⟩ .ret R96 ⟨⟨[I left, .bool true], [⟨(0 : Nat), (0 : Nat)⟩]⟩, [[]], []⟩ <|
R ⟨⟨[I left, I 0], [⟨(0 : Nat), (0 : Nat)⟩]⟩, [[]]⟩))))) := by kernel_rfl
theorem f57wnN (rw st : Int) (c1 : Nat) (many : Int) (R : ARes → Prop) : (vx.call 57 [sh_wnN rw st c1, I many] (retK R) mD6 ([])) =
(R (.ret (.agg ⟨[I many, I (↑(0 : Nat) : Int), I 0, I 0, I 0, I 0, I 0, I 0]⟩))) := by kernel_rfl
theorem f21wnN (rw st : Int) (c1 : Nat) (many left : Nat) (L : Nat → Int) (R : Hx → Prop) : (vx.call 21 [.agg ⟨[I rw, I st, slV 2 0 c1, nilS, nilS]⟩, I many] (retN (rowTs 5 3) R) mD5 ((20, .con (CX ((TL.slice 2 0 (TL.val nilS (TL.val nilS TL.nil))).hole.hole.agg TL.nil) rw st [(0, c1)] true)) :: (19, .val (.bool true)) :: (8, .con (C57wnN rw st c1 many)) :: (19, .con (C101 0)) :: (2, .loopW T96od AExit.ret R96 fun _ => r96 (0 : Nat) left L) :: [(22, .tm 0 [((5 : Nat), (25 : Nat))])])) =
(CA 79 (CX ((TL.slice 2 0 (TL.val nilS (TL.val nilS TL.nil))).hole.hole.agg TL.nil) rw st [(0, c1)] true) ⟨⟨[I rw, I st], [⟨(0 : Nat), c1⟩]⟩, []⟩ <|
((OT (decide ((many : Int) ≤ 5)) true) ∧
(CA 57 (C57wnN rw st c1 many) ⟨⟨[I rw, I st, I many], [⟨(0 : Nat), c1⟩]⟩, []⟩ <|
(CA 101 (C101 0) ⟨⟨[I 0], []⟩, []⟩ <|
(LW p96o T96od ⟨⟨[I 0, I (IntKind.i64.wrap ((↑(0 : Nat) : Int) + (1 : Int))), I 0], []⟩, [[I many, I 0, I 0, I 0, I 0, I 0, I 0, I 0]], []⟩ .ret R96 ⟨⟨[I left, .bool true], [⟨(0 : Nat), (0 : Nat)⟩]⟩, [[]], []⟩ <|
R ⟨⟨[I left, I 0], [⟨(0 : Nat), (0 : Nat)⟩]⟩, [[]]⟩))))) := by kernel_rfl
theorem f21d (rw st : Int) (n cw cv m cu many F left : Nat) (f : Nat → Int) (L : Nat → Int) (w v : Nat → Sp) (u : Nat → Hut) (tb : List Value) (es2 : List (Value × Value)) (R : Hx → Prop) : (vx.call 21 [suV rw st n cw cv m cu, I many] (retN (rowTs 5 3) R) (mSu tb (spL n w) (spL n v) (huL m u)) ((20, .con (C79 rw st n cw cv m cu (spL n w) (spL n v) (huL m u))) :: (19, .val (.bool true)) :: (8, .conW (CW57 rw st n cw cv m cu many tb (spL n w) (spL n v) (huL m u) [] es2 F (f 0) (f 1) (f 2) (f 3) (f 4))) :: (19, .con (C101 F)) :: (2, .loopW T96od AExit.ret R96 fun _ => r96 m left L) :: [(22, .tm 0 [((5 : Nat), (25 : Nat))])])) =
(CA 79 (C79 rw st n cw cv m cu (spL n w) (spL n v) (huL m u)) ⟨⟨[I rw, I st], [⟨n, cw⟩, ⟨n, cv⟩, ⟨m, cu⟩]⟩, [spL n w, spL n v, huL m u]⟩ <|
((OT (decide ((many : Int) ≤ 5)) true) ∧
(CW 57 (CW57 rw st n cw cv m cu many tb (spL n w) (spL n v) (huL m u) [] es2 F (f 0) (f 1) (f 2) (f 3) (f 4)) ⟨⟨[I rw, I st, I many], [⟨n, cw⟩, ⟨n, cv⟩, ⟨m, cu⟩]⟩, [tb, spL n w, spL n v, huL m u], [[]]⟩ <|
(CA 101 (C101 F) ⟨⟨[I F], []⟩, []⟩ <|
(LW p96o T96od ⟨⟨[I F, I (IntKind.i64.wrap ((↑(popN F) : Int) + (1 : Int))), I 0], []⟩, [[I many, I m, I F, I (f (0 : Nat)), I (f (1 : Nat)), I (f (2 : Nat)), I (f (3 : Nat)), I (f (4 : Nat))]], []⟩ .ret R96 ⟨⟨[I left, .bool true], [⟨m, m⟩]⟩, [ints m L], []⟩ <|
R ⟨⟨[I left, I 0], [⟨m, m⟩]⟩, [ints m L]⟩))))) := by kernel_rfl
theorem savF_zero (m : Nat) : savF (fun _ => 0) m = 0 := by
 induction m with
 | zero => rfl
 | succ m ih => simp only [savF]; exact ih
theorem limN_zero (m : Nat) : limN (fun _ => 0) m = fun _ => 0 := funext fun i => if_neg fun h => h.2 rfl
theorem bestQ_no {y : Nat → Nat} {many m : Nat} (h : savF y m = 0) : bestQ y many m = 0 := by
 have := (bestQ_spec y many m).1
 rw [h, Nat.and_zero] at this
 exact this.symm
theorem loop96z {many m : Nat} (hm5 : m ≤ 5) (hmany : many ≤ 5) : LoopOW Tryd.prog none p96o T96od (hOd m many 0 (fun _ => 0) 0) .ret R96 (r96 m (bestQ (fun _ => 0) many m) (bestL (fun _ => 0) many m)) := by
 obtain ⟨q, hq⟩ := best_some (many := many) (m := m) (F := 0) (lim := fun _ => 0)
 have hl := fun T' => loop96od (T' := T') (many := many) (m := m) (F := 0) (lim := fun _ => 0) hm5 hmany (fun _ _ => by omega) (by omega)
 rw [hq] at hl
 have h := hl R96 rfl
 have e : bestQ (fun _ => 0) many m = q := by unfold bestQ; rw [savF_zero, limN_zero, hq]; rfl
 unfold bestL
 rw [e, savF_zero, limN_zero]
 exact h
section
variable {rw st : Int} {n cw cv m cu many : Nat} {w v : Nat → Sp} {u : Nat → Hut}
theorem C21d_ok (hS : SOK rw st n w v) (hU : HUK rw m u) (hmany : many ≤ 5) : ConNOK Tryd.prog 21 (C21s rw st n cw cv m cu many tabC (spL n w) (spL n v) (huL m u) (ints m (savL st w v n m u many)) m (savQ st w v n m u many : Nat)) := by
 have h5 := hU.m5
 have h8 := hS.n8
 have hF : savF (perY st w v n u) m < 32 := Nat.lt_of_lt_of_le (savF_lt _ m) (Nat.pow_le_pow_right (n := 2) (by omega) h5)
 have hlim : ∀ i, i < m → limN (perY st w v n u) m i < 8 := fun i _ => by
  unfold limN
  split
  · rename_i h
    exact (tz_eq (y := perY st w v n u i) (perH_lt h8 (u i)) h.2).2.2.1
  · omega
 have c57 := C57_ok (cw := cw) (cv := cv) (cu := cu) (many := (many : Int)) hS hU (M := []) kp0
 have c101 := C101_ok (s := savF (perY st w v n u) m) (by omega)
 obtain ⟨q, hq⟩ := best_some (many := many) (m := m) (F := savF (perY st w v n u) m) (lim := limN (perY st w v n u) m)
 have hQ : savQ st w v n m u many = q := by unfold savQ; rw [hq]; rfl
 have hl := fun T' => loop96od (T' := T') h5 hmany hlim hF
 rw [hq] at hl
 have hwp : IntKind.i64.wrap (((popN (savF (perY st w v n u) m) : Nat) : Int) + 1) = (popN (savF (perY st w v n u) m) : Int) + 1 := by
  have : popN (savF (perY st w v n u) m) ≤ 8 := popN_le
  exact wrapI (by omega) (by omega)
 unfold savL
 rw [hQ]
 rw [show savF (fun j => perH st w v n (u j)) m = savF (perY st w v n u) m from rfl, show (fun j => perH st w v n (u j)) = perY st w v n u from rfl, limN_savT, limN_savT, limN_savT, limN_savT, limN_savT] at c57
 refine conRowS_of rfl vx_sound ⟨⟨[I rw, I st, I many], [(n, cw), (n, cv), (m, cu)]⟩, [tabC, spL n w, spL n v, huL m u]⟩ (fun x => Iff.rfl) rfl rfl rfl ⟨_, (f21d rw st n cw cv m cu many (savF (perY st w v n u) m) q (fun i => (limN (perY st w v n u) m i : Nat)) (drwG many m (savF (perY st w v n u) m) (limN (perY st w v n u) m) q).2.L w v u tabC (encK (savM st w v n u [] m)) _).mpr ?_⟩ at4 (ints_at _ _) rfl (Nat.le_of_ble_eq_true rfl) (by rw [nglob]; exact Nat.le_of_ble_eq_true rfl)
 rw [hwp]
 exact ⟨C79_ok hS hU, rfl, tt (decide_eq_true (by omega)), c57, rfl, c101, rfl, clOd 0, hl R96 rfl, rfl⟩
end
section
variable {rw st : Int} {c1 m cu many : Nat} {u : Nat → Hut}
theorem cl57n {x : List Value} {y : List (Nat × Nat)} : ClW ⟨⟨x, y⟩, [huL m u, rcL many m 0 fun _ => 0], []⟩ := by
 refine ⟨fun cs hc => ?_, fun e hc => (by cases hc)⟩
 simp only [List.mem_cons, List.not_mem_nil, or_false] at hc
 rcases hc with rfl | rfl
 · exact huL_at _ _
 · intro v hv
   simp only [rcL, List.mem_cons, List.not_mem_nil, or_false] at hv
   rcases hv with rfl | rfl | rfl | rfl | rfl | rfl | rfl | rfl <;> rfl
theorem loop57n (hr6 : rw ≤ 6) (hU : HUK rw m u) : LoopOW Tryd.prog none p57 T57n (h57n rw st c1 m cu (huL m u) (rcL many m 0 fun _ => 0) 0) (.exit 0) T57n (h57n rw st c1 m cu (huL m u) (rcL many m 0 fun _ => 0) m) := by
 have h5 := hU.m5
 refine loop_forW (Ts := [T57n]) (k := 9) (n := m) (e := .exit 0) (st := fun i => (0, h57n rw st c1 m cu (huL m u) (rcL many m 0 fun _ => 0) i)) rfl vx_sound ?_ (by rw [nglob]; omega) ⟨by simp, trivial⟩ (fun i _ => cl57n) (fun i hi R hR => ?_) (fun R hR => ?_) rfl (Nat.le_of_ble_eq_true rfl) (by decide) rfl
 · intro T hT; simp only [List.mem_singleton] at hT; subst hT; rfl
 · have hw := wrS (i := i) (by omega)
   obtain ⟨u0, u1, u2, u3, u4⟩ := hU.u i hi
   have pu := huL_part u hi
   have lu := huL_len m u
   have r64 : ((u i).row : Int) ≤ 64 := by omega
   refine ⟨T57n, _, rfl, (b57n rw st c1 m cu i many u R).mpr ⟨fun _ => ?_, fun h => absurd (by omega) (of_decide_eq_false h)⟩⟩
   rw [hw]
   repeat' (with_reducible apply And.intro)
   all_goals first
    | exact hR
    | omega
    | rfl
    | (rw [lu]; omega)
    | (rw [pu]; rfl)
    | trivial
 · exact ⟨T57n, _, rfl, (b57n rw st c1 m cu m many u R).mpr ⟨fun h => absurd (of_decide_eq_true h) (by omega), fun _ => hR⟩⟩
theorem C57n_ok (hr6 : rw ≤ 6) (hU : HUK rw m u) : ConOK Tryd.prog 57 (C57n rw st c1 m cu (huL m u) (many : Nat)) := by
 refine con_of vx_sound ⟨⟨[I rw, I st, I (many : Nat)], [(m, cu)]⟩, [huL m u]⟩ (fun y hy => ?_) rfl (fun y _ => rfl) (fun y hy => ?_) rfl (Nat.le_of_ble_eq_true rfl) (by rw [nglob]; exact Nat.le_of_ble_eq_true rfl)
 · cases hy
   exact ⟨_, (f57n rw st c1 m cu many u _).mpr ⟨cl57n, loop57n (c1 := c1) hr6 hU, rfl⟩⟩
 · cases hy
   exact at1h
theorem C21n_ok (hrw : 1 ≤ rw ∧ rw ≤ 6) (hst : 0 ≤ st ∧ st ≤ 4) (hU : HUK rw m u) (hmany : many ≤ 5) : ConNOK Tryd.prog 21 (C21n rw st c1 m cu (huL m u) (many : Nat) (ints m (bestL (fun _ => 0) many m)) (bestQ (fun _ => 0) many m : Nat)) := by
 have h5 := hU.m5
 refine conRowS_of rfl vx_sound ⟨⟨[I rw, I st, I (many : Nat)], [(m, cu)]⟩, [huL m u]⟩ (fun x => Iff.rfl) rfl rfl rfl ⟨_, (f21n rw st c1 m cu u many (bestQ (fun _ => 0) many m) (bestL (fun _ => 0) many m) _).mpr ?_⟩ at1h (ints_at _ _) rfl (Nat.le_of_ble_eq_true rfl) (by rw [nglob]; exact Nat.le_of_ble_eq_true rfl)
 exact ⟨C79n_ok hrw hst hU, rfl, tt (decide_eq_true (by omega)), C57n_ok hrw.2 hU, rfl, C101_ok (by omega), rfl, clOd (F := 0) (lim := fun _ => 0) 0, loop96z h5 hmany, rfl⟩
end
section
variable {rw st : Int} {c1 m cu many : Nat} {u : Nat → Hut}
theorem cl57v {x : List Value} {y : List (Nat × Nat)} : ClW ⟨⟨x, y⟩, [huL m u, rcL many m 0 fun _ => 0], []⟩ := by
 refine ⟨fun cs hc => ?_, fun e hc => (by cases hc)⟩
 simp only [List.mem_cons, List.not_mem_nil, or_false] at hc
 rcases hc with rfl | rfl
 · exact huL_at _ _
 · intro v hv
   simp only [rcL, List.mem_cons, List.not_mem_nil, or_false] at hv
   rcases hv with rfl | rfl | rfl | rfl | rfl | rfl | rfl | rfl <;> rfl
theorem loop57v (hr6 : rw ≤ 6) (hU : HUK rw m u) : LoopOW Tryd.prog none p57 T57v (h57v rw st c1 m cu (huL m u) (rcL many m 0 fun _ => 0) 0) (.exit 0) T57v (h57v rw st c1 m cu (huL m u) (rcL many m 0 fun _ => 0) m) := by
 have h5 := hU.m5
 refine loop_forW (Ts := [T57v]) (k := 9) (n := m) (e := .exit 0) (st := fun i => (0, h57v rw st c1 m cu (huL m u) (rcL many m 0 fun _ => 0) i)) rfl vx_sound ?_ (by rw [nglob]; omega) ⟨by simp, trivial⟩ (fun i _ => cl57v) (fun i hi R hR => ?_) (fun R hR => ?_) rfl (Nat.le_of_ble_eq_true rfl) (by decide) rfl
 · intro T hT; simp only [List.mem_singleton] at hT; subst hT; rfl
 · have hw := wrS (i := i) (by omega)
   obtain ⟨u0, u1, u2, u3, u4⟩ := hU.u i hi
   have pu := huL_part u hi
   have lu := huL_len m u
   have r64 : ((u i).row : Int) ≤ 64 := by omega
   refine ⟨T57v, _, rfl, (b57v rw st c1 m cu i many u R).mpr ⟨fun _ => ?_, fun h => absurd (by omega) (of_decide_eq_false h)⟩⟩
   rw [hw]
   repeat' (with_reducible apply And.intro)
   all_goals first
    | exact hR
    | omega
    | rfl
    | (rw [lu]; omega)
    | (rw [pu]; rfl)
    | trivial
 · exact ⟨T57v, _, rfl, (b57v rw st c1 m cu m many u R).mpr ⟨fun h => absurd (of_decide_eq_true h) (by omega), fun _ => hR⟩⟩
theorem C57v_ok (hr6 : rw ≤ 6) (hU : HUK rw m u) : ConOK Tryd.prog 57 (C57v rw st c1 m cu (huL m u) (many : Nat)) := by
 refine con_of vx_sound ⟨⟨[I rw, I st, I (many : Nat)], [(0, c1), (m, cu)]⟩, [huL m u]⟩ (fun y hy => ?_) rfl (fun y _ => rfl) (fun y hy => ?_) rfl (Nat.le_of_ble_eq_true rfl) (by rw [nglob]; exact Nat.le_of_ble_eq_true rfl)
 · cases hy
   exact ⟨_, (f57v rw st c1 m cu many u _).mpr ⟨cl57v, loop57v (c1 := c1) hr6 hU, rfl⟩⟩
 · cases hy
   exact at1h
theorem C21v_ok (hrw : 1 ≤ rw ∧ rw ≤ 6) (hst : 0 ≤ st ∧ st ≤ 4) (hU : HUK rw m u) (hmany : many ≤ 5) : ConNOK Tryd.prog 21 (C21v rw st c1 m cu (huL m u) (many : Nat) (ints m (bestL (fun _ => 0) many m)) (bestQ (fun _ => 0) many m : Nat)) := by
 have h5 := hU.m5
 refine conRowS_of rfl vx_sound ⟨⟨[I rw, I st, I (many : Nat)], [(0, c1), (m, cu)]⟩, [huL m u]⟩ (fun x => Iff.rfl) rfl rfl rfl ⟨_, (f21v rw st c1 m cu u many (bestQ (fun _ => 0) many m) (bestL (fun _ => 0) many m) _).mpr ?_⟩ at1h (ints_at _ _) rfl (Nat.le_of_ble_eq_true rfl) (by rw [nglob]; exact Nat.le_of_ble_eq_true rfl)
 exact ⟨C79v_ok hrw hst hU, rfl, tt (decide_eq_true (by omega)), C57v_ok hrw.2 hU, rfl, C101_ok (by omega), rfl, clOd (F := 0) (lim := fun _ => 0) 0, loop96z h5 hmany, rfl⟩
end
section
variable {rw st : Int} {c1 m cu many : Nat} {u : Nat → Hut}
theorem cl57w {x : List Value} {y : List (Nat × Nat)} : ClW ⟨⟨x, y⟩, [huL m u, rcL many m 0 fun _ => 0], []⟩ := by
 refine ⟨fun cs hc => ?_, fun e hc => (by cases hc)⟩
 simp only [List.mem_cons, List.not_mem_nil, or_false] at hc
 rcases hc with rfl | rfl
 · exact huL_at _ _
 · intro v hv
   simp only [rcL, List.mem_cons, List.not_mem_nil, or_false] at hv
   rcases hv with rfl | rfl | rfl | rfl | rfl | rfl | rfl | rfl <;> rfl
theorem loop57w (hr6 : rw ≤ 6) (hU : HUK rw m u) : LoopOW Tryd.prog none p57 T57w (h57w rw st c1 m cu (huL m u) (rcL many m 0 fun _ => 0) 0) (.exit 0) T57w (h57w rw st c1 m cu (huL m u) (rcL many m 0 fun _ => 0) m) := by
 have h5 := hU.m5
 refine loop_forW (Ts := [T57w]) (k := 9) (n := m) (e := .exit 0) (st := fun i => (0, h57w rw st c1 m cu (huL m u) (rcL many m 0 fun _ => 0) i)) rfl vx_sound ?_ (by rw [nglob]; omega) ⟨by simp, trivial⟩ (fun i _ => cl57w) (fun i hi R hR => ?_) (fun R hR => ?_) rfl (Nat.le_of_ble_eq_true rfl) (by decide) rfl
 · intro T hT; simp only [List.mem_singleton] at hT; subst hT; rfl
 · have hw := wrS (i := i) (by omega)
   obtain ⟨u0, u1, u2, u3, u4⟩ := hU.u i hi
   have pu := huL_part u hi
   have lu := huL_len m u
   have r64 : ((u i).row : Int) ≤ 64 := by omega
   refine ⟨T57w, _, rfl, (b57w rw st c1 m cu i many u R).mpr ⟨fun _ => ?_, fun h => absurd (by omega) (of_decide_eq_false h)⟩⟩
   rw [hw]
   repeat' (with_reducible apply And.intro)
   all_goals first
    | exact hR
    | omega
    | rfl
    | (rw [lu]; omega)
    | (rw [pu]; rfl)
    | trivial
 · exact ⟨T57w, _, rfl, (b57w rw st c1 m cu m many u R).mpr ⟨fun h => absurd (of_decide_eq_true h) (by omega), fun _ => hR⟩⟩
theorem C57w_ok (hr6 : rw ≤ 6) (hU : HUK rw m u) : ConOK Tryd.prog 57 (C57w rw st c1 m cu (huL m u) (many : Nat)) := by
 refine con_of vx_sound ⟨⟨[I rw, I st, I (many : Nat)], [(0, c1), (m, cu)]⟩, [huL m u]⟩ (fun y hy => ?_) rfl (fun y _ => rfl) (fun y hy => ?_) rfl (Nat.le_of_ble_eq_true rfl) (by rw [nglob]; exact Nat.le_of_ble_eq_true rfl)
 · cases hy
   exact ⟨_, (f57w rw st c1 m cu many u _).mpr ⟨cl57w, loop57w (c1 := c1) hr6 hU, rfl⟩⟩
 · cases hy
   exact at1h
theorem C21w_ok (hrw : 1 ≤ rw ∧ rw ≤ 6) (hst : 0 ≤ st ∧ st ≤ 4) (hU : HUK rw m u) (hmany : many ≤ 5) : ConNOK Tryd.prog 21 (C21w rw st c1 m cu (huL m u) (many : Nat) (ints m (bestL (fun _ => 0) many m)) (bestQ (fun _ => 0) many m : Nat)) := by
 have h5 := hU.m5
 refine conRowS_of rfl vx_sound ⟨⟨[I rw, I st, I (many : Nat)], [(0, c1), (m, cu)]⟩, [huL m u]⟩ (fun x => Iff.rfl) rfl rfl rfl ⟨_, (f21w rw st c1 m cu u many (bestQ (fun _ => 0) many m) (bestL (fun _ => 0) many m) _).mpr ?_⟩ at1h (ints_at _ _) rfl (Nat.le_of_ble_eq_true rfl) (by rw [nglob]; exact Nat.le_of_ble_eq_true rfl)
 exact ⟨C79w_ok hrw hst hU, rfl, tt (decide_eq_true (by omega)), C57w_ok hrw.2 hU, rfl, C101_ok (by omega), rfl, clOd (F := 0) (lim := fun _ => 0) 0, loop96z h5 hmany, rfl⟩
end
section
variable {rw st : Int} {many : Nat}
theorem C57N_ok {n cw n2 cv : Nat} : ConOK Tryd.prog 57 (C57N rw st n cw n2 cv (many : Nat)) := by
 refine con_of vx_sound ⟨⟨[I rw, I st, I (many : Nat)], [(n, cw), (n2, cv)]⟩, []⟩ (fun y hy => ?_) rfl (fun y _ => rfl) (fun y hy => ?_) rfl (Nat.le_of_ble_eq_true rfl) (by rw [nglob]; exact Nat.le_of_ble_eq_true rfl)
 · cases hy
   exact ⟨_, (f57N rw st n cw n2 cv many _).mpr rfl⟩
 · cases hy
   intro cs hc
   cases hc
theorem C21N_ok {n cw n2 cv : Nat} {w v : Nat → Sp} (hok : okSN rw st n n2 w v = true) (hmany : many ≤ 5) : ConNOK Tryd.prog 21 (C21N rw st n cw n2 cv (spL n w) (spL n2 v) (many : Nat) [] 0) := by
 have c79 := C79N_ok (rw := rw) (st := st) (n := n) (cw := cw) (n2 := n2) (cv := cv) (w := w) (v := v)
 rw [hok] at c79
 have hl := loop96z (m := 0) (Nat.zero_le _) hmany
 rw [bestQ_no (savF_zero 0)] at hl
 refine conRowS_of rfl vx_sound ⟨⟨[I rw, I st, I (many : Nat)], [(n, cw), (n2, cv)]⟩, [spL n w, spL n2 v]⟩ (fun x => Iff.rfl) rfl rfl rfl ⟨_, (f21N rw st n cw n2 cv (spL n w) (spL n2 v) many 0 (bestL (fun _ => 0) many 0) _).mpr ?_⟩ (fun cs hc => ?_) (fun _ hv => (by cases hv)) rfl (Nat.le_of_ble_eq_true rfl) (by rw [nglob]; exact Nat.le_of_ble_eq_true rfl)
 · exact ⟨c79, rfl, tt (decide_eq_true (by omega)), C57N_ok, rfl, C101_ok (by omega), rfl, clOd (m := 0) (F := 0) (lim := fun _ => 0) 0, hl, rfl⟩
 · simp only [List.mem_cons, List.not_mem_nil, or_false] at hc
   rcases hc with rfl | rfl
   · exact spL_at _ _
   · exact spL_at _ _
end
section
variable {rw st : Int} {many : Nat}
theorem C57nnN_ok : ConOK Tryd.prog 57 (C57nnN rw st (many : Nat)) := by
 refine con_of vx_sound ⟨⟨[I rw, I st, I (many : Nat)], []⟩, []⟩ (fun y hy => ?_) rfl (fun y _ => rfl) (fun y hy => ?_) rfl (Nat.le_of_ble_eq_true rfl) (by rw [nglob]; exact Nat.le_of_ble_eq_true rfl)
 · cases hy
   exact ⟨_, (f57nnN rw st many _).mpr rfl⟩
 · cases hy
   intro cs hc
   cases hc
theorem C21nnN_ok (hok : (inB rw 1 6 && inB st 0 4) = true) (hmany : many ≤ 5) : ConNOK Tryd.prog 21 (C21nnN rw st (many : Nat) [] 0) := by
 have c79 := C79nnN_ok (rw := rw) (st := st)
 rw [hok] at c79
 have hl := loop96z (m := 0) (Nat.zero_le _) hmany
 rw [bestQ_no (savF_zero 0)] at hl
 refine conRowS_of rfl vx_sound ⟨⟨[I rw, I st, I (many : Nat)], []⟩, []⟩ (fun x => Iff.rfl) rfl rfl rfl ⟨_, (f21nnN rw st many 0 (bestL (fun _ => 0) many 0) _).mpr ?_⟩ (fun cs hc => (by cases hc)) (fun _ hv => (by cases hv)) rfl (Nat.le_of_ble_eq_true rfl) (by rw [nglob]; exact Nat.le_of_ble_eq_true rfl)
 exact ⟨c79, rfl, tt (decide_eq_true (by omega)), C57nnN_ok, rfl, C101_ok (by omega), rfl, clOd (m := 0) (F := 0) (lim := fun _ => 0) 0, hl, rfl⟩
end
section
variable {rw st : Int} {many : Nat}
theorem C57nvN_ok {c1 : Nat} : ConOK Tryd.prog 57 (C57nvN rw st c1 (many : Nat)) := by
 refine con_of vx_sound ⟨⟨[I rw, I st, I (many : Nat)], [(0, c1)]⟩, []⟩ (fun y hy => ?_) rfl (fun y _ => rfl) (fun y hy => ?_) rfl (Nat.le_of_ble_eq_true rfl) (by rw [nglob]; exact Nat.le_of_ble_eq_true rfl)
 · cases hy
   exact ⟨_, (f57nvN rw st c1 many _).mpr rfl⟩
 · cases hy
   intro cs hc
   cases hc
theorem C21nvN_ok {c1 : Nat} (hok : (inB rw 1 6 && inB st 0 4) = true) (hmany : many ≤ 5) : ConNOK Tryd.prog 21 (C21nvN rw st c1 (many : Nat) [] 0) := by
 have c79 := C79nvN_ok (rw := rw) (st := st) (c1 := c1)
 rw [hok] at c79
 have hl := loop96z (m := 0) (Nat.zero_le _) hmany
 rw [bestQ_no (savF_zero 0)] at hl
 refine conRowS_of rfl vx_sound ⟨⟨[I rw, I st, I (many : Nat)], [(0, c1)]⟩, []⟩ (fun x => Iff.rfl) rfl rfl rfl ⟨_, (f21nvN rw st c1 many 0 (bestL (fun _ => 0) many 0) _).mpr ?_⟩ (fun cs hc => (by cases hc)) (fun _ hv => (by cases hv)) rfl (Nat.le_of_ble_eq_true rfl) (by rw [nglob]; exact Nat.le_of_ble_eq_true rfl)
 exact ⟨c79, rfl, tt (decide_eq_true (by omega)), C57nvN_ok, rfl, C101_ok (by omega), rfl, clOd (m := 0) (F := 0) (lim := fun _ => 0) 0, hl, rfl⟩
end
section
variable {rw st : Int} {many : Nat}
theorem C57wnN_ok {c1 : Nat} : ConOK Tryd.prog 57 (C57wnN rw st c1 (many : Nat)) := by
 refine con_of vx_sound ⟨⟨[I rw, I st, I (many : Nat)], [(0, c1)]⟩, []⟩ (fun y hy => ?_) rfl (fun y _ => rfl) (fun y hy => ?_) rfl (Nat.le_of_ble_eq_true rfl) (by rw [nglob]; exact Nat.le_of_ble_eq_true rfl)
 · cases hy
   exact ⟨_, (f57wnN rw st c1 many _).mpr rfl⟩
 · cases hy
   intro cs hc
   cases hc
theorem C21wnN_ok {c1 : Nat} (hok : (inB rw 1 6 && inB st 0 4) = true) (hmany : many ≤ 5) : ConNOK Tryd.prog 21 (C21wnN rw st c1 (many : Nat) [] 0) := by
 have c79 := C79wnN_ok (rw := rw) (st := st) (c1 := c1)
 rw [hok] at c79
 have hl := loop96z (m := 0) (Nat.zero_le _) hmany
 rw [bestQ_no (savF_zero 0)] at hl
 refine conRowS_of rfl vx_sound ⟨⟨[I rw, I st, I (many : Nat)], [(0, c1)]⟩, []⟩ (fun x => Iff.rfl) rfl rfl rfl ⟨_, (f21wnN rw st c1 many 0 (bestL (fun _ => 0) many 0) _).mpr ?_⟩ (fun cs hc => (by cases hc)) (fun _ hv => (by cases hv)) rfl (Nat.le_of_ble_eq_true rfl) (by rw [nglob]; exact Nat.le_of_ble_eq_true rfl)
 exact ⟨c79, rfl, tt (decide_eq_true (by omega)), C57wnN_ok, rfl, C101_ok (by omega), rfl, clOd (m := 0) (F := 0) (lim := fun _ => 0) 0, hl, rfl⟩
end
end Go.Ab
