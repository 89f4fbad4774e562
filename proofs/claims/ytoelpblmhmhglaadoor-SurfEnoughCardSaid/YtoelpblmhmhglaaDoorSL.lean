/- package surf: SurfEnough, of surfs of which slices are nil. -/
import Derived.Test.YtoelpblmhmhglaaDoorSK
import Derived.Test.YtoelpblmhmhglaaDoorSH
import Derived.Test.YtoelpblmhmhglaaDoorSI
import Derived.Test.YtoelpblmhmhglaaDoorRO
import Derived.Lib.LaidTab
set_option maxRecDepth 100000
namespace Go.Ab
open Go Go.RowKit Go.Proofs
theorem f23n (rw st : Int) (c1 m cu : Nat) (hut : Nat) (u : Nat → Hut) (R : ARes → Prop) : (vx.call 23 [su_n rw st c1 m cu, I hut] (retK R) (mH (huL m u)) ((25, Hint.con (C20n rw st c1 m cu (huL m u) true)) :: (29, .val (.bool true)) :: (12, .val (.pointer (.some ⟨((4 : Nat)), ((0 : Nat) + hut * (3 : Nat)), .none⟩))) :: (0, .val (.agg ⟨[(.int .i64 ((u hut).fl)), (.int .i64 ((u hut).br)), (.int .i64 ((↑(u hut).row : Int)))]⟩)) :: (1, Hint.again) :: (17, Hint.again) :: (61, .val (.int .i64 (IntKind.i64.wrap ((1 : Int) * (2 : Int) ^ (↑(u hut).row : Int).toNat)))) :: (23, .val (.bool false)) :: (9, .val (.bool false)) :: [])) =
(((ConOK Tryd.prog ((79 : Nat)) (C20n rw st c1 m cu (huL m u) true)) ∧ (Con.pre (C20n rw st c1 m cu (huL m u) true) ⟨⟨[(.int .i64 rw), (.int .i64 st)], [⟨m, cu⟩]⟩, [(huL m u)]⟩) ∧
((((some (.bool (decide ((↑hut : Int) ≤ IntKind.i64.wrap ((↑m : Int) - (1 : Int))))) : Option Value) = some (.bool true))) ∧
((((((0 : Int) ≤ (↑hut : Int))) ∧ (((↑hut : Int) < (↑m : Int)))) ∧ (((.pointer (.some ⟨((4 : Nat)), ((0 : Nat) + hut * (3 : Nat)), .none⟩)) : Value) = (.pointer (.some ⟨((4 : Nat)), ((0 : Nat) + hut * (3 : Nat)), .none⟩)))) ∧
(((((0 : Nat) + hut * (3 : Nat) + (3 : Nat) ≤ (huL m u).length)) ∧ (((.agg ⟨[(.int .i64 ((u hut).fl)), (.int .i64 ((u hut).br)), (.int .i64 ((↑(u hut).row : Int)))]⟩) : Value) = (.agg ⟨(List.take ((3 : Nat)) (List.drop ((0 : Nat) + hut * (3 : Nat)) (huL m u)))⟩))) ∧
((((((0 : Nat) + hut * (3 : Nat) + (3 : Nat) ≤ (huL m u).length)) ∧ (((.agg ⟨[(.int .i64 ((u hut).fl)), (.int .i64 ((u hut).br)), (.int .i64 ((↑(u hut).row : Int)))]⟩) : Value) = (.agg ⟨(List.take ((3 : Nat)) (List.drop ((0 : Nat) + hut * (3 : Nat)) (huL m u)))⟩))) ∧ ((((some (.slice (.some ⟨4, 0, .none⟩) (m) (cu)) : Option Value) = some (.slice (.some ⟨4, 0, .none⟩) (m) (cu)))) ∧ (True))) ∧
((((((6 : Nat) ≤ (6 : Nat))) ∧ (((.agg ⟨[(.int .i64 rw), (.int .i64 st), (.slice .none ((0 : Nat)) ((0 : Nat))), (.slice .none ((0 : Nat)) ((0 : Nat))), (.slice (.some ⟨4, 0, .none⟩) (m) (cu)), (.map (.some ((14 : Nat))))]⟩) : Value) = (.agg ⟨[(.int .i64 rw), (.int .i64 st), (.slice .none ((0 : Nat)) ((0 : Nat))), (.slice .none ((0 : Nat)) ((0 : Nat))), (.slice (.some ⟨4, 0, .none⟩) (m) (cu)), (.map (.some ((14 : Nat))))]⟩))) ∧ (True)) ∧
((((((0 : Int) ≤ (↑(u hut).row : Int))) ∧ (((↑(u hut).row : Int) ≤ (↑(64 : Nat) : Int)))) ∧ (((.int .i64 (IntKind.i64.wrap ((1 : Int) * (2 : Int) ^ (↑(u hut).row : Int).toNat))) : Value) = (.int .i64 (IntKind.i64.wrap ((1 : Int) * (2 : Int) ^ (↑(u hut).row : Int).toNat))))) ∧
((((some (.bool (IntKind.i64.wrap ((1 : Int) * (2 : Int) ^ (↑(u hut).row : Int).toNat) == IntKind.i64.wrap ((1 : Int) * (2 : Int) ^ (6 : Nat)))) : Option Value) = some (.bool false))) ∧
((((some (.bool (bits BinOp.and IntKind.i64 (IntKind.i64.wrap ((1 : Int) * (2 : Int) ^ (↑(u hut).row : Int).toNat) / (2 : Int) ^ (6 : Nat)) (1 : Int) == (1 : Int))) : Option Value) = some (.bool false))) ∧
R (.ret (.tuple ⟨[(.int .i64 0), (.int .i64 0)]⟩)))))))))))) := by kernel_rfl
theorem f24n (rw st : Int) (c1 m cu : Nat) (hut : Nat) (u : Nat → Hut) (R : ARes → Prop) : (vx.call 24 [su_n rw st c1 m cu, I hut] (retK R) (mH (huL m u)) ((25, Hint.con (C20n rw st c1 m cu (huL m u) true)) :: (29, .val (.bool true)) :: (12, .val (.pointer (.some ⟨((4 : Nat)), ((0 : Nat) + hut * (3 : Nat)), .none⟩))) :: (0, .val (.agg ⟨[(.int .i64 ((u hut).fl)), (.int .i64 ((u hut).br)), (.int .i64 ((↑(u hut).row : Int)))]⟩)) :: (1, Hint.again) :: (17, Hint.again) :: (66, .val (.int .i64 (IntKind.i64.wrap ((1 : Int) * (2 : Int) ^ (↑(u hut).row : Int).toNat)))) :: (32, Hint.again) :: (16, .val (.int .i64 (IntKind.i64.wrap ((1 : Int) * (2 : Int) ^ (↑(u hut).row : Int).toNat)))) :: [])) =
(((ConOK Tryd.prog ((79 : Nat)) (C20n rw st c1 m cu (huL m u) true)) ∧ (Con.pre (C20n rw st c1 m cu (huL m u) true) ⟨⟨[(.int .i64 rw), (.int .i64 st)], [⟨m, cu⟩]⟩, [(huL m u)]⟩) ∧
((((some (.bool (decide ((↑hut : Int) ≤ IntKind.i64.wrap ((↑m : Int) - (1 : Int))))) : Option Value) = some (.bool true))) ∧
((((((0 : Int) ≤ (↑hut : Int))) ∧ (((↑hut : Int) < (↑m : Int)))) ∧ (((.pointer (.some ⟨((4 : Nat)), ((0 : Nat) + hut * (3 : Nat)), .none⟩)) : Value) = (.pointer (.some ⟨((4 : Nat)), ((0 : Nat) + hut * (3 : Nat)), .none⟩)))) ∧
(((((0 : Nat) + hut * (3 : Nat) + (3 : Nat) ≤ (huL m u).length)) ∧ (((.agg ⟨[(.int .i64 ((u hut).fl)), (.int .i64 ((u hut).br)), (.int .i64 ((↑(u hut).row : Int)))]⟩) : Value) = (.agg ⟨(List.take ((3 : Nat)) (List.drop ((0 : Nat) + hut * (3 : Nat)) (huL m u)))⟩))) ∧
((((((0 : Nat) + hut * (3 : Nat) + (3 : Nat) ≤ (huL m u).length)) ∧ (((.agg ⟨[(.int .i64 ((u hut).fl)), (.int .i64 ((u hut).br)), (.int .i64 ((↑(u hut).row : Int)))]⟩) : Value) = (.agg ⟨(List.take ((3 : Nat)) (List.drop ((0 : Nat) + hut * (3 : Nat)) (huL m u)))⟩))) ∧ ((((some (.slice (.some ⟨4, 0, .none⟩) (m) (cu)) : Option Value) = some (.slice (.some ⟨4, 0, .none⟩) (m) (cu)))) ∧ (True))) ∧
((((((6 : Nat) ≤ (6 : Nat))) ∧ (((.agg ⟨[(.int .i64 rw), (.int .i64 st), (.slice .none ((0 : Nat)) ((0 : Nat))), (.slice .none ((0 : Nat)) ((0 : Nat))), (.slice (.some ⟨4, 0, .none⟩) (m) (cu)), (.map (.some ((14 : Nat))))]⟩) : Value) = (.agg ⟨[(.int .i64 rw), (.int .i64 st), (.slice .none ((0 : Nat)) ((0 : Nat))), (.slice .none ((0 : Nat)) ((0 : Nat))), (.slice (.some ⟨4, 0, .none⟩) (m) (cu)), (.map (.some ((14 : Nat))))]⟩))) ∧ (True)) ∧
((((((0 : Int) ≤ (↑(u hut).row : Int))) ∧ (((↑(u hut).row : Int) ≤ (↑(64 : Nat) : Int)))) ∧ (((.int .i64 (IntKind.i64.wrap ((1 : Int) * (2 : Int) ^ (↑(u hut).row : Int).toNat))) : Value) = (.int .i64 (IntKind.i64.wrap ((1 : Int) * (2 : Int) ^ (↑(u hut).row : Int).toNat))))) ∧
((((((3 : Nat) ≤ (3 : Nat))) ∧ (((.agg ⟨[(.int .i64 0), (.int .i64 ((u hut).br)), (.int .i64 ((↑(u hut).row : Int)))]⟩) : Value) = (.agg ⟨[(.int .i64 0), (.int .i64 ((u hut).br)), (.int .i64 ((↑(u hut).row : Int)))]⟩))) ∧ (((((6 : Nat) ≤ (6 : Nat))) ∧ (((.agg ⟨[(.int .i64 rw), (.int .i64 st), (.slice .none ((0 : Nat)) ((0 : Nat))), (.slice .none ((0 : Nat)) ((0 : Nat))), (.slice (.some ⟨4, 0, .none⟩) (m) (cu)), (.map (.some ((14 : Nat))))]⟩) : Value) = (.agg ⟨[(.int .i64 rw), (.int .i64 st), (.slice .none ((0 : Nat)) ((0 : Nat))), (.slice .none ((0 : Nat)) ((0 : Nat))), (.slice (.some ⟨4, 0, .none⟩) (m) (cu)), (.map (.some ((14 : Nat))))]⟩))) ∧ (True))) ∧
((((((0 : Int) ≤ (↑(u hut).row : Int))) ∧ (((↑(u hut).row : Int) ≤ (↑(64 : Nat) : Int)))) ∧ (((.int .i64 (IntKind.i64.wrap ((1 : Int) * (2 : Int) ^ (↑(u hut).row : Int).toNat))) : Value) = (.int .i64 (IntKind.i64.wrap ((1 : Int) * (2 : Int) ^ (↑(u hut).row : Int).toNat))))) ∧
R (.ret (.tuple ⟨[(.int .i64 0), (.int .i64 0)]⟩)))))))))))) := by kernel_rfl
theorem b6ann (rw st : Int) (c1 m cu : Nat) (mo fl br : Int) (hut bk fr row i : Nat) (tb us : List Value) (g : Nat → Int) (R : Nat → AExit → Hw → Prop) : (vx.code none (.l p6a) (leafW [T6an] R) (T6an.inst (h6an rw st c1 m cu hut bk fr mo fl br row tb us g i)) ([(0, .split ((1, .val (.pointer (.some ⟨((9 : Nat)), ((0 : Nat) + i * (1 : Nat)), .none⟩))) :: (0, .val (.int .i64 (g i))) :: (2, .val (.bool true)) :: [(3, .tm 0 [])]) ([(1, .tm 0 [])]))])) =
((((decide ((↑i : Int) < (3 : Int))) = true → ((((((0 : Int) ≤ (↑i : Int))) ∧ (((↑i : Int) < (↑(3 : Nat) : Int)))) ∧ (((.pointer (.some ⟨((9 : Nat)), ((0 : Nat) + i * (1 : Nat)), .none⟩)) : Value) = (.pointer (.some ⟨((9 : Nat)), ((0 : Nat) + i * (1 : Nat)), .none⟩)))) ∧
((([Value.int .i64 (g (0 : Nat)), Value.int .i64 (g (1 : Nat)), Value.int .i64 (g (2 : Nat))][(0 : Nat) + i * (1 : Nat)]? = some (.int .i64 (g i)))) ∧
((((some (.bool (decide (g i < (0 : Int)))) : Option Value) = some (.bool true))) ∧
R 0 .normal ⟨⟨[(.int .u8 (mo)), (.int .i64 hut), (.int .i64 bk), (.int .i64 fr), (.int .i64 3), (.int .i64 (IntKind.i64.wrap ((↑i : Int) + (1 : Int)))), (.int .i64 rw), (.int .i64 st), (.int .i64 fl), (.int .i64 br), (.int .i64 row)], [⟨((3 : Nat)), ((3 : Nat))⟩, ⟨m, cu⟩]⟩, [(tb), (us), [(.int .i64 (g (0 : Nat))), (.int .i64 (g (1 : Nat))), (.int .i64 (g (2 : Nat)))]], []⟩)))) ∧
((decide ((↑i : Int) < (3 : Int))) = false → R 0 (.exit ((0 : Nat))) ⟨⟨[(.int .u8 (mo)), (.int .i64 hut), (.int .i64 bk), (.int .i64 fr), (.int .i64 3), (.int .i64 i), (.int .i64 rw), (.int .i64 st), (.int .i64 fl), (.int .i64 br), (.int .i64 row)], [⟨((3 : Nat)), ((3 : Nat))⟩, ⟨m, cu⟩]⟩, [(tb), (us), [(.int .i64 (g (0 : Nat))), (.int .i64 (g (1 : Nat))), (.int .i64 (g (2 : Nat)))]], []⟩))) := by kernel_rfl
theorem b6bnn (rw st : Int) (c1 m cu : Nat) (fl br : Int) (hut fr row i : Nat) (tb us : List Value) (g : Nat → Int) (R : Nat → AExit → Hw → Prop) : (vx.code none (.l p6b) (leafW [T6bn] R) (T6bn.inst (h6bn rw st c1 m cu hut fr fl br row tb us g i)) ([(0, .split ((1, .val (.pointer (.some ⟨((10 : Nat)), ((0 : Nat) + i * (1 : Nat)), .none⟩))) :: (0, .val (.int .i64 (g i))) :: (2, .val (.bool true)) :: [(3, .tm 0 [])]) ([(1, .tm 0 [])]))])) =
((((decide ((↑i : Int) < (3 : Int))) = true → ((((((0 : Int) ≤ (↑i : Int))) ∧ (((↑i : Int) < (↑(3 : Nat) : Int)))) ∧ (((.pointer (.some ⟨((10 : Nat)), ((0 : Nat) + i * (1 : Nat)), .none⟩)) : Value) = (.pointer (.some ⟨((10 : Nat)), ((0 : Nat) + i * (1 : Nat)), .none⟩)))) ∧
((([Value.int .i64 (g (0 : Nat)), Value.int .i64 (g (1 : Nat)), Value.int .i64 (g (2 : Nat))][(0 : Nat) + i * (1 : Nat)]? = some (.int .i64 (g i)))) ∧
((((some (.bool (decide (g i < (0 : Int)))) : Option Value) = some (.bool true))) ∧
R 0 .normal ⟨⟨[(.int .i64 hut), (.int .i64 fr), (.int .i64 3), (.int .i64 (IntKind.i64.wrap ((↑i : Int) + (1 : Int)))), (.int .i64 rw), (.int .i64 st), (.int .i64 fl), (.int .i64 br), (.int .i64 row)], [⟨((3 : Nat)), ((3 : Nat))⟩, ⟨m, cu⟩]⟩, [(tb), (us), [(.int .i64 (g (0 : Nat))), (.int .i64 (g (1 : Nat))), (.int .i64 (g (2 : Nat)))]], []⟩)))) ∧
((decide ((↑i : Int) < (3 : Int))) = false → R 0 (.exit ((2 : Nat))) ⟨⟨[(.int .i64 hut), (.int .i64 fr), (.int .i64 3), (.int .i64 i), (.int .i64 rw), (.int .i64 st), (.int .i64 fl), (.int .i64 br), (.int .i64 row)], [⟨((3 : Nat)), ((3 : Nat))⟩, ⟨m, cu⟩]⟩, [(tb), (us), [(.int .i64 (g (0 : Nat))), (.int .i64 (g (1 : Nat))), (.int .i64 (g (2 : Nat)))]], []⟩))) := by kernel_rfl
theorem b6an (rw st : Int) (c1 m cu : Nat) (mo l : Int) (hut bk fr i : Nat) (tb : List Value) (u u2 : Nat → Hut) (g : Nat → Int) (R : Nat → AExit → Hw → Prop) : (vx.code none (.l p6a) (leafW [T6an] R) (T6an.inst (h6an rw st c1 m cu hut bk fr mo (u hut).fl (u hut).br (u hut).row tb (huL m u) g i)) ([(0, .split ((1, .val (.pointer (.some ⟨((9 : Nat)), ((0 : Nat) + i * (1 : Nat)), .none⟩))) :: (0, .val (.int .i64 (g i))) :: (2, .val (.bool false)) :: (22, Hint.growN) :: (10, .val (.pointer (.some ⟨((4 : Nat)), ((0 : Nat) + hut * (3 : Nat)), .none⟩))) :: (1, .val (.int .i64 ((↑(u hut).row : Int)))) :: (1, .val (.pointer (.some ⟨((16 : Nat)), ((0 : Nat) + hut * (3 : Nat)), .none⟩))) :: (0, Hint.put (huL m u2)) :: (4, Hint.con (CSn rw st c1 ((0 : Nat) + m) ((0 : Nat) + m) (huL m u2) (↑hut : Int) (Value.tuple { toList := [I l, I (0 : Int)] }))) :: [(9, .split ([(2, .split ([(5, .tm 0 [])]) ([(4, .tm 0 [])]))]) ([(2, .split ([(4, .tm 0 [])]) ([(5, .tm 0 [])]))]))]) ([(1, .tm 0 [])]))])) =
((((decide ((↑i : Int) < (3 : Int))) = true → ((((((0 : Int) ≤ (↑i : Int))) ∧ (((↑i : Int) < (↑(3 : Nat) : Int)))) ∧ (((.pointer (.some ⟨((9 : Nat)), ((0 : Nat) + i * (1 : Nat)), .none⟩)) : Value) = (.pointer (.some ⟨((9 : Nat)), ((0 : Nat) + i * (1 : Nat)), .none⟩)))) ∧
((([Value.int .i64 (g (0 : Nat)), Value.int .i64 (g (1 : Nat)), Value.int .i64 (g (2 : Nat))][(0 : Nat) + i * (1 : Nat)]? = some (.int .i64 (g i)))) ∧
((((some (.bool (decide (g i < (0 : Int)))) : Option Value) = some (.bool false))) ∧
(((((((0 : Nat) < m)) ∧ (((0 : Nat) + m * (3 : Nat) ≤ (huL m u).length))) ∧ (((List.take (m * (3 : Nat)) (List.drop (0 : Nat) (huL m u))).all one = true))) ∧ (((¬(0 : Nat) + m ≤ (0 : Nat))) ∧ ((((0 : Nat) = (0 : Nat))) ∧ (((((0 : Nat) + m) * (24 : Nat) ≤ (140737488355328 : Nat))) ∧ (((0 : Nat) + m ≤ (4611686018427387904 : Nat))))))) ∧
((((((0 : Int) ≤ (↑hut : Int))) ∧ (((↑hut : Int) < (↑m : Int)))) ∧ (((.pointer (.some ⟨((4 : Nat)), ((0 : Nat) + hut * (3 : Nat)), .none⟩)) : Value) = (.pointer (.some ⟨((4 : Nat)), ((0 : Nat) + hut * (3 : Nat)), .none⟩)))) ∧
((((huL m u)[(0 : Nat) + hut * (3 : Nat) + (2 : Nat)]? = some (.int .i64 ((↑(u hut).row : Int))))) ∧
((((((0 : Int) ≤ (↑hut : Int))) ∧ (((↑hut : Int) < (↑((0 : Nat) + m) : Int)))) ∧ (((.pointer (.some ⟨((16 : Nat)), ((0 : Nat) + hut * (3 : Nat)), .none⟩)) : Value) = (.pointer (.some ⟨((16 : Nat)), ((0 : Nat) + hut * (3 : Nat)), .none⟩)))) ∧
(((((0 : Nat) + hut * (3 : Nat) + (3 : Nat) ≤ (List.take (0 : Nat) [] ++ List.take (m * (3 : Nat)) (List.drop (0 : Nat) (huL m u))).length)) ∧ ((List.take ((0 : Nat) + hut * (3 : Nat)) (List.take (0 : Nat) [] ++ List.take (m * (3 : Nat)) (List.drop (0 : Nat) (huL m u))) ++ [Value.int .i64 (u hut).fl, Value.int .i64 (g i), Value.int .i64 (↑(u hut).row : Int)] ++ List.drop ((0 : Nat) + hut * (3 : Nat) + (3 : Nat)) (List.take (0 : Nat) [] ++ List.take (m * (3 : Nat)) (List.drop (0 : Nat) (huL m u))) = huL m u2))) ∧
((ConOK Tryd.prog ((15 : Nat)) (CSn rw st c1 ((0 : Nat) + m) ((0 : Nat) + m) (huL m u2) (↑hut : Int) (Value.tuple { toList := [I l, I (0 : Int)] }))) ∧ (Con.pre (CSn rw st c1 ((0 : Nat) + m) ((0 : Nat) + m) (huL m u2) (↑hut : Int) (Value.tuple { toList := [I l, I (0 : Int)] })) ⟨⟨[(.int .i64 rw), (.int .i64 st), (.int .i64 hut)], [⟨((0 : Nat) + m), ((0 : Nat) + m)⟩]⟩, [(huL m u2)]⟩) ∧
(((l == (0 : Int)) = true → (((decide (g i ≥ (↑bk : Int))) = true → R 0 .normal ⟨⟨[(.int .u8 (mo)), (.int .i64 hut), (.int .i64 bk), (.int .i64 fr), (.int .i64 3), (.int .i64 (IntKind.i64.wrap ((↑i : Int) + (1 : Int)))), (.int .i64 rw), (.int .i64 st), (.int .i64 ((u hut).fl)), (.int .i64 ((u hut).br)), (.int .i64 ((↑(u hut).row : Int)))], [⟨((3 : Nat)), ((3 : Nat))⟩, ⟨m, cu⟩]⟩, [(tb), (huL m u), [(.int .i64 (g (0 : Nat))), (.int .i64 (g (1 : Nat))), (.int .i64 (g (2 : Nat)))]], []⟩) ∧
((decide (g i ≥ (↑bk : Int))) = false → R 0 .ret ⟨⟨[(.int .u8 (mo)), (.int .i64 hut), (.int .i64 bk), (.int .i64 fr), (.int .i64 3), (.int .i64 i), (.int .i64 rw), (.int .i64 st), (.int .i64 ((u hut).fl)), (.int .i64 ((u hut).br)), (.int .i64 ((↑(u hut).row : Int)))], [⟨((3 : Nat)), ((3 : Nat))⟩, ⟨m, cu⟩]⟩, [(tb), (huL m u), [(.int .i64 (g (0 : Nat))), (.int .i64 (g (1 : Nat))), (.int .i64 (g (2 : Nat)))]], []⟩))) ∧
((l == (0 : Int)) = false → (((decide (g i ≥ (↑bk : Int))) = true → R 0 .ret ⟨⟨[(.int .u8 (mo)), (.int .i64 hut), (.int .i64 bk), (.int .i64 fr), (.int .i64 3), (.int .i64 i), (.int .i64 rw), (.int .i64 st), (.int .i64 ((u hut).fl)), (.int .i64 ((u hut).br)), (.int .i64 ((↑(u hut).row : Int)))], [⟨((3 : Nat)), ((3 : Nat))⟩, ⟨m, cu⟩]⟩, [(tb), (huL m u), [(.int .i64 (g (0 : Nat))), (.int .i64 (g (1 : Nat))), (.int .i64 (g (2 : Nat)))]], []⟩) ∧
((decide (g i ≥ (↑bk : Int))) = false → R 0 .normal ⟨⟨[(.int .u8 (mo)), (.int .i64 hut), (.int .i64 bk), (.int .i64 fr), (.int .i64 3), (.int .i64 (IntKind.i64.wrap ((↑i : Int) + (1 : Int)))), (.int .i64 rw), (.int .i64 st), (.int .i64 ((u hut).fl)), (.int .i64 ((u hut).br)), (.int .i64 ((↑(u hut).row : Int)))], [⟨((3 : Nat)), ((3 : Nat))⟩, ⟨m, cu⟩]⟩, [(tb), (huL m u), [(.int .i64 (g (0 : Nat))), (.int .i64 (g (1 : Nat))), (.int .i64 (g (2 : Nat)))]], []⟩)))))))))))))) ∧
((decide ((↑i : Int) < (3 : Int))) = false → R 0 (.exit ((0 : Nat))) ⟨⟨[(.int .u8 (mo)), (.int .i64 hut), (.int .i64 bk), (.int .i64 fr), (.int .i64 3), (.int .i64 i), (.int .i64 rw), (.int .i64 st), (.int .i64 ((u hut).fl)), (.int .i64 ((u hut).br)), (.int .i64 ((↑(u hut).row : Int)))], [⟨((3 : Nat)), ((3 : Nat))⟩, ⟨m, cu⟩]⟩, [(tb), (huL m u), [(.int .i64 (g (0 : Nat))), (.int .i64 (g (1 : Nat))), (.int .i64 (g (2 : Nat)))]], []⟩))) := by kernel_rfl
theorem b6bn (rw st : Int) (c1 m cu : Nat) (x y : Int) (hut fr i : Nat) (tb : List Value) (u u2 : Nat → Hut) (g : Nat → Int) (R : Nat → AExit → Hw → Prop) : (vx.code none (.l p6b) (leafW [T6bn] R) (T6bn.inst (h6bn rw st c1 m cu hut fr (u hut).fl (u hut).br (u hut).row tb (huL m u) g i)) ([(0, .split ((1, .val (.pointer (.some ⟨((10 : Nat)), ((0 : Nat) + i * (1 : Nat)), .none⟩))) :: (0, .val (.int .i64 (g i))) :: (2, .val (.bool false)) :: (22, Hint.growN) :: (10, .val (.pointer (.some ⟨((4 : Nat)), ((0 : Nat) + hut * (3 : Nat)), .none⟩))) :: (1, .val (.int .i64 ((↑(u hut).row : Int)))) :: (1, .val (.pointer (.some ⟨((17 : Nat)), ((0 : Nat) + hut * (3 : Nat)), .none⟩))) :: (0, Hint.put (huL m u2)) :: (4, Hint.con (CSn rw st c1 ((0 : Nat) + m) ((0 : Nat) + m) (huL m u2) (↑hut : Int) (Value.tuple { toList := [I x, I y, I (0 : Int)] }))) :: [(11, .split ([(2, .split ([(5, .tm 0 [])]) ([(4, .tm 0 [])]))]) ([(2, .split ([(4, .tm 0 [])]) ([(5, .tm 0 [])]))]))]) ([(1, .tm 0 [])]))])) =
((((decide ((↑i : Int) < (3 : Int))) = true → ((((((0 : Int) ≤ (↑i : Int))) ∧ (((↑i : Int) < (↑(3 : Nat) : Int)))) ∧ (((.pointer (.some ⟨((10 : Nat)), ((0 : Nat) + i * (1 : Nat)), .none⟩)) : Value) = (.pointer (.some ⟨((10 : Nat)), ((0 : Nat) + i * (1 : Nat)), .none⟩)))) ∧
((([Value.int .i64 (g (0 : Nat)), Value.int .i64 (g (1 : Nat)), Value.int .i64 (g (2 : Nat))][(0 : Nat) + i * (1 : Nat)]? = some (.int .i64 (g i)))) ∧
((((some (.bool (decide (g i < (0 : Int)))) : Option Value) = some (.bool false))) ∧
(((((((0 : Nat) < m)) ∧ (((0 : Nat) + m * (3 : Nat) ≤ (huL m u).length))) ∧ (((List.take (m * (3 : Nat)) (List.drop (0 : Nat) (huL m u))).all one = true))) ∧ (((¬(0 : Nat) + m ≤ (0 : Nat))) ∧ ((((0 : Nat) = (0 : Nat))) ∧ (((((0 : Nat) + m) * (24 : Nat) ≤ (140737488355328 : Nat))) ∧ (((0 : Nat) + m ≤ (4611686018427387904 : Nat))))))) ∧
((((((0 : Int) ≤ (↑hut : Int))) ∧ (((↑hut : Int) < (↑m : Int)))) ∧ (((.pointer (.some ⟨((4 : Nat)), ((0 : Nat) + hut * (3 : Nat)), .none⟩)) : Value) = (.pointer (.some ⟨((4 : Nat)), ((0 : Nat) + hut * (3 : Nat)), .none⟩)))) ∧
((((huL m u)[(0 : Nat) + hut * (3 : Nat) + (2 : Nat)]? = some (.int .i64 ((↑(u hut).row : Int))))) ∧
((((((0 : Int) ≤ (↑hut : Int))) ∧ (((↑hut : Int) < (↑((0 : Nat) + m) : Int)))) ∧ (((.pointer (.some ⟨((17 : Nat)), ((0 : Nat) + hut * (3 : Nat)), .none⟩)) : Value) = (.pointer (.some ⟨((17 : Nat)), ((0 : Nat) + hut * (3 : Nat)), .none⟩)))) ∧
(((((0 : Nat) + hut * (3 : Nat) + (3 : Nat) ≤ (List.take (0 : Nat) [] ++ List.take (m * (3 : Nat)) (List.drop (0 : Nat) (huL m u))).length)) ∧ ((List.take ((0 : Nat) + hut * (3 : Nat)) (List.take (0 : Nat) [] ++ List.take (m * (3 : Nat)) (List.drop (0 : Nat) (huL m u))) ++ [Value.int .i64 (g i), Value.int .i64 (u hut).br, Value.int .i64 (↑(u hut).row : Int)] ++ List.drop ((0 : Nat) + hut * (3 : Nat) + (3 : Nat)) (List.take (0 : Nat) [] ++ List.take (m * (3 : Nat)) (List.drop (0 : Nat) (huL m u))) = huL m u2))) ∧
((ConOK Tryd.prog ((14 : Nat)) (CSn rw st c1 ((0 : Nat) + m) ((0 : Nat) + m) (huL m u2) (↑hut : Int) (Value.tuple { toList := [I x, I y, I (0 : Int)] }))) ∧ (Con.pre (CSn rw st c1 ((0 : Nat) + m) ((0 : Nat) + m) (huL m u2) (↑hut : Int) (Value.tuple { toList := [I x, I y, I (0 : Int)] })) ⟨⟨[(.int .i64 rw), (.int .i64 st), (.int .i64 hut)], [⟨((0 : Nat) + m), ((0 : Nat) + m)⟩]⟩, [(huL m u2)]⟩) ∧
(((y == (0 : Int)) = true → (((decide (g i ≥ (↑fr : Int))) = true → R 0 .normal ⟨⟨[(.int .i64 hut), (.int .i64 fr), (.int .i64 3), (.int .i64 (IntKind.i64.wrap ((↑i : Int) + (1 : Int)))), (.int .i64 rw), (.int .i64 st), (.int .i64 ((u hut).fl)), (.int .i64 ((u hut).br)), (.int .i64 ((↑(u hut).row : Int)))], [⟨((3 : Nat)), ((3 : Nat))⟩, ⟨m, cu⟩]⟩, [(tb), (huL m u), [(.int .i64 (g (0 : Nat))), (.int .i64 (g (1 : Nat))), (.int .i64 (g (2 : Nat)))]], []⟩) ∧
((decide (g i ≥ (↑fr : Int))) = false → R 0 .ret ⟨⟨[(.int .i64 hut), (.int .i64 fr), (.int .i64 3), (.int .i64 i), (.int .i64 rw), (.int .i64 st), (.int .i64 ((u hut).fl)), (.int .i64 ((u hut).br)), (.int .i64 ((↑(u hut).row : Int)))], [⟨((3 : Nat)), ((3 : Nat))⟩, ⟨m, cu⟩]⟩, [(tb), (huL m u), [(.int .i64 (g (0 : Nat))), (.int .i64 (g (1 : Nat))), (.int .i64 (g (2 : Nat)))]], []⟩))) ∧
((y == (0 : Int)) = false → (((decide (g i ≥ (↑fr : Int))) = true → R 0 .ret ⟨⟨[(.int .i64 hut), (.int .i64 fr), (.int .i64 3), (.int .i64 i), (.int .i64 rw), (.int .i64 st), (.int .i64 ((u hut).fl)), (.int .i64 ((u hut).br)), (.int .i64 ((↑(u hut).row : Int)))], [⟨((3 : Nat)), ((3 : Nat))⟩, ⟨m, cu⟩]⟩, [(tb), (huL m u), [(.int .i64 (g (0 : Nat))), (.int .i64 (g (1 : Nat))), (.int .i64 (g (2 : Nat)))]], []⟩) ∧
((decide (g i ≥ (↑fr : Int))) = false → R 0 .normal ⟨⟨[(.int .i64 hut), (.int .i64 fr), (.int .i64 3), (.int .i64 (IntKind.i64.wrap ((↑i : Int) + (1 : Int)))), (.int .i64 rw), (.int .i64 st), (.int .i64 ((u hut).fl)), (.int .i64 ((u hut).br)), (.int .i64 ((↑(u hut).row : Int)))], [⟨((3 : Nat)), ((3 : Nat))⟩, ⟨m, cu⟩]⟩, [(tb), (huL m u), [(.int .i64 (g (0 : Nat))), (.int .i64 (g (1 : Nat))), (.int .i64 (g (2 : Nat)))]], []⟩)))))))))))))) ∧
((decide ((↑i : Int) < (3 : Int))) = false → R 0 (.exit ((2 : Nat))) ⟨⟨[(.int .i64 hut), (.int .i64 fr), (.int .i64 3), (.int .i64 i), (.int .i64 rw), (.int .i64 st), (.int .i64 ((u hut).fl)), (.int .i64 ((u hut).br)), (.int .i64 ((↑(u hut).row : Int)))], [⟨((3 : Nat)), ((3 : Nat))⟩, ⟨m, cu⟩]⟩, [(tb), (huL m u), [(.int .i64 (g (0 : Nat))), (.int .i64 (g (1 : Nat))), (.int .i64 (g (2 : Nat)))]], []⟩))) := by kernel_rfl
theorem f6Dn (rw st : Int) (c1 m cu : Nat) (hut : Nat) (wh mo : Int) (tb : List Value) (u : Nat → Hut) (g g2 : Nat → Int) (R : ARes → Prop) : (vx.call 6 [su_n rw st c1 m cu, .int .u8 wh, .int .u8 mo] (retK R) (mLH5 tb (huL m u)) ([(21, .split ((9, Hint.con (C11t tb)) :: []) ((4, Hint.con (C20n rw st c1 m cu (huL m u) true)) :: (7, .val (.bool false)) :: (7, .val (.int .i64 hut)) :: (4, .val (.pointer (.some ⟨((4 : Nat)), ((0 : Nat) + hut * (3 : Nat)), .none⟩))) :: (0, .val (.agg ⟨[(.int .i64 ((u hut).fl)), (.int .i64 ((u hut).br)), (.int .i64 ((↑(u hut).row : Int)))]⟩)) :: (4, Hint.con (CSn rw st c1 m cu (huL m u) (↑hut : Int) (Value.tuple { toList := [I (0 : Int), I (0 : Int)] }))) :: (7, Hint.con (CSn rw st c1 m cu (huL m u) (↑hut : Int) (Value.tuple { toList := [I (0 : Int), I (0 : Int)] }))) :: (40, Hint.loopW T6an (AExit.exit (0 : Nat)) T6an fun x => h6an rw st c1 m cu hut (0 : Nat) (0 : Nat) mo (u hut).fl (u hut).br (u hut).row tb (huL m u) g (3 : Nat)) :: (12, Hint.loopW T6bn (AExit.exit (2 : Nat)) T6bn fun x => h6bn rw st c1 m cu hut (0 : Nat) (u hut).fl (u hut).br (u hut).row tb (huL m u) g2 (3 : Nat)) :: (0, Hint.con (C11t tb)) :: []))])) =
((((decide ((if (↑m : Int) > if (↑(0 : Nat) : Int) > (↑(0 : Nat) : Int) then (↑(0 : Nat) : Int) else (↑(0 : Nat) : Int) then (↑m : Int) else if (↑(0 : Nat) : Int) > (↑(0 : Nat) : Int) then (↑(0 : Nat) : Int) else (↑(0 : Nat) : Int)) > (40 : Int))) = true → ((ConOK Tryd.prog ((11 : Nat)) (C11t tb)) ∧ (Con.pre (C11t tb) ⟨⟨[], []⟩, [(tb)]⟩) ∧
R (.ret (.bool true)))) ∧
((decide ((if (↑m : Int) > if (↑(0 : Nat) : Int) > (↑(0 : Nat) : Int) then (↑(0 : Nat) : Int) else (↑(0 : Nat) : Int) then (↑m : Int) else if (↑(0 : Nat) : Int) > (↑(0 : Nat) : Int) then (↑(0 : Nat) : Int) else (↑(0 : Nat) : Int)) > (40 : Int))) = false → ((ConOK Tryd.prog ((20 : Nat)) (C20n rw st c1 m cu (huL m u) true)) ∧ (Con.pre (C20n rw st c1 m cu (huL m u) true) ⟨⟨[(.int .i64 rw), (.int .i64 st)], [⟨m, cu⟩]⟩, [(huL m u)]⟩) ∧
((((some (.bool ((↑m : Int) == (0 : Int))) : Option Value) = some (.bool false))) ∧
((((((↑m : Int) ≠ (0 : Int))) ∧ ((IntKind.i64 = IntKind.i64))) ∧ (((.int .i64 hut) : Value) = (.int .i64 ((IntKind.i64.wrap wh).tmod (↑m : Int))))) ∧
((((((0 : Int) ≤ (↑hut : Int))) ∧ (((↑hut : Int) < (↑m : Int)))) ∧ (((.pointer (.some ⟨((4 : Nat)), ((0 : Nat) + hut * (3 : Nat)), .none⟩)) : Value) = (.pointer (.some ⟨((4 : Nat)), ((0 : Nat) + hut * (3 : Nat)), .none⟩)))) ∧
(((((0 : Nat) + hut * (3 : Nat) + (3 : Nat) ≤ (huL m u).length)) ∧ (((.agg ⟨[(.int .i64 ((u hut).fl)), (.int .i64 ((u hut).br)), (.int .i64 ((↑(u hut).row : Int)))]⟩) : Value) = (.agg ⟨(List.take ((3 : Nat)) (List.drop ((0 : Nat) + hut * (3 : Nat)) (huL m u)))⟩))) ∧
((ConOK Tryd.prog ((23 : Nat)) (CSn rw st c1 m cu (huL m u) (↑hut : Int) (Value.tuple { toList := [I (0 : Int), I (0 : Int)] }))) ∧ (Con.pre (CSn rw st c1 m cu (huL m u) (↑hut : Int) (Value.tuple { toList := [I (0 : Int), I (0 : Int)] })) ⟨⟨[(.int .i64 rw), (.int .i64 st), (.int .i64 hut)], [⟨m, cu⟩]⟩, [(huL m u)]⟩) ∧
((ConOK Tryd.prog ((24 : Nat)) (CSn rw st c1 m cu (huL m u) (↑hut : Int) (Value.tuple { toList := [I (0 : Int), I (0 : Int)] }))) ∧ (Con.pre (CSn rw st c1 m cu (huL m u) (↑hut : Int) (Value.tuple { toList := [I (0 : Int), I (0 : Int)] })) ⟨⟨[(.int .i64 rw), (.int .i64 st), (.int .i64 hut)], [⟨m, cu⟩]⟩, [(huL m u)]⟩) ∧
((ClW ⟨⟨[(.int .u8 (mo)), (.int .i64 hut), (.int .i64 0), (.int .i64 0), (.int .i64 ((↑(3 : Nat) : Int))), (.int .i64 0), (.int .i64 rw), (.int .i64 st), (.int .i64 ((u hut).fl)), (.int .i64 ((u hut).br)), (.int .i64 ((↑(u hut).row : Int)))], [⟨((3 : Nat)), ((3 : Nat))⟩, ⟨m, cu⟩]⟩, [(tb), (huL m u), [(.int .i64 (IntKind.i64.wrap ((0 : Int) - (1 : Int)))), (.int .i64 0), (.int .i64 (if IntKind.i64.wrap ((0 : Int) + (IntKind.i64.wrap mo).tmod (4 : Int)) < (10 : Int) then IntKind.i64.wrap ((0 : Int) + (IntKind.i64.wrap mo).tmod (4 : Int)) else (10 : Int)))]], []⟩) ∧ (LoopOW Tryd.prog .none p6a (T6an) ⟨⟨[(.int .u8 (mo)), (.int .i64 hut), (.int .i64 0), (.int .i64 0), (.int .i64 ((↑(3 : Nat) : Int))), (.int .i64 0), (.int .i64 rw), (.int .i64 st), (.int .i64 ((u hut).fl)), (.int .i64 ((u hut).br)), (.int .i64 ((↑(u hut).row : Int)))], [⟨((3 : Nat)), ((3 : Nat))⟩, ⟨m, cu⟩]⟩, [(tb), (huL m u), [(.int .i64 (IntKind.i64.wrap ((0 : Int) - (1 : Int)))), (.int .i64 0), (.int .i64 (if IntKind.i64.wrap ((0 : Int) + (IntKind.i64.wrap mo).tmod (4 : Int)) < (10 : Int) then IntKind.i64.wrap ((0 : Int) + (IntKind.i64.wrap mo).tmod (4 : Int)) else (10 : Int)))]], []⟩ (.exit ((0 : Nat))) (T6an) ⟨⟨[(.int .u8 (mo)), (.int .i64 hut), (.int .i64 ((↑(0 : Nat) : Int))), (.int .i64 ((↑(0 : Nat) : Int))), (.int .i64 3), (.int .i64 ((↑(3 : Nat) : Int))), (.int .i64 rw), (.int .i64 st), (.int .i64 ((u hut).fl)), (.int .i64 ((u hut).br)), (.int .i64 ((↑(u hut).row : Int)))], [⟨((3 : Nat)), ((3 : Nat))⟩, ⟨m, cu⟩]⟩, [(tb), (huL m u), [(.int .i64 (g (0 : Nat))), (.int .i64 (g (1 : Nat))), (.int .i64 (g (2 : Nat)))]], []⟩) ∧
((ClW ⟨⟨[(.int .i64 hut), (.int .i64 ((↑(0 : Nat) : Int))), (.int .i64 ((↑(3 : Nat) : Int))), (.int .i64 0), (.int .i64 rw), (.int .i64 st), (.int .i64 ((u hut).fl)), (.int .i64 ((u hut).br)), (.int .i64 ((↑(u hut).row : Int)))], [⟨((3 : Nat)), ((3 : Nat))⟩, ⟨m, cu⟩]⟩, [(tb), (huL m u), [(.int .i64 (IntKind.i64.wrap ((↑(0 : Nat) : Int) - (1 : Int)))), (.int .i64 ((↑(0 : Nat) : Int))), (.int .i64 (if IntKind.i64.wrap ((↑(0 : Nat) : Int) + (IntKind.i64.wrap mo).tmod (9 : Int)) < (40 : Int) then IntKind.i64.wrap ((↑(0 : Nat) : Int) + (IntKind.i64.wrap mo).tmod (9 : Int)) else (40 : Int)))]], []⟩) ∧ (LoopOW Tryd.prog .none p6b (T6bn) ⟨⟨[(.int .i64 hut), (.int .i64 ((↑(0 : Nat) : Int))), (.int .i64 ((↑(3 : Nat) : Int))), (.int .i64 0), (.int .i64 rw), (.int .i64 st), (.int .i64 ((u hut).fl)), (.int .i64 ((u hut).br)), (.int .i64 ((↑(u hut).row : Int)))], [⟨((3 : Nat)), ((3 : Nat))⟩, ⟨m, cu⟩]⟩, [(tb), (huL m u), [(.int .i64 (IntKind.i64.wrap ((↑(0 : Nat) : Int) - (1 : Int)))), (.int .i64 ((↑(0 : Nat) : Int))), (.int .i64 (if IntKind.i64.wrap ((↑(0 : Nat) : Int) + (IntKind.i64.wrap mo).tmod (9 : Int)) < (40 : Int) then IntKind.i64.wrap ((↑(0 : Nat) : Int) + (IntKind.i64.wrap mo).tmod (9 : Int)) else (40 : Int)))]], []⟩ (.exit ((2 : Nat))) (T6bn) ⟨⟨[(.int .i64 hut), (.int .i64 ((↑(0 : Nat) : Int))), (.int .i64 3), (.int .i64 ((↑(3 : Nat) : Int))), (.int .i64 rw), (.int .i64 st), (.int .i64 ((u hut).fl)), (.int .i64 ((u hut).br)), (.int .i64 ((↑(u hut).row : Int)))], [⟨((3 : Nat)), ((3 : Nat))⟩, ⟨m, cu⟩]⟩, [(tb), (huL m u), [(.int .i64 (g2 (0 : Nat))), (.int .i64 (g2 (1 : Nat))), (.int .i64 (g2 (2 : Nat)))]], []⟩) ∧
((ConOK Tryd.prog ((11 : Nat)) (C11t tb)) ∧ (Con.pre (C11t tb) ⟨⟨[], []⟩, [(tb)]⟩) ∧
R (.ret (.bool true))))))))))))))) := by kernel_rfl
theorem f6In (rw st : Int) (c1 m cu : Nat) (wh mo : Int) (tb us : List Value) (R : ARes → Prop) : (vx.call 6 [su_n rw st c1 m cu, .int .u8 wh, .int .u8 mo] (retK R) (mLH5 tb us) ([(21, .split ((9, Hint.con (C11t tb)) :: []) ((4, Hint.con (C20n rw st c1 m cu us false)) :: (6, Hint.con (C11t tb)) :: []))])) =
((((decide ((if (↑m : Int) > if (↑(0 : Nat) : Int) > (↑(0 : Nat) : Int) then (↑(0 : Nat) : Int) else (↑(0 : Nat) : Int) then (↑m : Int) else if (↑(0 : Nat) : Int) > (↑(0 : Nat) : Int) then (↑(0 : Nat) : Int) else (↑(0 : Nat) : Int)) > (40 : Int))) = true → ((ConOK Tryd.prog ((11 : Nat)) (C11t tb)) ∧ (Con.pre (C11t tb) ⟨⟨[], []⟩, [(tb)]⟩) ∧
R (.ret (.bool true)))) ∧
((decide ((if (↑m : Int) > if (↑(0 : Nat) : Int) > (↑(0 : Nat) : Int) then (↑(0 : Nat) : Int) else (↑(0 : Nat) : Int) then (↑m : Int) else if (↑(0 : Nat) : Int) > (↑(0 : Nat) : Int) then (↑(0 : Nat) : Int) else (↑(0 : Nat) : Int)) > (40 : Int))) = false → ((ConOK Tryd.prog ((20 : Nat)) (C20n rw st c1 m cu us false)) ∧ (Con.pre (C20n rw st c1 m cu us false) ⟨⟨[(.int .i64 rw), (.int .i64 st)], [⟨m, cu⟩]⟩, [(us)]⟩) ∧
((ConOK Tryd.prog ((11 : Nat)) (C11t tb)) ∧ (Con.pre (C11t tb) ⟨⟨[], []⟩, [(tb)]⟩) ∧
R (.ret (.bool true))))))) := by kernel_rfl
theorem f6Mn (rw st : Int) (c1 cu : Nat) (wh mo : Int) (tb us : List Value) (R : ARes → Prop) : (vx.call 6 [su_n rw st c1 0 cu, .int .u8 wh, .int .u8 mo] (retK R) (mLH5 tb us) ((26, Hint.con (C20n rw st c1 (0 : Nat) cu us true)) :: (10, Hint.con (C11t tb)) :: [])) =
(((ConOK Tryd.prog ((20 : Nat)) (C20n rw st c1 (0 : Nat) cu us true)) ∧ (Con.pre (C20n rw st c1 (0 : Nat) cu us true) ⟨⟨[(.int .i64 rw), (.int .i64 st)], [⟨0, cu⟩]⟩, [(us)]⟩) ∧
((ConOK Tryd.prog ((11 : Nat)) (C11t tb)) ∧ (Con.pre (C11t tb) ⟨⟨[], []⟩, [(tb)]⟩) ∧
R (.ret (.bool true))))) := by kernel_rfl
theorem f23v (rw st : Int) (c1 m cu : Nat) (hut : Nat) (u : Nat → Hut) (R : ARes → Prop) : (vx.call 23 [su_v rw st c1 m cu, I hut] (retK R) (mH (huL m u)) ((25, Hint.con (C20v rw st c1 m cu (huL m u) true)) :: (29, .val (.bool true)) :: (12, .val (.pointer (.some ⟨((4 : Nat)), ((0 : Nat) + hut * (3 : Nat)), .none⟩))) :: (0, .val (.agg ⟨[(.int .i64 ((u hut).fl)), (.int .i64 ((u hut).br)), (.int .i64 ((↑(u hut).row : Int)))]⟩)) :: (1, Hint.again) :: (17, Hint.again) :: (61, .val (.int .i64 (IntKind.i64.wrap ((1 : Int) * (2 : Int) ^ (↑(u hut).row : Int).toNat)))) :: (23, .val (.bool false)) :: (9, .val (.bool false)) :: [])) =
(((ConOK Tryd.prog ((79 : Nat)) (C20v rw st c1 m cu (huL m u) true)) ∧ (Con.pre (C20v rw st c1 m cu (huL m u) true) ⟨⟨[(.int .i64 rw), (.int .i64 st)], [⟨0, c1⟩, ⟨m, cu⟩]⟩, [(huL m u)]⟩) ∧
((((some (.bool (decide ((↑hut : Int) ≤ IntKind.i64.wrap ((↑m : Int) - (1 : Int))))) : Option Value) = some (.bool true))) ∧
((((((0 : Int) ≤ (↑hut : Int))) ∧ (((↑hut : Int) < (↑m : Int)))) ∧ (((.pointer (.some ⟨((4 : Nat)), ((0 : Nat) + hut * (3 : Nat)), .none⟩)) : Value) = (.pointer (.some ⟨((4 : Nat)), ((0 : Nat) + hut * (3 : Nat)), .none⟩)))) ∧
(((((0 : Nat) + hut * (3 : Nat) + (3 : Nat) ≤ (huL m u).length)) ∧ (((.agg ⟨[(.int .i64 ((u hut).fl)), (.int .i64 ((u hut).br)), (.int .i64 ((↑(u hut).row : Int)))]⟩) : Value) = (.agg ⟨(List.take ((3 : Nat)) (List.drop ((0 : Nat) + hut * (3 : Nat)) (huL m u)))⟩))) ∧
((((((0 : Nat) + hut * (3 : Nat) + (3 : Nat) ≤ (huL m u).length)) ∧ (((.agg ⟨[(.int .i64 ((u hut).fl)), (.int .i64 ((u hut).br)), (.int .i64 ((↑(u hut).row : Int)))]⟩) : Value) = (.agg ⟨(List.take ((3 : Nat)) (List.drop ((0 : Nat) + hut * (3 : Nat)) (huL m u)))⟩))) ∧ ((((some (.slice (.some ⟨4, 0, .none⟩) (m) (cu)) : Option Value) = some (.slice (.some ⟨4, 0, .none⟩) (m) (cu)))) ∧ (True))) ∧
((((((6 : Nat) ≤ (6 : Nat))) ∧ (((.agg ⟨[(.int .i64 rw), (.int .i64 st), (.slice .none ((0 : Nat)) ((0 : Nat))), (.slice (.some ⟨3, 0, .none⟩) ((0 : Nat)) (c1)), (.slice (.some ⟨4, 0, .none⟩) (m) (cu)), (.map (.some ((14 : Nat))))]⟩) : Value) = (.agg ⟨[(.int .i64 rw), (.int .i64 st), (.slice .none ((0 : Nat)) ((0 : Nat))), (.slice (.some ⟨3, 0, .none⟩) ((0 : Nat)) (c1)), (.slice (.some ⟨4, 0, .none⟩) (m) (cu)), (.map (.some ((14 : Nat))))]⟩))) ∧ (True)) ∧
((((((0 : Int) ≤ (↑(u hut).row : Int))) ∧ (((↑(u hut).row : Int) ≤ (↑(64 : Nat) : Int)))) ∧ (((.int .i64 (IntKind.i64.wrap ((1 : Int) * (2 : Int) ^ (↑(u hut).row : Int).toNat))) : Value) = (.int .i64 (IntKind.i64.wrap ((1 : Int) * (2 : Int) ^ (↑(u hut).row : Int).toNat))))) ∧
((((some (.bool (IntKind.i64.wrap ((1 : Int) * (2 : Int) ^ (↑(u hut).row : Int).toNat) == IntKind.i64.wrap ((1 : Int) * (2 : Int) ^ (6 : Nat)))) : Option Value) = some (.bool false))) ∧
((((some (.bool (bits BinOp.and IntKind.i64 (IntKind.i64.wrap ((1 : Int) * (2 : Int) ^ (↑(u hut).row : Int).toNat) / (2 : Int) ^ (6 : Nat)) (1 : Int) == (1 : Int))) : Option Value) = some (.bool false))) ∧
R (.ret (.tuple ⟨[(.int .i64 0), (.int .i64 0)]⟩)))))))))))) := by kernel_rfl
theorem f24v (rw st : Int) (c1 m cu : Nat) (hut : Nat) (u : Nat → Hut) (R : ARes → Prop) : (vx.call 24 [su_v rw st c1 m cu, I hut] (retK R) (mH (huL m u)) ((25, Hint.con (C20v rw st c1 m cu (huL m u) true)) :: (29, .val (.bool true)) :: (12, .val (.pointer (.some ⟨((4 : Nat)), ((0 : Nat) + hut * (3 : Nat)), .none⟩))) :: (0, .val (.agg ⟨[(.int .i64 ((u hut).fl)), (.int .i64 ((u hut).br)), (.int .i64 ((↑(u hut).row : Int)))]⟩)) :: (1, Hint.again) :: (17, Hint.again) :: (66, .val (.int .i64 (IntKind.i64.wrap ((1 : Int) * (2 : Int) ^ (↑(u hut).row : Int).toNat)))) :: (32, Hint.again) :: (16, .val (.int .i64 (IntKind.i64.wrap ((1 : Int) * (2 : Int) ^ (↑(u hut).row : Int).toNat)))) :: [])) =
(((ConOK Tryd.prog ((79 : Nat)) (C20v rw st c1 m cu (huL m u) true)) ∧ (Con.pre (C20v rw st c1 m cu (huL m u) true) ⟨⟨[(.int .i64 rw), (.int .i64 st)], [⟨0, c1⟩, ⟨m, cu⟩]⟩, [(huL m u)]⟩) ∧
((((some (.bool (decide ((↑hut : Int) ≤ IntKind.i64.wrap ((↑m : Int) - (1 : Int))))) : Option Value) = some (.bool true))) ∧
((((((0 : Int) ≤ (↑hut : Int))) ∧ (((↑hut : Int) < (↑m : Int)))) ∧ (((.pointer (.some ⟨((4 : Nat)), ((0 : Nat) + hut * (3 : Nat)), .none⟩)) : Value) = (.pointer (.some ⟨((4 : Nat)), ((0 : Nat) + hut * (3 : Nat)), .none⟩)))) ∧
(((((0 : Nat) + hut * (3 : Nat) + (3 : Nat) ≤ (huL m u).length)) ∧ (((.agg ⟨[(.int .i64 ((u hut).fl)), (.int .i64 ((u hut).br)), (.int .i64 ((↑(u hut).row : Int)))]⟩) : Value) = (.agg ⟨(List.take ((3 : Nat)) (List.drop ((0 : Nat) + hut * (3 : Nat)) (huL m u)))⟩))) ∧
((((((0 : Nat) + hut * (3 : Nat) + (3 : Nat) ≤ (huL m u).length)) ∧ (((.agg ⟨[(.int .i64 ((u hut).fl)), (.int .i64 ((u hut).br)), (.int .i64 ((↑(u hut).row : Int)))]⟩) : Value) = (.agg ⟨(List.take ((3 : Nat)) (List.drop ((0 : Nat) + hut * (3 : Nat)) (huL m u)))⟩))) ∧ ((((some (.slice (.some ⟨4, 0, .none⟩) (m) (cu)) : Option Value) = some (.slice (.some ⟨4, 0, .none⟩) (m) (cu)))) ∧ (True))) ∧
((((((6 : Nat) ≤ (6 : Nat))) ∧ (((.agg ⟨[(.int .i64 rw), (.int .i64 st), (.slice .none ((0 : Nat)) ((0 : Nat))), (.slice (.some ⟨3, 0, .none⟩) ((0 : Nat)) (c1)), (.slice (.some ⟨4, 0, .none⟩) (m) (cu)), (.map (.some ((14 : Nat))))]⟩) : Value) = (.agg ⟨[(.int .i64 rw), (.int .i64 st), (.slice .none ((0 : Nat)) ((0 : Nat))), (.slice (.some ⟨3, 0, .none⟩) ((0 : Nat)) (c1)), (.slice (.some ⟨4, 0, .none⟩) (m) (cu)), (.map (.some ((14 : Nat))))]⟩))) ∧ (True)) ∧
((((((0 : Int) ≤ (↑(u hut).row : Int))) ∧ (((↑(u hut).row : Int) ≤ (↑(64 : Nat) : Int)))) ∧ (((.int .i64 (IntKind.i64.wrap ((1 : Int) * (2 : Int) ^ (↑(u hut).row : Int).toNat))) : Value) = (.int .i64 (IntKind.i64.wrap ((1 : Int) * (2 : Int) ^ (↑(u hut).row : Int).toNat))))) ∧
((((((3 : Nat) ≤ (3 : Nat))) ∧ (((.agg ⟨[(.int .i64 0), (.int .i64 ((u hut).br)), (.int .i64 ((↑(u hut).row : Int)))]⟩) : Value) = (.agg ⟨[(.int .i64 0), (.int .i64 ((u hut).br)), (.int .i64 ((↑(u hut).row : Int)))]⟩))) ∧ (((((6 : Nat) ≤ (6 : Nat))) ∧ (((.agg ⟨[(.int .i64 rw), (.int .i64 st), (.slice .none ((0 : Nat)) ((0 : Nat))), (.slice (.some ⟨3, 0, .none⟩) ((0 : Nat)) (c1)), (.slice (.some ⟨4, 0, .none⟩) (m) (cu)), (.map (.some ((14 : Nat))))]⟩) : Value) = (.agg ⟨[(.int .i64 rw), (.int .i64 st), (.slice .none ((0 : Nat)) ((0 : Nat))), (.slice (.some ⟨3, 0, .none⟩) ((0 : Nat)) (c1)), (.slice (.some ⟨4, 0, .none⟩) (m) (cu)), (.map (.some ((14 : Nat))))]⟩))) ∧ (True))) ∧
((((((0 : Int) ≤ (↑(u hut).row : Int))) ∧ (((↑(u hut).row : Int) ≤ (↑(64 : Nat) : Int)))) ∧ (((.int .i64 (IntKind.i64.wrap ((1 : Int) * (2 : Int) ^ (↑(u hut).row : Int).toNat))) : Value) = (.int .i64 (IntKind.i64.wrap ((1 : Int) * (2 : Int) ^ (↑(u hut).row : Int).toNat))))) ∧
R (.ret (.tuple ⟨[(.int .i64 0), (.int .i64 0)]⟩)))))))))))) := by kernel_rfl
theorem b6anv (rw st : Int) (c1 m cu : Nat) (mo fl br : Int) (hut bk fr row i : Nat) (tb us : List Value) (g : Nat → Int) (R : Nat → AExit → Hw → Prop) : (vx.code none (.l p6a) (leafW [T6av] R) (T6av.inst (h6av rw st c1 m cu hut bk fr mo fl br row tb us g i)) ([(0, .split ((1, .val (.pointer (.some ⟨((9 : Nat)), ((0 : Nat) + i * (1 : Nat)), .none⟩))) :: (0, .val (.int .i64 (g i))) :: (2, .val (.bool true)) :: [(3, .tm 0 [])]) ([(1, .tm 0 [])]))])) =
((((decide ((↑i : Int) < (3 : Int))) = true → ((((((0 : Int) ≤ (↑i : Int))) ∧ (((↑i : Int) < (↑(3 : Nat) : Int)))) ∧ (((.pointer (.some ⟨((9 : Nat)), ((0 : Nat) + i * (1 : Nat)), .none⟩)) : Value) = (.pointer (.some ⟨((9 : Nat)), ((0 : Nat) + i * (1 : Nat)), .none⟩)))) ∧
((([Value.int .i64 (g (0 : Nat)), Value.int .i64 (g (1 : Nat)), Value.int .i64 (g (2 : Nat))][(0 : Nat) + i * (1 : Nat)]? = some (.int .i64 (g i)))) ∧
((((some (.bool (decide (g i < (0 : Int)))) : Option Value) = some (.bool true))) ∧
R 0 .normal ⟨⟨[(.int .u8 (mo)), (.int .i64 hut), (.int .i64 bk), (.int .i64 fr), (.int .i64 3), (.int .i64 (IntKind.i64.wrap ((↑i : Int) + (1 : Int)))), (.int .i64 rw), (.int .i64 st), (.int .i64 fl), (.int .i64 br), (.int .i64 row)], [⟨((3 : Nat)), ((3 : Nat))⟩, ⟨0, c1⟩, ⟨m, cu⟩]⟩, [(tb), (us), [(.int .i64 (g (0 : Nat))), (.int .i64 (g (1 : Nat))), (.int .i64 (g (2 : Nat)))]], []⟩)))) ∧
((decide ((↑i : Int) < (3 : Int))) = false → R 0 (.exit ((0 : Nat))) ⟨⟨[(.int .u8 (mo)), (.int .i64 hut), (.int .i64 bk), (.int .i64 fr), (.int .i64 3), (.int .i64 i), (.int .i64 rw), (.int .i64 st), (.int .i64 fl), (.int .i64 br), (.int .i64 row)], [⟨((3 : Nat)), ((3 : Nat))⟩, ⟨0, c1⟩, ⟨m, cu⟩]⟩, [(tb), (us), [(.int .i64 (g (0 : Nat))), (.int .i64 (g (1 : Nat))), (.int .i64 (g (2 : Nat)))]], []⟩))) := by kernel_rfl
theorem b6bnv (rw st : Int) (c1 m cu : Nat) (fl br : Int) (hut fr row i : Nat) (tb us : List Value) (g : Nat → Int) (R : Nat → AExit → Hw → Prop) : (vx.code none (.l p6b) (leafW [T6bv] R) (T6bv.inst (h6bv rw st c1 m cu hut fr fl br row tb us g i)) ([(0, .split ((1, .val (.pointer (.some ⟨((10 : Nat)), ((0 : Nat) + i * (1 : Nat)), .none⟩))) :: (0, .val (.int .i64 (g i))) :: (2, .val (.bool true)) :: [(3, .tm 0 [])]) ([(1, .tm 0 [])]))])) =
((((decide ((↑i : Int) < (3 : Int))) = true → ((((((0 : Int) ≤ (↑i : Int))) ∧ (((↑i : Int) < (↑(3 : Nat) : Int)))) ∧ (((.pointer (.some ⟨((10 : Nat)), ((0 : Nat) + i * (1 : Nat)), .none⟩)) : Value) = (.pointer (.some ⟨((10 : Nat)), ((0 : Nat) + i * (1 : Nat)), .none⟩)))) ∧
((([Value.int .i64 (g (0 : Nat)), Value.int .i64 (g (1 : Nat)), Value.int .i64 (g (2 : Nat))][(0 : Nat) + i * (1 : Nat)]? = some (.int .i64 (g i)))) ∧
((((some (.bool (decide (g i < (0 : Int)))) : Option Value) = some (.bool true))) ∧
R 0 .normal ⟨⟨[(.int .i64 hut), (.int .i64 fr), (.int .i64 3), (.int .i64 (IntKind.i64.wrap ((↑i : Int) + (1 : Int)))), (.int .i64 rw), (.int .i64 st), (.int .i64 fl), (.int .i64 br), (.int .i64 row)], [⟨((3 : Nat)), ((3 : Nat))⟩, ⟨0, c1⟩, ⟨m, cu⟩]⟩, [(tb), (us), [(.int .i64 (g (0 : Nat))), (.int .i64 (g (1 : Nat))), (.int .i64 (g (2 : Nat)))]], []⟩)))) ∧
((decide ((↑i : Int) < (3 : Int))) = false → R 0 (.exit ((2 : Nat))) ⟨⟨[(.int .i64 hut), (.int .i64 fr), (.int .i64 3), (.int .i64 i), (.int .i64 rw), (.int .i64 st), (.int .i64 fl), (.int .i64 br), (.int .i64 row)], [⟨((3 : Nat)), ((3 : Nat))⟩, ⟨0, c1⟩, ⟨m, cu⟩]⟩, [(tb), (us), [(.int .i64 (g (0 : Nat))), (.int .i64 (g (1 : Nat))), (.int .i64 (g (2 : Nat)))]], []⟩))) := by kernel_rfl
theorem b6av (rw st : Int) (c1 m cu : Nat) (mo l : Int) (hut bk fr i : Nat) (tb : List Value) (u u2 : Nat → Hut) (g : Nat → Int) (R : Nat → AExit → Hw → Prop) : (vx.code none (.l p6a) (leafW [T6av] R) (T6av.inst (h6av rw st c1 m cu hut bk fr mo (u hut).fl (u hut).br (u hut).row tb (huL m u) g i)) ([(0, .split ((1, .val (.pointer (.some ⟨((9 : Nat)), ((0 : Nat) + i * (1 : Nat)), .none⟩))) :: (0, .val (.int .i64 (g i))) :: (2, .val (.bool false)) :: (22, Hint.growN) :: (10, .val (.pointer (.some ⟨((4 : Nat)), ((0 : Nat) + hut * (3 : Nat)), .none⟩))) :: (1, .val (.int .i64 ((↑(u hut).row : Int)))) :: (1, .val (.pointer (.some ⟨((16 : Nat)), ((0 : Nat) + hut * (3 : Nat)), .none⟩))) :: (0, Hint.put (huL m u2)) :: (4, Hint.con (CSv rw st c1 ((0 : Nat) + m) ((0 : Nat) + m) (huL m u2) (↑hut : Int) (Value.tuple { toList := [I l, I (0 : Int)] }))) :: [(9, .split ([(2, .split ([(5, .tm 0 [])]) ([(4, .tm 0 [])]))]) ([(2, .split ([(4, .tm 0 [])]) ([(5, .tm 0 [])]))]))]) ([(1, .tm 0 [])]))])) =
((((decide ((↑i : Int) < (3 : Int))) = true → ((((((0 : Int) ≤ (↑i : Int))) ∧ (((↑i : Int) < (↑(3 : Nat) : Int)))) ∧ (((.pointer (.some ⟨((9 : Nat)), ((0 : Nat) + i * (1 : Nat)), .none⟩)) : Value) = (.pointer (.some ⟨((9 : Nat)), ((0 : Nat) + i * (1 : Nat)), .none⟩)))) ∧
((([Value.int .i64 (g (0 : Nat)), Value.int .i64 (g (1 : Nat)), Value.int .i64 (g (2 : Nat))][(0 : Nat) + i * (1 : Nat)]? = some (.int .i64 (g i)))) ∧
((((some (.bool (decide (g i < (0 : Int)))) : Option Value) = some (.bool false))) ∧
(((((((0 : Nat) < m)) ∧ (((0 : Nat) + m * (3 : Nat) ≤ (huL m u).length))) ∧ (((List.take (m * (3 : Nat)) (List.drop (0 : Nat) (huL m u))).all one = true))) ∧ (((¬(0 : Nat) + m ≤ (0 : Nat))) ∧ ((((0 : Nat) = (0 : Nat))) ∧ (((((0 : Nat) + m) * (24 : Nat) ≤ (140737488355328 : Nat))) ∧ (((0 : Nat) + m ≤ (4611686018427387904 : Nat))))))) ∧
((((((0 : Int) ≤ (↑hut : Int))) ∧ (((↑hut : Int) < (↑m : Int)))) ∧ (((.pointer (.some ⟨((4 : Nat)), ((0 : Nat) + hut * (3 : Nat)), .none⟩)) : Value) = (.pointer (.some ⟨((4 : Nat)), ((0 : Nat) + hut * (3 : Nat)), .none⟩)))) ∧
((((huL m u)[(0 : Nat) + hut * (3 : Nat) + (2 : Nat)]? = some (.int .i64 ((↑(u hut).row : Int))))) ∧
((((((0 : Int) ≤ (↑hut : Int))) ∧ (((↑hut : Int) < (↑((0 : Nat) + m) : Int)))) ∧ (((.pointer (.some ⟨((16 : Nat)), ((0 : Nat) + hut * (3 : Nat)), .none⟩)) : Value) = (.pointer (.some ⟨((16 : Nat)), ((0 : Nat) + hut * (3 : Nat)), .none⟩)))) ∧
(((((0 : Nat) + hut * (3 : Nat) + (3 : Nat) ≤ (List.take (0 : Nat) [] ++ List.take (m * (3 : Nat)) (List.drop (0 : Nat) (huL m u))).length)) ∧ ((List.take ((0 : Nat) + hut * (3 : Nat)) (List.take (0 : Nat) [] ++ List.take (m * (3 : Nat)) (List.drop (0 : Nat) (huL m u))) ++ [Value.int .i64 (u hut).fl, Value.int .i64 (g i), Value.int .i64 (↑(u hut).row : Int)] ++ List.drop ((0 : Nat) + hut * (3 : Nat) + (3 : Nat)) (List.take (0 : Nat) [] ++ List.take (m * (3 : Nat)) (List.drop (0 : Nat) (huL m u))) = huL m u2))) ∧
((ConOK Tryd.prog ((15 : Nat)) (CSv rw st c1 ((0 : Nat) + m) ((0 : Nat) + m) (huL m u2) (↑hut : Int) (Value.tuple { toList := [I l, I (0 : Int)] }))) ∧ (Con.pre (CSv rw st c1 ((0 : Nat) + m) ((0 : Nat) + m) (huL m u2) (↑hut : Int) (Value.tuple { toList := [I l, I (0 : Int)] })) ⟨⟨[(.int .i64 rw), (.int .i64 st), (.int .i64 hut)], [⟨0, c1⟩, ⟨((0 : Nat) + m), ((0 : Nat) + m)⟩]⟩, [(huL m u2)]⟩) ∧
(((l == (0 : Int)) = true → (((decide (g i ≥ (↑bk : Int))) = true → R 0 .normal ⟨⟨[(.int .u8 (mo)), (.int .i64 hut), (.int .i64 bk), (.int .i64 fr), (.int .i64 3), (.int .i64 (IntKind.i64.wrap ((↑i : Int) + (1 : Int)))), (.int .i64 rw), (.int .i64 st), (.int .i64 ((u hut).fl)), (.int .i64 ((u hut).br)), (.int .i64 ((↑(u hut).row : Int)))], [⟨((3 : Nat)), ((3 : Nat))⟩, ⟨0, c1⟩, ⟨m, cu⟩]⟩, [(tb), (huL m u), [(.int .i64 (g (0 : Nat))), (.int .i64 (g (1 : Nat))), (.int .i64 (g (2 : Nat)))]], []⟩) ∧
((decide (g i ≥ (↑bk : Int))) = false → R 0 .ret ⟨⟨[(.int .u8 (mo)), (.int .i64 hut), (.int .i64 bk), (.int .i64 fr), (.int .i64 3), (.int .i64 i), (.int .i64 rw), (.int .i64 st), (.int .i64 ((u hut).fl)), (.int .i64 ((u hut).br)), (.int .i64 ((↑(u hut).row : Int)))], [⟨((3 : Nat)), ((3 : Nat))⟩, ⟨0, c1⟩, ⟨m, cu⟩]⟩, [(tb), (huL m u), [(.int .i64 (g (0 : Nat))), (.int .i64 (g (1 : Nat))), (.int .i64 (g (2 : Nat)))]], []⟩))) ∧
((l == (0 : Int)) = false → (((decide (g i ≥ (↑bk : Int))) = true → R 0 .ret ⟨⟨[(.int .u8 (mo)), (.int .i64 hut), (.int .i64 bk), (.int .i64 fr), (.int .i64 3), (.int .i64 i), (.int .i64 rw), (.int .i64 st), (.int .i64 ((u hut).fl)), (.int .i64 ((u hut).br)), (.int .i64 ((↑(u hut).row : Int)))], [⟨((3 : Nat)), ((3 : Nat))⟩, ⟨0, c1⟩, ⟨m, cu⟩]⟩, [(tb), (huL m u), [(.int .i64 (g (0 : Nat))), (.int .i64 (g (1 : Nat))), (.int .i64 (g (2 : Nat)))]], []⟩) ∧
((decide (g i ≥ (↑bk : Int))) = false → R 0 .normal ⟨⟨[(.int .u8 (mo)), (.int .i64 hut), (.int .i64 bk), (.int .i64 fr), (.int .i64 3), (.int .i64 (IntKind.i64.wrap ((↑i : Int) + (1 : Int)))), (.int .i64 rw), (.int .i64 st), (.int .i64 ((u hut).fl)), (.int .i64 ((u hut).br)), (.int .i64 ((↑(u hut).row : Int)))], [⟨((3 : Nat)), ((3 : Nat))⟩, ⟨0, c1⟩, ⟨m, cu⟩]⟩, [(tb), (huL m u), [(.int .i64 (g (0 : Nat))), (.int .i64 (g (1 : Nat))), (.int .i64 (g (2 : Nat)))]], []⟩)))))))))))))) ∧
((decide ((↑i : Int) < (3 : Int))) = false → R 0 (.exit ((0 : Nat))) ⟨⟨[(.int .u8 (mo)), (.int .i64 hut), (.int .i64 bk), (.int .i64 fr), (.int .i64 3), (.int .i64 i), (.int .i64 rw), (.int .i64 st), (.int .i64 ((u hut).fl)), (.int .i64 ((u hut).br)), (.int .i64 ((↑(u hut).row : Int)))], [⟨((3 : Nat)), ((3 : Nat))⟩, ⟨0, c1⟩, ⟨m, cu⟩]⟩, [(tb), (huL m u), [(.int .i64 (g (0 : Nat))), (.int .i64 (g (1 : Nat))), (.int .i64 (g (2 : Nat)))]], []⟩))) := by kernel_rfl
theorem b6bv (rw st : Int) (c1 m cu : Nat) (x y : Int) (hut fr i : Nat) (tb : List Value) (u u2 : Nat → Hut) (g : Nat → Int) (R : Nat → AExit → Hw → Prop) : (vx.code none (.l p6b) (leafW [T6bv] R) (T6bv.inst (h6bv rw st c1 m cu hut fr (u hut).fl (u hut).br (u hut).row tb (huL m u) g i)) ([(0, .split ((1, .val (.pointer (.some ⟨((10 : Nat)), ((0 : Nat) + i * (1 : Nat)), .none⟩))) :: (0, .val (.int .i64 (g i))) :: (2, .val (.bool false)) :: (22, Hint.growN) :: (10, .val (.pointer (.some ⟨((4 : Nat)), ((0 : Nat) + hut * (3 : Nat)), .none⟩))) :: (1, .val (.int .i64 ((↑(u hut).row : Int)))) :: (1, .val (.pointer (.some ⟨((17 : Nat)), ((0 : Nat) + hut * (3 : Nat)), .none⟩))) :: (0, Hint.put (huL m u2)) :: (4, Hint.con (CSv rw st c1 ((0 : Nat) + m) ((0 : Nat) + m) (huL m u2) (↑hut : Int) (Value.tuple { toList := [I x, I y, I (0 : Int)] }))) :: [(11, .split ([(2, .split ([(5, .tm 0 [])]) ([(4, .tm 0 [])]))]) ([(2, .split ([(4, .tm 0 [])]) ([(5, .tm 0 [])]))]))]) ([(1, .tm 0 [])]))])) =
((((decide ((↑i : Int) < (3 : Int))) = true → ((((((0 : Int) ≤ (↑i : Int))) ∧ (((↑i : Int) < (↑(3 : Nat) : Int)))) ∧ (((.pointer (.some ⟨((10 : Nat)), ((0 : Nat) + i * (1 : Nat)), .none⟩)) : Value) = (.pointer (.some ⟨((10 : Nat)), ((0 : Nat) + i * (1 : Nat)), .none⟩)))) ∧
((([Value.int .i64 (g (0 : Nat)), Value.int .i64 (g (1 : Nat)), Value.int .i64 (g (2 : Nat))][(0 : Nat) + i * (1 : Nat)]? = some (.int .i64 (g i)))) ∧
((((some (.bool (decide (g i < (0 : Int)))) : Option Value) = some (.bool false))) ∧
(((((((0 : Nat) < m)) ∧ (((0 : Nat) + m * (3 : Nat) ≤ (huL m u).length))) ∧ (((List.take (m * (3 : Nat)) (List.drop (0 : Nat) (huL m u))).all one = true))) ∧ (((¬(0 : Nat) + m ≤ (0 : Nat))) ∧ ((((0 : Nat) = (0 : Nat))) ∧ (((((0 : Nat) + m) * (24 : Nat) ≤ (140737488355328 : Nat))) ∧ (((0 : Nat) + m ≤ (4611686018427387904 : Nat))))))) ∧
((((((0 : Int) ≤ (↑hut : Int))) ∧ (((↑hut : Int) < (↑m : Int)))) ∧ (((.pointer (.some ⟨((4 : Nat)), ((0 : Nat) + hut * (3 : Nat)), .none⟩)) : Value) = (.pointer (.some ⟨((4 : Nat)), ((0 : Nat) + hut * (3 : Nat)), .none⟩)))) ∧
((((huL m u)[(0 : Nat) + hut * (3 : Nat) + (2 : Nat)]? = some (.int .i64 ((↑(u hut).row : Int))))) ∧
((((((0 : Int) ≤ (↑hut : Int))) ∧ (((↑hut : Int) < (↑((0 : Nat) + m) : Int)))) ∧ (((.pointer (.some ⟨((17 : Nat)), ((0 : Nat) + hut * (3 : Nat)), .none⟩)) : Value) = (.pointer (.some ⟨((17 : Nat)), ((0 : Nat) + hut * (3 : Nat)), .none⟩)))) ∧
(((((0 : Nat) + hut * (3 : Nat) + (3 : Nat) ≤ (List.take (0 : Nat) [] ++ List.take (m * (3 : Nat)) (List.drop (0 : Nat) (huL m u))).length)) ∧ ((List.take ((0 : Nat) + hut * (3 : Nat)) (List.take (0 : Nat) [] ++ List.take (m * (3 : Nat)) (List.drop (0 : Nat) (huL m u))) ++ [Value.int .i64 (g i), Value.int .i64 (u hut).br, Value.int .i64 (↑(u hut).row : Int)] ++ List.drop ((0 : Nat) + hut * (3 : Nat) + (3 : Nat)) (List.take (0 : Nat) [] ++ List.take (m * (3 : Nat)) (List.drop (0 : Nat) (huL m u))) = huL m u2))) ∧
((ConOK Tryd.prog ((14 : Nat)) (CSv rw st c1 ((0 : Nat) + m) ((0 : Nat) + m) (huL m u2) (↑hut : Int) (Value.tuple { toList := [I x, I y, I (0 : Int)] }))) ∧ (Con.pre (CSv rw st c1 ((0 : Nat) + m) ((0 : Nat) + m) (huL m u2) (↑hut : Int) (Value.tuple { toList := [I x, I y, I (0 : Int)] })) ⟨⟨[(.int .i64 rw), (.int .i64 st), (.int .i64 hut)], [⟨0, c1⟩, ⟨((0 : Nat) + m), ((0 : Nat) + m)⟩]⟩, [(huL m u2)]⟩) ∧
(((y == (0 : Int)) = true → (((decide (g i ≥ (↑fr : Int))) = true → R 0 .normal ⟨⟨[(.int .i64 hut), (.int .i64 fr), (.int .i64 3), (.int .i64 (IntKind.i64.wrap ((↑i : Int) + (1 : Int)))), (.int .i64 rw), (.int .i64 st), (.int .i64 ((u hut).fl)), (.int .i64 ((u hut).br)), (.int .i64 ((↑(u hut).row : Int)))], [⟨((3 : Nat)), ((3 : Nat))⟩, ⟨0, c1⟩, ⟨m, cu⟩]⟩, [(tb), (huL m u), [(.int .i64 (g (0 : Nat))), (.int .i64 (g (1 : Nat))), (.int .i64 (g (2 : Nat)))]], []⟩) ∧
((decide (g i ≥ (↑fr : Int))) = false → R 0 .ret ⟨⟨[(.int .i64 hut), (.int .i64 fr), (.int .i64 3), (.int .i64 i), (.int .i64 rw), (.int .i64 st), (.int .i64 ((u hut).fl)), (.int .i64 ((u hut).br)), (.int .i64 ((↑(u hut).row : Int)))], [⟨((3 : Nat)), ((3 : Nat))⟩, ⟨0, c1⟩, ⟨m, cu⟩]⟩, [(tb), (huL m u), [(.int .i64 (g (0 : Nat))), (.int .i64 (g (1 : Nat))), (.int .i64 (g (2 : Nat)))]], []⟩))) ∧
((y == (0 : Int)) = false → (((decide (g i ≥ (↑fr : Int))) = true → R 0 .ret ⟨⟨[(.int .i64 hut), (.int .i64 fr), (.int .i64 3), (.int .i64 i), (.int .i64 rw), (.int .i64 st), (.int .i64 ((u hut).fl)), (.int .i64 ((u hut).br)), (.int .i64 ((↑(u hut).row : Int)))], [⟨((3 : Nat)), ((3 : Nat))⟩, ⟨0, c1⟩, ⟨m, cu⟩]⟩, [(tb), (huL m u), [(.int .i64 (g (0 : Nat))), (.int .i64 (g (1 : Nat))), (.int .i64 (g (2 : Nat)))]], []⟩) ∧
((decide (g i ≥ (↑fr : Int))) = false → R 0 .normal ⟨⟨[(.int .i64 hut), (.int .i64 fr), (.int .i64 3), (.int .i64 (IntKind.i64.wrap ((↑i : Int) + (1 : Int)))), (.int .i64 rw), (.int .i64 st), (.int .i64 ((u hut).fl)), (.int .i64 ((u hut).br)), (.int .i64 ((↑(u hut).row : Int)))], [⟨((3 : Nat)), ((3 : Nat))⟩, ⟨0, c1⟩, ⟨m, cu⟩]⟩, [(tb), (huL m u), [(.int .i64 (g (0 : Nat))), (.int .i64 (g (1 : Nat))), (.int .i64 (g (2 : Nat)))]], []⟩)))))))))))))) ∧
((decide ((↑i : Int) < (3 : Int))) = false → R 0 (.exit ((2 : Nat))) ⟨⟨[(.int .i64 hut), (.int .i64 fr), (.int .i64 3), (.int .i64 i), (.int .i64 rw), (.int .i64 st), (.int .i64 ((u hut).fl)), (.int .i64 ((u hut).br)), (.int .i64 ((↑(u hut).row : Int)))], [⟨((3 : Nat)), ((3 : Nat))⟩, ⟨0, c1⟩, ⟨m, cu⟩]⟩, [(tb), (huL m u), [(.int .i64 (g (0 : Nat))), (.int .i64 (g (1 : Nat))), (.int .i64 (g (2 : Nat)))]], []⟩))) := by kernel_rfl
theorem f6Dv (rw st : Int) (c1 m cu : Nat) (hut : Nat) (wh mo : Int) (tb : List Value) (u : Nat → Hut) (g g2 : Nat → Int) (R : ARes → Prop) : (vx.call 6 [su_v rw st c1 m cu, .int .u8 wh, .int .u8 mo] (retK R) (mLH5 tb (huL m u)) ([(21, .split ((9, Hint.con (C11t tb)) :: []) ((4, Hint.con (C20v rw st c1 m cu (huL m u) true)) :: (7, .val (.bool false)) :: (7, .val (.int .i64 hut)) :: (4, .val (.pointer (.some ⟨((4 : Nat)), ((0 : Nat) + hut * (3 : Nat)), .none⟩))) :: (0, .val (.agg ⟨[(.int .i64 ((u hut).fl)), (.int .i64 ((u hut).br)), (.int .i64 ((↑(u hut).row : Int)))]⟩)) :: (4, Hint.con (CSv rw st c1 m cu (huL m u) (↑hut : Int) (Value.tuple { toList := [I (0 : Int), I (0 : Int)] }))) :: (7, Hint.con (CSv rw st c1 m cu (huL m u) (↑hut : Int) (Value.tuple { toList := [I (0 : Int), I (0 : Int)] }))) :: (40, Hint.loopW T6av (AExit.exit (0 : Nat)) T6av fun x => h6av rw st c1 m cu hut (0 : Nat) (0 : Nat) mo (u hut).fl (u hut).br (u hut).row tb (huL m u) g (3 : Nat)) :: (12, Hint.loopW T6bv (AExit.exit (2 : Nat)) T6bv fun x => h6bv rw st c1 m cu hut (0 : Nat) (u hut).fl (u hut).br (u hut).row tb (huL m u) g2 (3 : Nat)) :: (0, Hint.con (C11t tb)) :: []))])) =
((((decide ((if (↑m : Int) > if (↑(0 : Nat) : Int) > (↑(0 : Nat) : Int) then (↑(0 : Nat) : Int) else (↑(0 : Nat) : Int) then (↑m : Int) else if (↑(0 : Nat) : Int) > (↑(0 : Nat) : Int) then (↑(0 : Nat) : Int) else (↑(0 : Nat) : Int)) > (40 : Int))) = true → ((ConOK Tryd.prog ((11 : Nat)) (C11t tb)) ∧ (Con.pre (C11t tb) ⟨⟨[], []⟩, [(tb)]⟩) ∧
R (.ret (.bool true)))) ∧
((decide ((if (↑m : Int) > if (↑(0 : Nat) : Int) > (↑(0 : Nat) : Int) then (↑(0 : Nat) : Int) else (↑(0 : Nat) : Int) then (↑m : Int) else if (↑(0 : Nat) : Int) > (↑(0 : Nat) : Int) then (↑(0 : Nat) : Int) else (↑(0 : Nat) : Int)) > (40 : Int))) = false → ((ConOK Tryd.prog ((20 : Nat)) (C20v rw st c1 m cu (huL m u) true)) ∧ (Con.pre (C20v rw st c1 m cu (huL m u) true) ⟨⟨[(.int .i64 rw), (.int .i64 st)], [⟨0, c1⟩, ⟨m, cu⟩]⟩, [(huL m u)]⟩) ∧
((((some (.bool ((↑m : Int) == (0 : Int))) : Option Value) = some (.bool false))) ∧
((((((↑m : Int) ≠ (0 : Int))) ∧ ((IntKind.i64 = IntKind.i64))) ∧ (((.int .i64 hut) : Value) = (.int .i64 ((IntKind.i64.wrap wh).tmod (↑m : Int))))) ∧
((((((0 : Int) ≤ (↑hut : Int))) ∧ (((↑hut : Int) < (↑m : Int)))) ∧ (((.pointer (.some ⟨((4 : Nat)), ((0 : Nat) + hut * (3 : Nat)), .none⟩)) : Value) = (.pointer (.some ⟨((4 : Nat)), ((0 : Nat) + hut * (3 : Nat)), .none⟩)))) ∧
(((((0 : Nat) + hut * (3 : Nat) + (3 : Nat) ≤ (huL m u).length)) ∧ (((.agg ⟨[(.int .i64 ((u hut).fl)), (.int .i64 ((u hut).br)), (.int .i64 ((↑(u hut).row : Int)))]⟩) : Value) = (.agg ⟨(List.take ((3 : Nat)) (List.drop ((0 : Nat) + hut * (3 : Nat)) (huL m u)))⟩))) ∧
((ConOK Tryd.prog ((23 : Nat)) (CSv rw st c1 m cu (huL m u) (↑hut : Int) (Value.tuple { toList := [I (0 : Int), I (0 : Int)] }))) ∧ (Con.pre (CSv rw st c1 m cu (huL m u) (↑hut : Int) (Value.tuple { toList := [I (0 : Int), I (0 : Int)] })) ⟨⟨[(.int .i64 rw), (.int .i64 st), (.int .i64 hut)], [⟨0, c1⟩, ⟨m, cu⟩]⟩, [(huL m u)]⟩) ∧
((ConOK Tryd.prog ((24 : Nat)) (CSv rw st c1 m cu (huL m u) (↑hut : Int) (Value.tuple { toList := [I (0 : Int), I (0 : Int)] }))) ∧ (Con.pre (CSv rw st c1 m cu (huL m u) (↑hut : Int) (Value.tuple { toList := [I (0 : Int), I (0 : Int)] })) ⟨⟨[(.int .i64 rw), (.int .i64 st), (.int .i64 hut)], [⟨0, c1⟩, ⟨m, cu⟩]⟩, [(huL m u)]⟩) ∧
((ClW ⟨⟨[(.int .u8 (mo)), (.int .i64 hut), (.int .i64 0), (.int .i64 0), (.int .i64 ((↑(3 : Nat) : Int))), (.int .i64 0), (.int .i64 rw), (.int .i64 st), (.int .i64 ((u hut).fl)), (.int .i64 ((u hut).br)), (.int .i64 ((↑(u hut).row : Int)))], [⟨((3 : Nat)), ((3 : Nat))⟩, ⟨0, c1⟩, ⟨m, cu⟩]⟩, [(tb), (huL m u), [(.int .i64 (IntKind.i64.wrap ((0 : Int) - (1 : Int)))), (.int .i64 0), (.int .i64 (if IntKind.i64.wrap ((0 : Int) + (IntKind.i64.wrap mo).tmod (4 : Int)) < (10 : Int) then IntKind.i64.wrap ((0 : Int) + (IntKind.i64.wrap mo).tmod (4 : Int)) else (10 : Int)))]], []⟩) ∧ (LoopOW Tryd.prog .none p6a (T6av) ⟨⟨[(.int .u8 (mo)), (.int .i64 hut), (.int .i64 0), (.int .i64 0), (.int .i64 ((↑(3 : Nat) : Int))), (.int .i64 0), (.int .i64 rw), (.int .i64 st), (.int .i64 ((u hut).fl)), (.int .i64 ((u hut).br)), (.int .i64 ((↑(u hut).row : Int)))], [⟨((3 : Nat)), ((3 : Nat))⟩, ⟨0, c1⟩, ⟨m, cu⟩]⟩, [(tb), (huL m u), [(.int .i64 (IntKind.i64.wrap ((0 : Int) - (1 : Int)))), (.int .i64 0), (.int .i64 (if IntKind.i64.wrap ((0 : Int) + (IntKind.i64.wrap mo).tmod (4 : Int)) < (10 : Int) then IntKind.i64.wrap ((0 : Int) + (IntKind.i64.wrap mo).tmod (4 : Int)) else (10 : Int)))]], []⟩ (.exit ((0 : Nat))) (T6av) ⟨⟨[(.int .u8 (mo)), (.int .i64 hut), (.int .i64 ((↑(0 : Nat) : Int))), (.int .i64 ((↑(0 : Nat) : Int))), (.int .i64 3), (.int .i64 ((↑(3 : Nat) : Int))), (.int .i64 rw), (.int .i64 st), (.int .i64 ((u hut).fl)), (.int .i64 ((u hut).br)), (.int .i64 ((↑(u hut).row : Int)))], [⟨((3 : Nat)), ((3 : Nat))⟩, ⟨0, c1⟩, ⟨m, cu⟩]⟩, [(tb), (huL m u), [(.int .i64 (g (0 : Nat))), (.int .i64 (g (1 : Nat))), (.int .i64 (g (2 : Nat)))]], []⟩) ∧
((ClW ⟨⟨[(.int .i64 hut), (.int .i64 ((↑(0 : Nat) : Int))), (.int .i64 ((↑(3 : Nat) : Int))), (.int .i64 0), (.int .i64 rw), (.int .i64 st), (.int .i64 ((u hut).fl)), (.int .i64 ((u hut).br)), (.int .i64 ((↑(u hut).row : Int)))], [⟨((3 : Nat)), ((3 : Nat))⟩, ⟨0, c1⟩, ⟨m, cu⟩]⟩, [(tb), (huL m u), [(.int .i64 (IntKind.i64.wrap ((↑(0 : Nat) : Int) - (1 : Int)))), (.int .i64 ((↑(0 : Nat) : Int))), (.int .i64 (if IntKind.i64.wrap ((↑(0 : Nat) : Int) + (IntKind.i64.wrap mo).tmod (9 : Int)) < (40 : Int) then IntKind.i64.wrap ((↑(0 : Nat) : Int) + (IntKind.i64.wrap mo).tmod (9 : Int)) else (40 : Int)))]], []⟩) ∧ (LoopOW Tryd.prog .none p6b (T6bv) ⟨⟨[(.int .i64 hut), (.int .i64 ((↑(0 : Nat) : Int))), (.int .i64 ((↑(3 : Nat) : Int))), (.int .i64 0), (.int .i64 rw), (.int .i64 st), (.int .i64 ((u hut).fl)), (.int .i64 ((u hut).br)), (.int .i64 ((↑(u hut).row : Int)))], [⟨((3 : Nat)), ((3 : Nat))⟩, ⟨0, c1⟩, ⟨m, cu⟩]⟩, [(tb), (huL m u), [(.int .i64 (IntKind.i64.wrap ((↑(0 : Nat) : Int) - (1 : Int)))), (.int .i64 ((↑(0 : Nat) : Int))), (.int .i64 (if IntKind.i64.wrap ((↑(0 : Nat) : Int) + (IntKind.i64.wrap mo).tmod (9 : Int)) < (40 : Int) then IntKind.i64.wrap ((↑(0 : Nat) : Int) + (IntKind.i64.wrap mo).tmod (9 : Int)) else (40 : Int)))]], []⟩ (.exit ((2 : Nat))) (T6bv) ⟨⟨[(.int .i64 hut), (.int .i64 ((↑(0 : Nat) : Int))), (.int .i64 3), (.int .i64 ((↑(3 : Nat) : Int))), (.int .i64 rw), (.int .i64 st), (.int .i64 ((u hut).fl)), (.int .i64 ((u hut).br)), (.int .i64 ((↑(u hut).row : Int)))], [⟨((3 : Nat)), ((3 : Nat))⟩, ⟨0, c1⟩, ⟨m, cu⟩]⟩, [(tb), (huL m u), [(.int .i64 (g2 (0 : Nat))), (.int .i64 (g2 (1 : Nat))), (.int .i64 (g2 (2 : Nat)))]], []⟩) ∧
((ConOK Tryd.prog ((11 : Nat)) (C11t tb)) ∧ (Con.pre (C11t tb) ⟨⟨[], []⟩, [(tb)]⟩) ∧
R (.ret (.bool true))))))))))))))) := by kernel_rfl
theorem f6Iv (rw st : Int) (c1 m cu : Nat) (wh mo : Int) (tb us : List Value) (R : ARes → Prop) : (vx.call 6 [su_v rw st c1 m cu, .int .u8 wh, .int .u8 mo] (retK R) (mLH5 tb us) ([(21, .split ((9, Hint.con (C11t tb)) :: []) ((4, Hint.con (C20v rw st c1 m cu us false)) :: (6, Hint.con (C11t tb)) :: []))])) =
((((decide ((if (↑m : Int) > if (↑(0 : Nat) : Int) > (↑(0 : Nat) : Int) then (↑(0 : Nat) : Int) else (↑(0 : Nat) : Int) then (↑m : Int) else if (↑(0 : Nat) : Int) > (↑(0 : Nat) : Int) then (↑(0 : Nat) : Int) else (↑(0 : Nat) : Int)) > (40 : Int))) = true → ((ConOK Tryd.prog ((11 : Nat)) (C11t tb)) ∧ (Con.pre (C11t tb) ⟨⟨[], []⟩, [(tb)]⟩) ∧
R (.ret (.bool true)))) ∧
((decide ((if (↑m : Int) > if (↑(0 : Nat) : Int) > (↑(0 : Nat) : Int) then (↑(0 : Nat) : Int) else (↑(0 : Nat) : Int) then (↑m : Int) else if (↑(0 : Nat) : Int) > (↑(0 : Nat) : Int) then (↑(0 : Nat) : Int) else (↑(0 : Nat) : Int)) > (40 : Int))) = false → ((ConOK Tryd.prog ((20 : Nat)) (C20v rw st c1 m cu us false)) ∧ (Con.pre (C20v rw st c1 m cu us false) ⟨⟨[(.int .i64 rw), (.int .i64 st)], [⟨0, c1⟩, ⟨m, cu⟩]⟩, [(us)]⟩) ∧
((ConOK Tryd.prog ((11 : Nat)) (C11t tb)) ∧ (Con.pre (C11t tb) ⟨⟨[], []⟩, [(tb)]⟩) ∧
R (.ret (.bool true))))))) := by kernel_rfl
theorem f6Mv (rw st : Int) (c1 cu : Nat) (wh mo : Int) (tb us : List Value) (R : ARes → Prop) : (vx.call 6 [su_v rw st c1 0 cu, .int .u8 wh, .int .u8 mo] (retK R) (mLH5 tb us) ((26, Hint.con (C20v rw st c1 (0 : Nat) cu us true)) :: (10, Hint.con (C11t tb)) :: [])) =
(((ConOK Tryd.prog ((20 : Nat)) (C20v rw st c1 (0 : Nat) cu us true)) ∧ (Con.pre (C20v rw st c1 (0 : Nat) cu us true) ⟨⟨[(.int .i64 rw), (.int .i64 st)], [⟨0, c1⟩, ⟨0, cu⟩]⟩, [(us)]⟩) ∧
((ConOK Tryd.prog ((11 : Nat)) (C11t tb)) ∧ (Con.pre (C11t tb) ⟨⟨[], []⟩, [(tb)]⟩) ∧
R (.ret (.bool true))))) := by kernel_rfl
theorem f23w (rw st : Int) (c1 m cu : Nat) (hut : Nat) (u : Nat → Hut) (R : ARes → Prop) : (vx.call 23 [su_w rw st c1 m cu, I hut] (retK R) (mH (huL m u)) ((25, Hint.con (C20w rw st c1 m cu (huL m u) true)) :: (29, .val (.bool true)) :: (12, .val (.pointer (.some ⟨((4 : Nat)), ((0 : Nat) + hut * (3 : Nat)), .none⟩))) :: (0, .val (.agg ⟨[(.int .i64 ((u hut).fl)), (.int .i64 ((u hut).br)), (.int .i64 ((↑(u hut).row : Int)))]⟩)) :: (1, Hint.again) :: (17, Hint.again) :: (61, .val (.int .i64 (IntKind.i64.wrap ((1 : Int) * (2 : Int) ^ (↑(u hut).row : Int).toNat)))) :: (14, Hint.again) :: (8, .val (.bool false)) :: (9, .val (.bool false)) :: [])) =
(((ConOK Tryd.prog ((79 : Nat)) (C20w rw st c1 m cu (huL m u) true)) ∧ (Con.pre (C20w rw st c1 m cu (huL m u) true) ⟨⟨[(.int .i64 rw), (.int .i64 st)], [⟨0, c1⟩, ⟨m, cu⟩]⟩, [(huL m u)]⟩) ∧
((((some (.bool (decide ((↑hut : Int) ≤ IntKind.i64.wrap ((↑m : Int) - (1 : Int))))) : Option Value) = some (.bool true))) ∧
((((((0 : Int) ≤ (↑hut : Int))) ∧ (((↑hut : Int) < (↑m : Int)))) ∧ (((.pointer (.some ⟨((4 : Nat)), ((0 : Nat) + hut * (3 : Nat)), .none⟩)) : Value) = (.pointer (.some ⟨((4 : Nat)), ((0 : Nat) + hut * (3 : Nat)), .none⟩)))) ∧
(((((0 : Nat) + hut * (3 : Nat) + (3 : Nat) ≤ (huL m u).length)) ∧ (((.agg ⟨[(.int .i64 ((u hut).fl)), (.int .i64 ((u hut).br)), (.int .i64 ((↑(u hut).row : Int)))]⟩) : Value) = (.agg ⟨(List.take ((3 : Nat)) (List.drop ((0 : Nat) + hut * (3 : Nat)) (huL m u)))⟩))) ∧
((((((0 : Nat) + hut * (3 : Nat) + (3 : Nat) ≤ (huL m u).length)) ∧ (((.agg ⟨[(.int .i64 ((u hut).fl)), (.int .i64 ((u hut).br)), (.int .i64 ((↑(u hut).row : Int)))]⟩) : Value) = (.agg ⟨(List.take ((3 : Nat)) (List.drop ((0 : Nat) + hut * (3 : Nat)) (huL m u)))⟩))) ∧ ((((some (.slice (.some ⟨4, 0, .none⟩) (m) (cu)) : Option Value) = some (.slice (.some ⟨4, 0, .none⟩) (m) (cu)))) ∧ (True))) ∧
((((((6 : Nat) ≤ (6 : Nat))) ∧ (((.agg ⟨[(.int .i64 rw), (.int .i64 st), (.slice (.some ⟨2, 0, .none⟩) ((0 : Nat)) (c1)), (.slice .none ((0 : Nat)) ((0 : Nat))), (.slice (.some ⟨4, 0, .none⟩) (m) (cu)), (.map (.some ((14 : Nat))))]⟩) : Value) = (.agg ⟨[(.int .i64 rw), (.int .i64 st), (.slice (.some ⟨2, 0, .none⟩) ((0 : Nat)) (c1)), (.slice .none ((0 : Nat)) ((0 : Nat))), (.slice (.some ⟨4, 0, .none⟩) (m) (cu)), (.map (.some ((14 : Nat))))]⟩))) ∧ (True)) ∧
((((((0 : Int) ≤ (↑(u hut).row : Int))) ∧ (((↑(u hut).row : Int) ≤ (↑(64 : Nat) : Int)))) ∧ (((.int .i64 (IntKind.i64.wrap ((1 : Int) * (2 : Int) ^ (↑(u hut).row : Int).toNat))) : Value) = (.int .i64 (IntKind.i64.wrap ((1 : Int) * (2 : Int) ^ (↑(u hut).row : Int).toNat))))) ∧
(((((some (.int .i64 ((↑(0 : Nat) : Int))) : Option Value) = some (.int .i64 ((↑(0 : Nat) : Int))))) ∧ ((((some (.slice (.some ⟨2, 0, .none⟩) ((0 : Nat)) (c1)) : Option Value) = some (.slice (.some ⟨2, 0, .none⟩) ((0 : Nat)) (c1)))) ∧ (True))) ∧
((((some (.bool (IntKind.i64.wrap ((1 : Int) * (2 : Int) ^ (↑(u hut).row : Int).toNat) == IntKind.i64.wrap ((1 : Int) * (2 : Int) ^ (6 : Nat)))) : Option Value) = some (.bool false))) ∧
((((some (.bool (bits BinOp.and IntKind.i64 (IntKind.i64.wrap ((1 : Int) * (2 : Int) ^ (↑(u hut).row : Int).toNat) / (2 : Int) ^ (6 : Nat)) (1 : Int) == (1 : Int))) : Option Value) = some (.bool false))) ∧
R (.ret (.tuple ⟨[(.int .i64 0), (.int .i64 0)]⟩))))))))))))) := by kernel_rfl
theorem f24w (rw st : Int) (c1 m cu : Nat) (hut : Nat) (u : Nat → Hut) (R : ARes → Prop) : (vx.call 24 [su_w rw st c1 m cu, I hut] (retK R) (mH (huL m u)) ((25, Hint.con (C20w rw st c1 m cu (huL m u) true)) :: (29, .val (.bool true)) :: (12, .val (.pointer (.some ⟨((4 : Nat)), ((0 : Nat) + hut * (3 : Nat)), .none⟩))) :: (0, .val (.agg ⟨[(.int .i64 ((u hut).fl)), (.int .i64 ((u hut).br)), (.int .i64 ((↑(u hut).row : Int)))]⟩)) :: (1, Hint.again) :: (17, Hint.again) :: (66, .val (.int .i64 (IntKind.i64.wrap ((1 : Int) * (2 : Int) ^ (↑(u hut).row : Int).toNat)))) :: (32, Hint.again) :: (16, .val (.int .i64 (IntKind.i64.wrap ((1 : Int) * (2 : Int) ^ (↑(u hut).row : Int).toNat)))) :: [])) =
(((ConOK Tryd.prog ((79 : Nat)) (C20w rw st c1 m cu (huL m u) true)) ∧ (Con.pre (C20w rw st c1 m cu (huL m u) true) ⟨⟨[(.int .i64 rw), (.int .i64 st)], [⟨0, c1⟩, ⟨m, cu⟩]⟩, [(huL m u)]⟩) ∧
((((some (.bool (decide ((↑hut : Int) ≤ IntKind.i64.wrap ((↑m : Int) - (1 : Int))))) : Option Value) = some (.bool true))) ∧
((((((0 : Int) ≤ (↑hut : Int))) ∧ (((↑hut : Int) < (↑m : Int)))) ∧ (((.pointer (.some ⟨((4 : Nat)), ((0 : Nat) + hut * (3 : Nat)), .none⟩)) : Value) = (.pointer (.some ⟨((4 : Nat)), ((0 : Nat) + hut * (3 : Nat)), .none⟩)))) ∧
(((((0 : Nat) + hut * (3 : Nat) + (3 : Nat) ≤ (huL m u).length)) ∧ (((.agg ⟨[(.int .i64 ((u hut).fl)), (.int .i64 ((u hut).br)), (.int .i64 ((↑(u hut).row : Int)))]⟩) : Value) = (.agg ⟨(List.take ((3 : Nat)) (List.drop ((0 : Nat) + hut * (3 : Nat)) (huL m u)))⟩))) ∧
((((((0 : Nat) + hut * (3 : Nat) + (3 : Nat) ≤ (huL m u).length)) ∧ (((.agg ⟨[(.int .i64 ((u hut).fl)), (.int .i64 ((u hut).br)), (.int .i64 ((↑(u hut).row : Int)))]⟩) : Value) = (.agg ⟨(List.take ((3 : Nat)) (List.drop ((0 : Nat) + hut * (3 : Nat)) (huL m u)))⟩))) ∧ ((((some (.slice (.some ⟨4, 0, .none⟩) (m) (cu)) : Option Value) = some (.slice (.some ⟨4, 0, .none⟩) (m) (cu)))) ∧ (True))) ∧
((((((6 : Nat) ≤ (6 : Nat))) ∧ (((.agg ⟨[(.int .i64 rw), (.int .i64 st), (.slice (.some ⟨2, 0, .none⟩) ((0 : Nat)) (c1)), (.slice .none ((0 : Nat)) ((0 : Nat))), (.slice (.some ⟨4, 0, .none⟩) (m) (cu)), (.map (.some ((14 : Nat))))]⟩) : Value) = (.agg ⟨[(.int .i64 rw), (.int .i64 st), (.slice (.some ⟨2, 0, .none⟩) ((0 : Nat)) (c1)), (.slice .none ((0 : Nat)) ((0 : Nat))), (.slice (.some ⟨4, 0, .none⟩) (m) (cu)), (.map (.some ((14 : Nat))))]⟩))) ∧ (True)) ∧
((((((0 : Int) ≤ (↑(u hut).row : Int))) ∧ (((↑(u hut).row : Int) ≤ (↑(64 : Nat) : Int)))) ∧ (((.int .i64 (IntKind.i64.wrap ((1 : Int) * (2 : Int) ^ (↑(u hut).row : Int).toNat))) : Value) = (.int .i64 (IntKind.i64.wrap ((1 : Int) * (2 : Int) ^ (↑(u hut).row : Int).toNat))))) ∧
((((((3 : Nat) ≤ (3 : Nat))) ∧ (((.agg ⟨[(.int .i64 0), (.int .i64 ((u hut).br)), (.int .i64 ((↑(u hut).row : Int)))]⟩) : Value) = (.agg ⟨[(.int .i64 0), (.int .i64 ((u hut).br)), (.int .i64 ((↑(u hut).row : Int)))]⟩))) ∧ (((((6 : Nat) ≤ (6 : Nat))) ∧ (((.agg ⟨[(.int .i64 rw), (.int .i64 st), (.slice (.some ⟨2, 0, .none⟩) ((0 : Nat)) (c1)), (.slice .none ((0 : Nat)) ((0 : Nat))), (.slice (.some ⟨4, 0, .none⟩) (m) (cu)), (.map (.some ((14 : Nat))))]⟩) : Value) = (.agg ⟨[(.int .i64 rw), (.int .i64 st), (.slice (.some ⟨2, 0, .none⟩) ((0 : Nat)) (c1)), (.slice .none ((0 : Nat)) ((0 : Nat))), (.slice (.some ⟨4, 0, .none⟩) (m) (cu)), (.map (.some ((14 : Nat))))]⟩))) ∧ (True))) ∧
((((((0 : Int) ≤ (↑(u hut).row : Int))) ∧ (((↑(u hut).row : Int) ≤ (↑(64 : Nat) : Int)))) ∧ (((.int .i64 (IntKind.i64.wrap ((1 : Int) * (2 : Int) ^ (↑(u hut).row : Int).toNat))) : Value) = (.int .i64 (IntKind.i64.wrap ((1 : Int) * (2 : Int) ^ (↑(u hut).row : Int).toNat))))) ∧
R (.ret (.tuple ⟨[(.int .i64 0), (.int .i64 0)]⟩)))))))))))) := by kernel_rfl
theorem b6anw (rw st : Int) (c1 m cu : Nat) (mo fl br : Int) (hut bk fr row i : Nat) (tb us : List Value) (g : Nat → Int) (R : Nat → AExit → Hw → Prop) : (vx.code none (.l p6a) (leafW [T6aw] R) (T6aw.inst (h6aw rw st c1 m cu hut bk fr mo fl br row tb us g i)) ([(0, .split ((1, .val (.pointer (.some ⟨((9 : Nat)), ((0 : Nat) + i * (1 : Nat)), .none⟩))) :: (0, .val (.int .i64 (g i))) :: (2, .val (.bool true)) :: [(3, .tm 0 [])]) ([(1, .tm 0 [])]))])) =
((((decide ((↑i : Int) < (3 : Int))) = true → ((((((0 : Int) ≤ (↑i : Int))) ∧ (((↑i : Int) < (↑(3 : Nat) : Int)))) ∧ (((.pointer (.some ⟨((9 : Nat)), ((0 : Nat) + i * (1 : Nat)), .none⟩)) : Value) = (.pointer (.some ⟨((9 : Nat)), ((0 : Nat) + i * (1 : Nat)), .none⟩)))) ∧
((([Value.int .i64 (g (0 : Nat)), Value.int .i64 (g (1 : Nat)), Value.int .i64 (g (2 : Nat))][(0 : Nat) + i * (1 : Nat)]? = some (.int .i64 (g i)))) ∧
((((some (.bool (decide (g i < (0 : Int)))) : Option Value) = some (.bool true))) ∧
R 0 .normal ⟨⟨[(.int .u8 (mo)), (.int .i64 hut), (.int .i64 bk), (.int .i64 fr), (.int .i64 3), (.int .i64 (IntKind.i64.wrap ((↑i : Int) + (1 : Int)))), (.int .i64 rw), (.int .i64 st), (.int .i64 fl), (.int .i64 br), (.int .i64 row)], [⟨((3 : Nat)), ((3 : Nat))⟩, ⟨0, c1⟩, ⟨m, cu⟩]⟩, [(tb), (us), [(.int .i64 (g (0 : Nat))), (.int .i64 (g (1 : Nat))), (.int .i64 (g (2 : Nat)))]], []⟩)))) ∧
((decide ((↑i : Int) < (3 : Int))) = false → R 0 (.exit ((0 : Nat))) ⟨⟨[(.int .u8 (mo)), (.int .i64 hut), (.int .i64 bk), (.int .i64 fr), (.int .i64 3), (.int .i64 i), (.int .i64 rw), (.int .i64 st), (.int .i64 fl), (.int .i64 br), (.int .i64 row)], [⟨((3 : Nat)), ((3 : Nat))⟩, ⟨0, c1⟩, ⟨m, cu⟩]⟩, [(tb), (us), [(.int .i64 (g (0 : Nat))), (.int .i64 (g (1 : Nat))), (.int .i64 (g (2 : Nat)))]], []⟩))) := by kernel_rfl
theorem b6bnw (rw st : Int) (c1 m cu : Nat) (fl br : Int) (hut fr row i : Nat) (tb us : List Value) (g : Nat → Int) (R : Nat → AExit → Hw → Prop) : (vx.code none (.l p6b) (leafW [T6bw] R) (T6bw.inst (h6bw rw st c1 m cu hut fr fl br row tb us g i)) ([(0, .split ((1, .val (.pointer (.some ⟨((10 : Nat)), ((0 : Nat) + i * (1 : Nat)), .none⟩))) :: (0, .val (.int .i64 (g i))) :: (2, .val (.bool true)) :: [(3, .tm 0 [])]) ([(1, .tm 0 [])]))])) =
((((decide ((↑i : Int) < (3 : Int))) = true → ((((((0 : Int) ≤ (↑i : Int))) ∧ (((↑i : Int) < (↑(3 : Nat) : Int)))) ∧ (((.pointer (.some ⟨((10 : Nat)), ((0 : Nat) + i * (1 : Nat)), .none⟩)) : Value) = (.pointer (.some ⟨((10 : Nat)), ((0 : Nat) + i * (1 : Nat)), .none⟩)))) ∧
((([Value.int .i64 (g (0 : Nat)), Value.int .i64 (g (1 : Nat)), Value.int .i64 (g (2 : Nat))][(0 : Nat) + i * (1 : Nat)]? = some (.int .i64 (g i)))) ∧
((((some (.bool (decide (g i < (0 : Int)))) : Option Value) = some (.bool true))) ∧
R 0 .normal ⟨⟨[(.int .i64 hut), (.int .i64 fr), (.int .i64 3), (.int .i64 (IntKind.i64.wrap ((↑i : Int) + (1 : Int)))), (.int .i64 rw), (.int .i64 st), (.int .i64 fl), (.int .i64 br), (.int .i64 row)], [⟨((3 : Nat)), ((3 : Nat))⟩, ⟨0, c1⟩, ⟨m, cu⟩]⟩, [(tb), (us), [(.int .i64 (g (0 : Nat))), (.int .i64 (g (1 : Nat))), (.int .i64 (g (2 : Nat)))]], []⟩)))) ∧
((decide ((↑i : Int) < (3 : Int))) = false → R 0 (.exit ((2 : Nat))) ⟨⟨[(.int .i64 hut), (.int .i64 fr), (.int .i64 3), (.int .i64 i), (.int .i64 rw), (.int .i64 st), (.int .i64 fl), (.int .i64 br), (.int .i64 row)], [⟨((3 : Nat)), ((3 : Nat))⟩, ⟨0, c1⟩, ⟨m, cu⟩]⟩, [(tb), (us), [(.int .i64 (g (0 : Nat))), (.int .i64 (g (1 : Nat))), (.int .i64 (g (2 : Nat)))]], []⟩))) := by kernel_rfl
theorem b6aw (rw st : Int) (c1 m cu : Nat) (mo l : Int) (hut bk fr i : Nat) (tb : List Value) (u u2 : Nat → Hut) (g : Nat → Int) (R : Nat → AExit → Hw → Prop) : (vx.code none (.l p6a) (leafW [T6aw] R) (T6aw.inst (h6aw rw st c1 m cu hut bk fr mo (u hut).fl (u hut).br (u hut).row tb (huL m u) g i)) ([(0, .split ((1, .val (.pointer (.some ⟨((9 : Nat)), ((0 : Nat) + i * (1 : Nat)), .none⟩))) :: (0, .val (.int .i64 (g i))) :: (2, .val (.bool false)) :: (22, Hint.growN) :: (10, .val (.pointer (.some ⟨((4 : Nat)), ((0 : Nat) + hut * (3 : Nat)), .none⟩))) :: (1, .val (.int .i64 ((↑(u hut).row : Int)))) :: (1, .val (.pointer (.some ⟨((16 : Nat)), ((0 : Nat) + hut * (3 : Nat)), .none⟩))) :: (0, Hint.put (huL m u2)) :: (4, Hint.con (CSw rw st c1 ((0 : Nat) + m) ((0 : Nat) + m) (huL m u2) (↑hut : Int) (Value.tuple { toList := [I l, I (0 : Int)] }))) :: [(9, .split ([(2, .split ([(5, .tm 0 [])]) ([(4, .tm 0 [])]))]) ([(2, .split ([(4, .tm 0 [])]) ([(5, .tm 0 [])]))]))]) ([(1, .tm 0 [])]))])) =
((((decide ((↑i : Int) < (3 : Int))) = true → ((((((0 : Int) ≤ (↑i : Int))) ∧ (((↑i : Int) < (↑(3 : Nat) : Int)))) ∧ (((.pointer (.some ⟨((9 : Nat)), ((0 : Nat) + i * (1 : Nat)), .none⟩)) : Value) = (.pointer (.some ⟨((9 : Nat)), ((0 : Nat) + i * (1 : Nat)), .none⟩)))) ∧
((([Value.int .i64 (g (0 : Nat)), Value.int .i64 (g (1 : Nat)), Value.int .i64 (g (2 : Nat))][(0 : Nat) + i * (1 : Nat)]? = some (.int .i64 (g i)))) ∧
((((some (.bool (decide (g i < (0 : Int)))) : Option Value) = some (.bool false))) ∧
(((((((0 : Nat) < m)) ∧ (((0 : Nat) + m * (3 : Nat) ≤ (huL m u).length))) ∧ (((List.take (m * (3 : Nat)) (List.drop (0 : Nat) (huL m u))).all one = true))) ∧ (((¬(0 : Nat) + m ≤ (0 : Nat))) ∧ ((((0 : Nat) = (0 : Nat))) ∧ (((((0 : Nat) + m) * (24 : Nat) ≤ (140737488355328 : Nat))) ∧ (((0 : Nat) + m ≤ (4611686018427387904 : Nat))))))) ∧
((((((0 : Int) ≤ (↑hut : Int))) ∧ (((↑hut : Int) < (↑m : Int)))) ∧ (((.pointer (.some ⟨((4 : Nat)), ((0 : Nat) + hut * (3 : Nat)), .none⟩)) : Value) = (.pointer (.some ⟨((4 : Nat)), ((0 : Nat) + hut * (3 : Nat)), .none⟩)))) ∧
((((huL m u)[(0 : Nat) + hut * (3 : Nat) + (2 : Nat)]? = some (.int .i64 ((↑(u hut).row : Int))))) ∧
((((((0 : Int) ≤ (↑hut : Int))) ∧ (((↑hut : Int) < (↑((0 : Nat) + m) : Int)))) ∧ (((.pointer (.some ⟨((16 : Nat)), ((0 : Nat) + hut * (3 : Nat)), .none⟩)) : Value) = (.pointer (.some ⟨((16 : Nat)), ((0 : Nat) + hut * (3 : Nat)), .none⟩)))) ∧
(((((0 : Nat) + hut * (3 : Nat) + (3 : Nat) ≤ (List.take (0 : Nat) [] ++ List.take (m * (3 : Nat)) (List.drop (0 : Nat) (huL m u))).length)) ∧ ((List.take ((0 : Nat) + hut * (3 : Nat)) (List.take (0 : Nat) [] ++ List.take (m * (3 : Nat)) (List.drop (0 : Nat) (huL m u))) ++ [Value.int .i64 (u hut).fl, Value.int .i64 (g i), Value.int .i64 (↑(u hut).row : Int)] ++ List.drop ((0 : Nat) + hut * (3 : Nat) + (3 : Nat)) (List.take (0 : Nat) [] ++ List.take (m * (3 : Nat)) (List.drop (0 : Nat) (huL m u))) = huL m u2))) ∧
((ConOK Tryd.prog ((15 : Nat)) (CSw rw st c1 ((0 : Nat) + m) ((0 : Nat) + m) (huL m u2) (↑hut : Int) (Value.tuple { toList := [I l, I (0 : Int)] }))) ∧ (Con.pre (CSw rw st c1 ((0 : Nat) + m) ((0 : Nat) + m) (huL m u2) (↑hut : Int) (Value.tuple { toList := [I l, I (0 : Int)] })) ⟨⟨[(.int .i64 rw), (.int .i64 st), (.int .i64 hut)], [⟨0, c1⟩, ⟨((0 : Nat) + m), ((0 : Nat) + m)⟩]⟩, [(huL m u2)]⟩) ∧
(((l == (0 : Int)) = true → (((decide (g i ≥ (↑bk : Int))) = true → R 0 .normal ⟨⟨[(.int .u8 (mo)), (.int .i64 hut), (.int .i64 bk), (.int .i64 fr), (.int .i64 3), (.int .i64 (IntKind.i64.wrap ((↑i : Int) + (1 : Int)))), (.int .i64 rw), (.int .i64 st), (.int .i64 ((u hut).fl)), (.int .i64 ((u hut).br)), (.int .i64 ((↑(u hut).row : Int)))], [⟨((3 : Nat)), ((3 : Nat))⟩, ⟨0, c1⟩, ⟨m, cu⟩]⟩, [(tb), (huL m u), [(.int .i64 (g (0 : Nat))), (.int .i64 (g (1 : Nat))), (.int .i64 (g (2 : Nat)))]], []⟩) ∧
((decide (g i ≥ (↑bk : Int))) = false → R 0 .ret ⟨⟨[(.int .u8 (mo)), (.int .i64 hut), (.int .i64 bk), (.int .i64 fr), (.int .i64 3), (.int .i64 i), (.int .i64 rw), (.int .i64 st), (.int .i64 ((u hut).fl)), (.int .i64 ((u hut).br)), (.int .i64 ((↑(u hut).row : Int)))], [⟨((3 : Nat)), ((3 : Nat))⟩, ⟨0, c1⟩, ⟨m, cu⟩]⟩, [(tb), (huL m u), [(.int .i64 (g (0 : Nat))), (.int .i64 (g (1 : Nat))), (.int .i64 (g (2 : Nat)))]], []⟩))) ∧
((l == (0 : Int)) = false → (((decide (g i ≥ (↑bk : Int))) = true → R 0 .ret ⟨⟨[(.int .u8 (mo)), (.int .i64 hut), (.int .i64 bk), (.int .i64 fr), (.int .i64 3), (.int .i64 i), (.int .i64 rw), (.int .i64 st), (.int .i64 ((u hut).fl)), (.int .i64 ((u hut).br)), (.int .i64 ((↑(u hut).row : Int)))], [⟨((3 : Nat)), ((3 : Nat))⟩, ⟨0, c1⟩, ⟨m, cu⟩]⟩, [(tb), (huL m u), [(.int .i64 (g (0 : Nat))), (.int .i64 (g (1 : Nat))), (.int .i64 (g (2 : Nat)))]], []⟩) ∧
((decide (g i ≥ (↑bk : Int))) = false → R 0 .normal ⟨⟨[(.int .u8 (mo)), (.int .i64 hut), (.int .i64 bk), (.int .i64 fr), (.int .i64 3), (.int .i64 (IntKind.i64.wrap ((↑i : Int) + (1 : Int)))), (.int .i64 rw), (.int .i64 st), (.int .i64 ((u hut).fl)), (.int .i64 ((u hut).br)), (.int .i64 ((↑(u hut).row : Int)))], [⟨((3 : Nat)), ((3 : Nat))⟩, ⟨0, c1⟩, ⟨m, cu⟩]⟩, [(tb), (huL m u), [(.int .i64 (g (0 : Nat))), (.int .i64 (g (1 : Nat))), (.int .i64 (g (2 : Nat)))]], []⟩)))))))))))))) ∧
((decide ((↑i : Int) < (3 : Int))) = false → R 0 (.exit ((0 : Nat))) ⟨⟨[(.int .u8 (mo)), (.int .i64 hut), (.int .i64 bk), (.int .i64 fr), (.int .i64 3), (.int .i64 i), (.int .i64 rw), (.int .i64 st), (.int .i64 ((u hut).fl)), (.int .i64 ((u hut).br)), (.int .i64 ((↑(u hut).row : Int)))], [⟨((3 : Nat)), ((3 : Nat))⟩, ⟨0, c1⟩, ⟨m, cu⟩]⟩, [(tb), (huL m u), [(.int .i64 (g (0 : Nat))), (.int .i64 (g (1 : Nat))), (.int .i64 (g (2 : Nat)))]], []⟩))) := by kernel_rfl
theorem b6bw (rw st : Int) (c1 m cu : Nat) (x y : Int) (hut fr i : Nat) (tb : List Value) (u u2 : Nat → Hut) (g : Nat → Int) (R : Nat → AExit → Hw → Prop) : (vx.code none (.l p6b) (leafW [T6bw] R) (T6bw.inst (h6bw rw st c1 m cu hut fr (u hut).fl (u hut).br (u hut).row tb (huL m u) g i)) ([(0, .split ((1, .val (.pointer (.some ⟨((10 : Nat)), ((0 : Nat) + i * (1 : Nat)), .none⟩))) :: (0, .val (.int .i64 (g i))) :: (2, .val (.bool false)) :: (22, Hint.growN) :: (10, .val (.pointer (.some ⟨((4 : Nat)), ((0 : Nat) + hut * (3 : Nat)), .none⟩))) :: (1, .val (.int .i64 ((↑(u hut).row : Int)))) :: (1, .val (.pointer (.some ⟨((17 : Nat)), ((0 : Nat) + hut * (3 : Nat)), .none⟩))) :: (0, Hint.put (huL m u2)) :: (4, Hint.con (CSw rw st c1 ((0 : Nat) + m) ((0 : Nat) + m) (huL m u2) (↑hut : Int) (Value.tuple { toList := [I x, I y, I (0 : Int)] }))) :: [(11, .split ([(2, .split ([(5, .tm 0 [])]) ([(4, .tm 0 [])]))]) ([(2, .split ([(4, .tm 0 [])]) ([(5, .tm 0 [])]))]))]) ([(1, .tm 0 [])]))])) =
((((decide ((↑i : Int) < (3 : Int))) = true → ((((((0 : Int) ≤ (↑i : Int))) ∧ (((↑i : Int) < (↑(3 : Nat) : Int)))) ∧ (((.pointer (.some ⟨((10 : Nat)), ((0 : Nat) + i * (1 : Nat)), .none⟩)) : Value) = (.pointer (.some ⟨((10 : Nat)), ((0 : Nat) + i * (1 : Nat)), .none⟩)))) ∧
((([Value.int .i64 (g (0 : Nat)), Value.int .i64 (g (1 : Nat)), Value.int .i64 (g (2 : Nat))][(0 : Nat) + i * (1 : Nat)]? = some (.int .i64 (g i)))) ∧
((((some (.bool (decide (g i < (0 : Int)))) : Option Value) = some (.bool false))) ∧
(((((((0 : Nat) < m)) ∧ (((0 : Nat) + m * (3 : Nat) ≤ (huL m u).length))) ∧ (((List.take (m * (3 : Nat)) (List.drop (0 : Nat) (huL m u))).all one = true))) ∧ (((¬(0 : Nat) + m ≤ (0 : Nat))) ∧ ((((0 : Nat) = (0 : Nat))) ∧ (((((0 : Nat) + m) * (24 : Nat) ≤ (140737488355328 : Nat))) ∧ (((0 : Nat) + m ≤ (4611686018427387904 : Nat))))))) ∧
((((((0 : Int) ≤ (↑hut : Int))) ∧ (((↑hut : Int) < (↑m : Int)))) ∧ (((.pointer (.some ⟨((4 : Nat)), ((0 : Nat) + hut * (3 : Nat)), .none⟩)) : Value) = (.pointer (.some ⟨((4 : Nat)), ((0 : Nat) + hut * (3 : Nat)), .none⟩)))) ∧
((((huL m u)[(0 : Nat) + hut * (3 : Nat) + (2 : Nat)]? = some (.int .i64 ((↑(u hut).row : Int))))) ∧
((((((0 : Int) ≤ (↑hut : Int))) ∧ (((↑hut : Int) < (↑((0 : Nat) + m) : Int)))) ∧ (((.pointer (.some ⟨((17 : Nat)), ((0 : Nat) + hut * (3 : Nat)), .none⟩)) : Value) = (.pointer (.some ⟨((17 : Nat)), ((0 : Nat) + hut * (3 : Nat)), .none⟩)))) ∧
(((((0 : Nat) + hut * (3 : Nat) + (3 : Nat) ≤ (List.take (0 : Nat) [] ++ List.take (m * (3 : Nat)) (List.drop (0 : Nat) (huL m u))).length)) ∧ ((List.take ((0 : Nat) + hut * (3 : Nat)) (List.take (0 : Nat) [] ++ List.take (m * (3 : Nat)) (List.drop (0 : Nat) (huL m u))) ++ [Value.int .i64 (g i), Value.int .i64 (u hut).br, Value.int .i64 (↑(u hut).row : Int)] ++ List.drop ((0 : Nat) + hut * (3 : Nat) + (3 : Nat)) (List.take (0 : Nat) [] ++ List.take (m * (3 : Nat)) (List.drop (0 : Nat) (huL m u))) = huL m u2))) ∧
((ConOK Tryd.prog ((14 : Nat)) (CSw rw st c1 ((0 : Nat) + m) ((0 : Nat) + m) (huL m u2) (↑hut : Int) (Value.tuple { toList := [I x, I y, I (0 : Int)] }))) ∧ (Con.pre (CSw rw st c1 ((0 : Nat) + m) ((0 : Nat) + m) (huL m u2) (↑hut : Int) (Value.tuple { toList := [I x, I y, I (0 : Int)] })) ⟨⟨[(.int .i64 rw), (.int .i64 st), (.int .i64 hut)], [⟨0, c1⟩, ⟨((0 : Nat) + m), ((0 : Nat) + m)⟩]⟩, [(huL m u2)]⟩) ∧
(((y == (0 : Int)) = true → (((decide (g i ≥ (↑fr : Int))) = true → R 0 .normal ⟨⟨[(.int .i64 hut), (.int .i64 fr), (.int .i64 3), (.int .i64 (IntKind.i64.wrap ((↑i : Int) + (1 : Int)))), (.int .i64 rw), (.int .i64 st), (.int .i64 ((u hut).fl)), (.int .i64 ((u hut).br)), (.int .i64 ((↑(u hut).row : Int)))], [⟨((3 : Nat)), ((3 : Nat))⟩, ⟨0, c1⟩, ⟨m, cu⟩]⟩, [(tb), (huL m u), [(.int .i64 (g (0 : Nat))), (.int .i64 (g (1 : Nat))), (.int .i64 (g (2 : Nat)))]], []⟩) ∧
((decide (g i ≥ (↑fr : Int))) = false → R 0 .ret ⟨⟨[(.int .i64 hut), (.int .i64 fr), (.int .i64 3), (.int .i64 i), (.int .i64 rw), (.int .i64 st), (.int .i64 ((u hut).fl)), (.int .i64 ((u hut).br)), (.int .i64 ((↑(u hut).row : Int)))], [⟨((3 : Nat)), ((3 : Nat))⟩, ⟨0, c1⟩, ⟨m, cu⟩]⟩, [(tb), (huL m u), [(.int .i64 (g (0 : Nat))), (.int .i64 (g (1 : Nat))), (.int .i64 (g (2 : Nat)))]], []⟩))) ∧
((y == (0 : Int)) = false → (((decide (g i ≥ (↑fr : Int))) = true → R 0 .ret ⟨⟨[(.int .i64 hut), (.int .i64 fr), (.int .i64 3), (.int .i64 i), (.int .i64 rw), (.int .i64 st), (.int .i64 ((u hut).fl)), (.int .i64 ((u hut).br)), (.int .i64 ((↑(u hut).row : Int)))], [⟨((3 : Nat)), ((3 : Nat))⟩, ⟨0, c1⟩, ⟨m, cu⟩]⟩, [(tb), (huL m u), [(.int .i64 (g (0 : Nat))), (.int .i64 (g (1 : Nat))), (.int .i64 (g (2 : Nat)))]], []⟩) ∧
((decide (g i ≥ (↑fr : Int))) = false → R 0 .normal ⟨⟨[(.int .i64 hut), (.int .i64 fr), (.int .i64 3), (.int .i64 (IntKind.i64.wrap ((↑i : Int) + (1 : Int)))), (.int .i64 rw), (.int .i64 st), (.int .i64 ((u hut).fl)), (.int .i64 ((u hut).br)), (.int .i64 ((↑(u hut).row : Int)))], [⟨((3 : Nat)), ((3 : Nat))⟩, ⟨0, c1⟩, ⟨m, cu⟩]⟩, [(tb), (huL m u), [(.int .i64 (g (0 : Nat))), (.int .i64 (g (1 : Nat))), (.int .i64 (g (2 : Nat)))]], []⟩)))))))))))))) ∧
((decide ((↑i : Int) < (3 : Int))) = false → R 0 (.exit ((2 : Nat))) ⟨⟨[(.int .i64 hut), (.int .i64 fr), (.int .i64 3), (.int .i64 i), (.int .i64 rw), (.int .i64 st), (.int .i64 ((u hut).fl)), (.int .i64 ((u hut).br)), (.int .i64 ((↑(u hut).row : Int)))], [⟨((3 : Nat)), ((3 : Nat))⟩, ⟨0, c1⟩, ⟨m, cu⟩]⟩, [(tb), (huL m u), [(.int .i64 (g (0 : Nat))), (.int .i64 (g (1 : Nat))), (.int .i64 (g (2 : Nat)))]], []⟩))) := by kernel_rfl
theorem f6Dw (rw st : Int) (c1 m cu : Nat) (hut : Nat) (wh mo : Int) (tb : List Value) (u : Nat → Hut) (g g2 : Nat → Int) (R : ARes → Prop) : (vx.call 6 [su_w rw st c1 m cu, .int .u8 wh, .int .u8 mo] (retK R) (mLH5 tb (huL m u)) ([(21, .split ((9, Hint.con (C11t tb)) :: []) ((4, Hint.con (C20w rw st c1 m cu (huL m u) true)) :: (7, .val (.bool false)) :: (7, .val (.int .i64 hut)) :: (4, .val (.pointer (.some ⟨((4 : Nat)), ((0 : Nat) + hut * (3 : Nat)), .none⟩))) :: (0, .val (.agg ⟨[(.int .i64 ((u hut).fl)), (.int .i64 ((u hut).br)), (.int .i64 ((↑(u hut).row : Int)))]⟩)) :: (4, Hint.con (CSw rw st c1 m cu (huL m u) (↑hut : Int) (Value.tuple { toList := [I (0 : Int), I (0 : Int)] }))) :: (7, Hint.con (CSw rw st c1 m cu (huL m u) (↑hut : Int) (Value.tuple { toList := [I (0 : Int), I (0 : Int)] }))) :: (40, Hint.loopW T6aw (AExit.exit (0 : Nat)) T6aw fun x => h6aw rw st c1 m cu hut (0 : Nat) (0 : Nat) mo (u hut).fl (u hut).br (u hut).row tb (huL m u) g (3 : Nat)) :: (12, Hint.loopW T6bw (AExit.exit (2 : Nat)) T6bw fun x => h6bw rw st c1 m cu hut (0 : Nat) (u hut).fl (u hut).br (u hut).row tb (huL m u) g2 (3 : Nat)) :: (0, Hint.con (C11t tb)) :: []))])) =
((((decide ((if (↑m : Int) > if (↑(0 : Nat) : Int) > (↑(0 : Nat) : Int) then (↑(0 : Nat) : Int) else (↑(0 : Nat) : Int) then (↑m : Int) else if (↑(0 : Nat) : Int) > (↑(0 : Nat) : Int) then (↑(0 : Nat) : Int) else (↑(0 : Nat) : Int)) > (40 : Int))) = true → ((ConOK Tryd.prog ((11 : Nat)) (C11t tb)) ∧ (Con.pre (C11t tb) ⟨⟨[], []⟩, [(tb)]⟩) ∧
R (.ret (.bool true)))) ∧
((decide ((if (↑m : Int) > if (↑(0 : Nat) : Int) > (↑(0 : Nat) : Int) then (↑(0 : Nat) : Int) else (↑(0 : Nat) : Int) then (↑m : Int) else if (↑(0 : Nat) : Int) > (↑(0 : Nat) : Int) then (↑(0 : Nat) : Int) else (↑(0 : Nat) : Int)) > (40 : Int))) = false → ((ConOK Tryd.prog ((20 : Nat)) (C20w rw st c1 m cu (huL m u) true)) ∧ (Con.pre (C20w rw st c1 m cu (huL m u) true) ⟨⟨[(.int .i64 rw), (.int .i64 st)], [⟨0, c1⟩, ⟨m, cu⟩]⟩, [(huL m u)]⟩) ∧
((((some (.bool ((↑m : Int) == (0 : Int))) : Option Value) = some (.bool false))) ∧
((((((↑m : Int) ≠ (0 : Int))) ∧ ((IntKind.i64 = IntKind.i64))) ∧ (((.int .i64 hut) : Value) = (.int .i64 ((IntKind.i64.wrap wh).tmod (↑m : Int))))) ∧
((((((0 : Int) ≤ (↑hut : Int))) ∧ (((↑hut : Int) < (↑m : Int)))) ∧ (((.pointer (.some ⟨((4 : Nat)), ((0 : Nat) + hut * (3 : Nat)), .none⟩)) : Value) = (.pointer (.some ⟨((4 : Nat)), ((0 : Nat) + hut * (3 : Nat)), .none⟩)))) ∧
(((((0 : Nat) + hut * (3 : Nat) + (3 : Nat) ≤ (huL m u).length)) ∧ (((.agg ⟨[(.int .i64 ((u hut).fl)), (.int .i64 ((u hut).br)), (.int .i64 ((↑(u hut).row : Int)))]⟩) : Value) = (.agg ⟨(List.take ((3 : Nat)) (List.drop ((0 : Nat) + hut * (3 : Nat)) (huL m u)))⟩))) ∧
((ConOK Tryd.prog ((23 : Nat)) (CSw rw st c1 m cu (huL m u) (↑hut : Int) (Value.tuple { toList := [I (0 : Int), I (0 : Int)] }))) ∧ (Con.pre (CSw rw st c1 m cu (huL m u) (↑hut : Int) (Value.tuple { toList := [I (0 : Int), I (0 : Int)] })) ⟨⟨[(.int .i64 rw), (.int .i64 st), (.int .i64 hut)], [⟨0, c1⟩, ⟨m, cu⟩]⟩, [(huL m u)]⟩) ∧
((ConOK Tryd.prog ((24 : Nat)) (CSw rw st c1 m cu (huL m u) (↑hut : Int) (Value.tuple { toList := [I (0 : Int), I (0 : Int)] }))) ∧ (Con.pre (CSw rw st c1 m cu (huL m u) (↑hut : Int) (Value.tuple { toList := [I (0 : Int), I (0 : Int)] })) ⟨⟨[(.int .i64 rw), (.int .i64 st), (.int .i64 hut)], [⟨0, c1⟩, ⟨m, cu⟩]⟩, [(huL m u)]⟩) ∧
((ClW ⟨⟨[(.int .u8 (mo)), (.int .i64 hut), (.int .i64 0), (.int .i64 0), (.int .i64 ((↑(3 : Nat) : Int))), (.int .i64 0), (.int .i64 rw), (.int .i64 st), (.int .i64 ((u hut).fl)), (.int .i64 ((u hut).br)), (.int .i64 ((↑(u hut).row : Int)))], [⟨((3 : Nat)), ((3 : Nat))⟩, ⟨0, c1⟩, ⟨m, cu⟩]⟩, [(tb), (huL m u), [(.int .i64 (IntKind.i64.wrap ((0 : Int) - (1 : Int)))), (.int .i64 0), (.int .i64 (if IntKind.i64.wrap ((0 : Int) + (IntKind.i64.wrap mo).tmod (4 : Int)) < (10 : Int) then IntKind.i64.wrap ((0 : Int) + (IntKind.i64.wrap mo).tmod (4 : Int)) else (10 : Int)))]], []⟩) ∧ (LoopOW Tryd.prog .none p6a (T6aw) ⟨⟨[(.int .u8 (mo)), (.int .i64 hut), (.int .i64 0), (.int .i64 0), (.int .i64 ((↑(3 : Nat) : Int))), (.int .i64 0), (.int .i64 rw), (.int .i64 st), (.int .i64 ((u hut).fl)), (.int .i64 ((u hut).br)), (.int .i64 ((↑(u hut).row : Int)))], [⟨((3 : Nat)), ((3 : Nat))⟩, ⟨0, c1⟩, ⟨m, cu⟩]⟩, [(tb), (huL m u), [(.int .i64 (IntKind.i64.wrap ((0 : Int) - (1 : Int)))), (.int .i64 0), (.int .i64 (if IntKind.i64.wrap ((0 : Int) + (IntKind.i64.wrap mo).tmod (4 : Int)) < (10 : Int) then IntKind.i64.wrap ((0 : Int) + (IntKind.i64.wrap mo).tmod (4 : Int)) else (10 : Int)))]], []⟩ (.exit ((0 : Nat))) (T6aw) ⟨⟨[(.int .u8 (mo)), (.int .i64 hut), (.int .i64 ((↑(0 : Nat) : Int))), (.int .i64 ((↑(0 : Nat) : Int))), (.int .i64 3), (.int .i64 ((↑(3 : Nat) : Int))), (.int .i64 rw), (.int .i64 st), (.int .i64 ((u hut).fl)), (.int .i64 ((u hut).br)), (.int .i64 ((↑(u hut).row : Int)))], [⟨((3 : Nat)), ((3 : Nat))⟩, ⟨0, c1⟩, ⟨m, cu⟩]⟩, [(tb), (huL m u), [(.int .i64 (g (0 : Nat))), (.int .i64 (g (1 : Nat))), (.int .i64 (g (2 : Nat)))]], []⟩) ∧
((ClW ⟨⟨[(.int .i64 hut), (.int .i64 ((↑(0 : Nat) : Int))), (.int .i64 ((↑(3 : Nat) : Int))), (.int .i64 0), (.int .i64 rw), (.int .i64 st), (.int .i64 ((u hut).fl)), (.int .i64 ((u hut).br)), (.int .i64 ((↑(u hut).row : Int)))], [⟨((3 : Nat)), ((3 : Nat))⟩, ⟨0, c1⟩, ⟨m, cu⟩]⟩, [(tb), (huL m u), [(.int .i64 (IntKind.i64.wrap ((↑(0 : Nat) : Int) - (1 : Int)))), (.int .i64 ((↑(0 : Nat) : Int))), (.int .i64 (if IntKind.i64.wrap ((↑(0 : Nat) : Int) + (IntKind.i64.wrap mo).tmod (9 : Int)) < (40 : Int) then IntKind.i64.wrap ((↑(0 : Nat) : Int) + (IntKind.i64.wrap mo).tmod (9 : Int)) else (40 : Int)))]], []⟩) ∧ (LoopOW Tryd.prog .none p6b (T6bw) ⟨⟨[(.int .i64 hut), (.int .i64 ((↑(0 : Nat) : Int))), (.int .i64 ((↑(3 : Nat) : Int))), (.int .i64 0), (.int .i64 rw), (.int .i64 st), (.int .i64 ((u hut).fl)), (.int .i64 ((u hut).br)), (.int .i64 ((↑(u hut).row : Int)))], [⟨((3 : Nat)), ((3 : Nat))⟩, ⟨0, c1⟩, ⟨m, cu⟩]⟩, [(tb), (huL m u), [(.int .i64 (IntKind.i64.wrap ((↑(0 : Nat) : Int) - (1 : Int)))), (.int .i64 ((↑(0 : Nat) : Int))), (.int .i64 (if IntKind.i64.wrap ((↑(0 : Nat) : Int) + (IntKind.i64.wrap mo).tmod (9 : Int)) < (40 : Int) then IntKind.i64.wrap ((↑(0 : Nat) : Int) + (IntKind.i64.wrap mo).tmod (9 : Int)) else (40 : Int)))]], []⟩ (.exit ((2 : Nat))) (T6bw) ⟨⟨[(.int .i64 hut), (.int .i64 ((↑(0 : Nat) : Int))), (.int .i64 3), (.int .i64 ((↑(3 : Nat) : Int))), (.int .i64 rw), (.int .i64 st), (.int .i64 ((u hut).fl)), (.int .i64 ((u hut).br)), (.int .i64 ((↑(u hut).row : Int)))], [⟨((3 : Nat)), ((3 : Nat))⟩, ⟨0, c1⟩, ⟨m, cu⟩]⟩, [(tb), (huL m u), [(.int .i64 (g2 (0 : Nat))), (.int .i64 (g2 (1 : Nat))), (.int .i64 (g2 (2 : Nat)))]], []⟩) ∧
((ConOK Tryd.prog ((11 : Nat)) (C11t tb)) ∧ (Con.pre (C11t tb) ⟨⟨[], []⟩, [(tb)]⟩) ∧
R (.ret (.bool true))))))))))))))) := by kernel_rfl
theorem f6Iw (rw st : Int) (c1 m cu : Nat) (wh mo : Int) (tb us : List Value) (R : ARes → Prop) : (vx.call 6 [su_w rw st c1 m cu, .int .u8 wh, .int .u8 mo] (retK R) (mLH5 tb us) ([(21, .split ((9, Hint.con (C11t tb)) :: []) ((4, Hint.con (C20w rw st c1 m cu us false)) :: (6, Hint.con (C11t tb)) :: []))])) =
((((decide ((if (↑m : Int) > if (↑(0 : Nat) : Int) > (↑(0 : Nat) : Int) then (↑(0 : Nat) : Int) else (↑(0 : Nat) : Int) then (↑m : Int) else if (↑(0 : Nat) : Int) > (↑(0 : Nat) : Int) then (↑(0 : Nat) : Int) else (↑(0 : Nat) : Int)) > (40 : Int))) = true → ((ConOK Tryd.prog ((11 : Nat)) (C11t tb)) ∧ (Con.pre (C11t tb) ⟨⟨[], []⟩, [(tb)]⟩) ∧
R (.ret (.bool true)))) ∧
((decide ((if (↑m : Int) > if (↑(0 : Nat) : Int) > (↑(0 : Nat) : Int) then (↑(0 : Nat) : Int) else (↑(0 : Nat) : Int) then (↑m : Int) else if (↑(0 : Nat) : Int) > (↑(0 : Nat) : Int) then (↑(0 : Nat) : Int) else (↑(0 : Nat) : Int)) > (40 : Int))) = false → ((ConOK Tryd.prog ((20 : Nat)) (C20w rw st c1 m cu us false)) ∧ (Con.pre (C20w rw st c1 m cu us false) ⟨⟨[(.int .i64 rw), (.int .i64 st)], [⟨0, c1⟩, ⟨m, cu⟩]⟩, [(us)]⟩) ∧
((ConOK Tryd.prog ((11 : Nat)) (C11t tb)) ∧ (Con.pre (C11t tb) ⟨⟨[], []⟩, [(tb)]⟩) ∧
R (.ret (.bool true))))))) := by kernel_rfl
theorem f6Mw (rw st : Int) (c1 cu : Nat) (wh mo : Int) (tb us : List Value) (R : ARes → Prop) : (vx.call 6 [su_w rw st c1 0 cu, .int .u8 wh, .int .u8 mo] (retK R) (mLH5 tb us) ((26, Hint.con (C20w rw st c1 (0 : Nat) cu us true)) :: (10, Hint.con (C11t tb)) :: [])) =
(((ConOK Tryd.prog ((20 : Nat)) (C20w rw st c1 (0 : Nat) cu us true)) ∧ (Con.pre (C20w rw st c1 (0 : Nat) cu us true) ⟨⟨[(.int .i64 rw), (.int .i64 st)], [⟨0, c1⟩, ⟨0, cu⟩]⟩, [(us)]⟩) ∧
((ConOK Tryd.prog ((11 : Nat)) (C11t tb)) ∧ (Con.pre (C11t tb) ⟨⟨[], []⟩, [(tb)]⟩) ∧
R (.ret (.bool true))))) := by kernel_rfl
theorem f6Ip (rw st : Int) (n cw n2 cv m cu : Nat) (wh mo : Int) (tb ws vs us : List Value) (R : ARes → Prop) : (vx.call 6 [suR rw st n cw n2 cv m cu, .int .u8 wh, .int .u8 mo] (retK R) (mSu tb ws vs us) ([(21, .split ((9, Hint.con (C11t tb)) :: []) ((4, Hint.con (C20 rw st n cw n2 cv m cu ws vs us false)) :: (6, Hint.con (C11t tb)) :: []))])) =
((((decide ((if (↑m : Int) > if (↑n2 : Int) > (↑n : Int) then (↑n2 : Int) else (↑n : Int) then (↑m : Int) else if (↑n2 : Int) > (↑n : Int) then (↑n2 : Int) else (↑n : Int)) > (40 : Int))) = true → ((ConOK Tryd.prog ((11 : Nat)) (C11t tb)) ∧ (Con.pre (C11t tb) ⟨⟨[], []⟩, [(tb)]⟩) ∧
R (.ret (.bool true)))) ∧
((decide ((if (↑m : Int) > if (↑n2 : Int) > (↑n : Int) then (↑n2 : Int) else (↑n : Int) then (↑m : Int) else if (↑n2 : Int) > (↑n : Int) then (↑n2 : Int) else (↑n : Int)) > (40 : Int))) = false → ((ConOK Tryd.prog ((20 : Nat)) (C20 rw st n cw n2 cv m cu ws vs us false)) ∧ (Con.pre (C20 rw st n cw n2 cv m cu ws vs us false) ⟨⟨[(.int .i64 rw), (.int .i64 st)], [⟨n, cw⟩, ⟨n2, cv⟩, ⟨m, cu⟩]⟩, [(ws), (vs), (us)]⟩) ∧
((ConOK Tryd.prog ((11 : Nat)) (C11t tb)) ∧ (Con.pre (C11t tb) ⟨⟨[], []⟩, [(tb)]⟩) ∧
R (.ret (.bool true))))))) := by kernel_rfl
theorem f6Mp (rw st : Int) (n cw n2 cv cu : Nat) (wh mo : Int) (tb ws vs us : List Value) (R : ARes → Prop) : (vx.call 6 [suR rw st n cw n2 cv 0 cu, .int .u8 wh, .int .u8 mo] (retK R) (mSu tb ws vs us) ([(21, .split ((9, Hint.con (C11t tb)) :: []) ((4, Hint.con (C20 rw st n cw n2 cv (0 : Nat) cu ws vs us true)) :: (10, Hint.con (C11t tb)) :: []))])) =
((((decide ((if (↑(0 : Nat) : Int) > if (↑n2 : Int) > (↑n : Int) then (↑n2 : Int) else (↑n : Int) then (↑(0 : Nat) : Int) else if (↑n2 : Int) > (↑n : Int) then (↑n2 : Int) else (↑n : Int)) > (40 : Int))) = true → ((ConOK Tryd.prog ((11 : Nat)) (C11t tb)) ∧ (Con.pre (C11t tb) ⟨⟨[], []⟩, [(tb)]⟩) ∧
R (.ret (.bool true)))) ∧
((decide ((if (↑(0 : Nat) : Int) > if (↑n2 : Int) > (↑n : Int) then (↑n2 : Int) else (↑n : Int) then (↑(0 : Nat) : Int) else if (↑n2 : Int) > (↑n : Int) then (↑n2 : Int) else (↑n : Int)) > (40 : Int))) = false → ((ConOK Tryd.prog ((20 : Nat)) (C20 rw st n cw n2 cv (0 : Nat) cu ws vs us true)) ∧ (Con.pre (C20 rw st n cw n2 cv (0 : Nat) cu ws vs us true) ⟨⟨[(.int .i64 rw), (.int .i64 st)], [⟨n, cw⟩, ⟨n2, cv⟩, ⟨0, cu⟩]⟩, [(ws), (vs), (us)]⟩) ∧
((ConOK Tryd.prog ((11 : Nat)) (C11t tb)) ∧ (Con.pre (C11t tb) ⟨⟨[], []⟩, [(tb)]⟩) ∧
R (.ret (.bool true))))))) := by kernel_rfl
theorem f6IN (rw st : Int) (n cw n2 cv : Nat) (wh mo : Int) (tb ws vs : List Value) (R : ARes → Prop) : (vx.call 6 [suN rw st n cw n2 cv, .int .u8 wh, .int .u8 mo] (retK R) (mLN5 tb ws vs) ([(21, .split ((9, Hint.con (C11t tb)) :: []) ((4, Hint.con (C20N rw st n cw n2 cv ws vs false)) :: (6, Hint.con (C11t tb)) :: []))])) =
((((decide ((if (↑(0 : Nat) : Int) > if (↑n2 : Int) > (↑n : Int) then (↑n2 : Int) else (↑n : Int) then (↑(0 : Nat) : Int) else if (↑n2 : Int) > (↑n : Int) then (↑n2 : Int) else (↑n : Int)) > (40 : Int))) = true → ((ConOK Tryd.prog ((11 : Nat)) (C11t tb)) ∧ (Con.pre (C11t tb) ⟨⟨[], []⟩, [(tb)]⟩) ∧
R (.ret (.bool true)))) ∧
((decide ((if (↑(0 : Nat) : Int) > if (↑n2 : Int) > (↑n : Int) then (↑n2 : Int) else (↑n : Int) then (↑(0 : Nat) : Int) else if (↑n2 : Int) > (↑n : Int) then (↑n2 : Int) else (↑n : Int)) > (40 : Int))) = false → ((ConOK Tryd.prog ((20 : Nat)) (C20N rw st n cw n2 cv ws vs false)) ∧ (Con.pre (C20N rw st n cw n2 cv ws vs false) ⟨⟨[(.int .i64 rw), (.int .i64 st)], [⟨n, cw⟩, ⟨n2, cv⟩]⟩, [(ws), (vs)]⟩) ∧
((ConOK Tryd.prog ((11 : Nat)) (C11t tb)) ∧ (Con.pre (C11t tb) ⟨⟨[], []⟩, [(tb)]⟩) ∧
R (.ret (.bool true))))))) := by kernel_rfl
theorem f6MN (rw st : Int) (n cw n2 cv : Nat) (wh mo : Int) (tb ws vs : List Value) (R : ARes → Prop) : (vx.call 6 [suN rw st n cw n2 cv, .int .u8 wh, .int .u8 mo] (retK R) (mLN5 tb ws vs) ([(21, .split ((9, Hint.con (C11t tb)) :: []) ((4, Hint.con (C20N rw st n cw n2 cv ws vs true)) :: (10, Hint.con (C11t tb)) :: []))])) =
((((decide ((if (↑(0 : Nat) : Int) > if (↑n2 : Int) > (↑n : Int) then (↑n2 : Int) else (↑n : Int) then (↑(0 : Nat) : Int) else if (↑n2 : Int) > (↑n : Int) then (↑n2 : Int) else (↑n : Int)) > (40 : Int))) = true → ((ConOK Tryd.prog ((11 : Nat)) (C11t tb)) ∧ (Con.pre (C11t tb) ⟨⟨[], []⟩, [(tb)]⟩) ∧
R (.ret (.bool true)))) ∧
((decide ((if (↑(0 : Nat) : Int) > if (↑n2 : Int) > (↑n : Int) then (↑n2 : Int) else (↑n : Int) then (↑(0 : Nat) : Int) else if (↑n2 : Int) > (↑n : Int) then (↑n2 : Int) else (↑n : Int)) > (40 : Int))) = false → ((ConOK Tryd.prog ((20 : Nat)) (C20N rw st n cw n2 cv ws vs true)) ∧ (Con.pre (C20N rw st n cw n2 cv ws vs true) ⟨⟨[(.int .i64 rw), (.int .i64 st)], [⟨n, cw⟩, ⟨n2, cv⟩]⟩, [(ws), (vs)]⟩) ∧
((ConOK Tryd.prog ((11 : Nat)) (C11t tb)) ∧ (Con.pre (C11t tb) ⟨⟨[], []⟩, [(tb)]⟩) ∧
R (.ret (.bool true))))))) := by kernel_rfl
theorem f6nnN (rw st : Int) (c1 : Nat) (wh mo : Int) (tb : List Value) (R : ARes → Prop) : (vx.call 6 [.agg ⟨[I rw, I st, nilS, nilS, nilS]⟩, .int .u8 wh, .int .u8 mo] (retK R) (mL05 tb) ([(35, .split ([(3, .split ([(10, .split ([(3, .split ((53, Hint.con (C11t tb)) :: []) ((18, Hint.con (C11t tb)) :: []))]) ((19, Hint.con (C11t tb)) :: []))]) ((19, Hint.con (C11t tb)) :: []))]) ((20, Hint.con (C11t tb)) :: []))])) =
((((decide ((1 : Int) ≤ rw)) = true → (((decide (rw ≤ (6 : Int))) = true → (((decide ((0 : Int) ≤ st)) = true → (((decide (st ≤ (4 : Int))) = true → ((ConOK Tryd.prog ((11 : Nat)) (C11t tb)) ∧ (Con.pre (C11t tb) ⟨⟨[], []⟩, [(tb)]⟩) ∧
R (.ret (.bool true)))) ∧
((decide (st ≤ (4 : Int))) = false → ((ConOK Tryd.prog ((11 : Nat)) (C11t tb)) ∧ (Con.pre (C11t tb) ⟨⟨[], []⟩, [(tb)]⟩) ∧
R (.ret (.bool true)))))) ∧
((decide ((0 : Int) ≤ st)) = false → ((ConOK Tryd.prog ((11 : Nat)) (C11t tb)) ∧ (Con.pre (C11t tb) ⟨⟨[], []⟩, [(tb)]⟩) ∧
R (.ret (.bool true)))))) ∧
((decide (rw ≤ (6 : Int))) = false → ((ConOK Tryd.prog ((11 : Nat)) (C11t tb)) ∧ (Con.pre (C11t tb) ⟨⟨[], []⟩, [(tb)]⟩) ∧
R (.ret (.bool true)))))) ∧
((decide ((1 : Int) ≤ rw)) = false → ((ConOK Tryd.prog ((11 : Nat)) (C11t tb)) ∧ (Con.pre (C11t tb) ⟨⟨[], []⟩, [(tb)]⟩) ∧
R (.ret (.bool true)))))) := by kernel_rfl
theorem f6nvN (rw st : Int) (c1 : Nat) (wh mo : Int) (tb : List Value) (R : ARes → Prop) : (vx.call 6 [.agg ⟨[I rw, I st, nilS, slV 3 0 c1, nilS]⟩, .int .u8 wh, .int .u8 mo] (retK R) (mL05 tb) ([(35, .split ([(3, .split ([(10, .split ([(3, .split ((53, Hint.con (C11t tb)) :: []) ((18, Hint.con (C11t tb)) :: []))]) ((19, Hint.con (C11t tb)) :: []))]) ((19, Hint.con (C11t tb)) :: []))]) ((20, Hint.con (C11t tb)) :: []))])) =
((((decide ((1 : Int) ≤ rw)) = true → (((decide (rw ≤ (6 : Int))) = true → (((decide ((0 : Int) ≤ st)) = true → (((decide (st ≤ (4 : Int))) = true → ((ConOK Tryd.prog ((11 : Nat)) (C11t tb)) ∧ (Con.pre (C11t tb) ⟨⟨[], []⟩, [(tb)]⟩) ∧
R (.ret (.bool true)))) ∧
((decide (st ≤ (4 : Int))) = false → ((ConOK Tryd.prog ((11 : Nat)) (C11t tb)) ∧ (Con.pre (C11t tb) ⟨⟨[], []⟩, [(tb)]⟩) ∧
R (.ret (.bool true)))))) ∧
((decide ((0 : Int) ≤ st)) = false → ((ConOK Tryd.prog ((11 : Nat)) (C11t tb)) ∧ (Con.pre (C11t tb) ⟨⟨[], []⟩, [(tb)]⟩) ∧
R (.ret (.bool true)))))) ∧
((decide (rw ≤ (6 : Int))) = false → ((ConOK Tryd.prog ((11 : Nat)) (C11t tb)) ∧ (Con.pre (C11t tb) ⟨⟨[], []⟩, [(tb)]⟩) ∧
R (.ret (.bool true)))))) ∧
((decide ((1 : Int) ≤ rw)) = false → ((ConOK Tryd.prog ((11 : Nat)) (C11t tb)) ∧ (Con.pre (C11t tb) ⟨⟨[], []⟩, [(tb)]⟩) ∧
R (.ret (.bool true)))))) := by kernel_rfl
theorem f6wnN (rw st : Int) (c1 : Nat) (wh mo : Int) (tb : List Value) (R : ARes → Prop) : (vx.call 6 [.agg ⟨[I rw, I st, slV 2 0 c1, nilS, nilS]⟩, .int .u8 wh, .int .u8 mo] (retK R) (mL05 tb) ([(35, .split ([(3, .split ([(10, .split ([(3, .split ((53, Hint.con (C11t tb)) :: []) ((18, Hint.con (C11t tb)) :: []))]) ((19, Hint.con (C11t tb)) :: []))]) ((19, Hint.con (C11t tb)) :: []))]) ((20, Hint.con (C11t tb)) :: []))])) =
((((decide ((1 : Int) ≤ rw)) = true → (((decide (rw ≤ (6 : Int))) = true → (((decide ((0 : Int) ≤ st)) = true → (((decide (st ≤ (4 : Int))) = true → ((ConOK Tryd.prog ((11 : Nat)) (C11t tb)) ∧ (Con.pre (C11t tb) ⟨⟨[], []⟩, [(tb)]⟩) ∧
R (.ret (.bool true)))) ∧
((decide (st ≤ (4 : Int))) = false → ((ConOK Tryd.prog ((11 : Nat)) (C11t tb)) ∧ (Con.pre (C11t tb) ⟨⟨[], []⟩, [(tb)]⟩) ∧
R (.ret (.bool true)))))) ∧
((decide ((0 : Int) ≤ st)) = false → ((ConOK Tryd.prog ((11 : Nat)) (C11t tb)) ∧ (Con.pre (C11t tb) ⟨⟨[], []⟩, [(tb)]⟩) ∧
R (.ret (.bool true)))))) ∧
((decide (rw ≤ (6 : Int))) = false → ((ConOK Tryd.prog ((11 : Nat)) (C11t tb)) ∧ (Con.pre (C11t tb) ⟨⟨[], []⟩, [(tb)]⟩) ∧
R (.ret (.bool true)))))) ∧
((decide ((1 : Int) ≤ rw)) = false → ((ConOK Tryd.prog ((11 : Nat)) (C11t tb)) ∧ (Con.pre (C11t tb) ⟨⟨[], []⟩, [(tb)]⟩) ∧
R (.ret (.bool true)))))) := by kernel_rfl
theorem f6nkP (rw st : Int) (n cv m cu : Nat) (wh mo : Int) (tb : List Value) (R : ARes → Prop) : (vx.call 6 [.agg ⟨[I rw, I st, nilS, slV 3 n cv, slV 4 m cu]⟩, .int .u8 wh, .int .u8 mo] (retK R) (mL05 tb) ([(21, .split ((9, Hint.con (C11t tb)) :: []) ([(13, .split ([(3, .split ([(10, .split ([(3, .split ((17, .val (.bool true)) :: (11, Hint.con (C11t tb)) :: []) ((18, Hint.con (C11t tb)) :: []))]) ((19, Hint.con (C11t tb)) :: []))]) ((19, Hint.con (C11t tb)) :: []))]) ((20, Hint.con (C11t tb)) :: []))]))])) =
((((decide ((if (↑m : Int) > if (↑n : Int) > (↑(0 : Nat) : Int) then (↑n : Int) else (↑(0 : Nat) : Int) then (↑m : Int) else if (↑n : Int) > (↑(0 : Nat) : Int) then (↑n : Int) else (↑(0 : Nat) : Int)) > (40 : Int))) = true → ((ConOK Tryd.prog ((11 : Nat)) (C11t tb)) ∧ (Con.pre (C11t tb) ⟨⟨[], []⟩, [(tb)]⟩) ∧
R (.ret (.bool true)))) ∧
((decide ((if (↑m : Int) > if (↑n : Int) > (↑(0 : Nat) : Int) then (↑n : Int) else (↑(0 : Nat) : Int) then (↑m : Int) else if (↑n : Int) > (↑(0 : Nat) : Int) then (↑n : Int) else (↑(0 : Nat) : Int)) > (40 : Int))) = false → (((decide ((1 : Int) ≤ rw)) = true → (((decide (rw ≤ (6 : Int))) = true → (((decide ((0 : Int) ≤ st)) = true → (((decide (st ≤ (4 : Int))) = true → ((((some (.bool ((↑n : Int) != (↑(0 : Nat) : Int))) : Option Value) = some (.bool true))) ∧
((ConOK Tryd.prog ((11 : Nat)) (C11t tb)) ∧ (Con.pre (C11t tb) ⟨⟨[], []⟩, [(tb)]⟩) ∧
R (.ret (.bool true))))) ∧
((decide (st ≤ (4 : Int))) = false → ((ConOK Tryd.prog ((11 : Nat)) (C11t tb)) ∧ (Con.pre (C11t tb) ⟨⟨[], []⟩, [(tb)]⟩) ∧
R (.ret (.bool true)))))) ∧
((decide ((0 : Int) ≤ st)) = false → ((ConOK Tryd.prog ((11 : Nat)) (C11t tb)) ∧ (Con.pre (C11t tb) ⟨⟨[], []⟩, [(tb)]⟩) ∧
R (.ret (.bool true)))))) ∧
((decide (rw ≤ (6 : Int))) = false → ((ConOK Tryd.prog ((11 : Nat)) (C11t tb)) ∧ (Con.pre (C11t tb) ⟨⟨[], []⟩, [(tb)]⟩) ∧
R (.ret (.bool true)))))) ∧
((decide ((1 : Int) ≤ rw)) = false → ((ConOK Tryd.prog ((11 : Nat)) (C11t tb)) ∧ (Con.pre (C11t tb) ⟨⟨[], []⟩, [(tb)]⟩) ∧
R (.ret (.bool true)))))))) := by kernel_rfl
theorem f6nkN (rw st : Int) (n cv : Nat) (wh mo : Int) (tb : List Value) (R : ARes → Prop) : (vx.call 6 [.agg ⟨[I rw, I st, nilS, slV 3 n cv, nilS]⟩, .int .u8 wh, .int .u8 mo] (retK R) (mL05 tb) ([(21, .split ((9, Hint.con (C11t tb)) :: []) ([(13, .split ([(3, .split ([(10, .split ([(3, .split ((17, .val (.bool true)) :: (11, Hint.con (C11t tb)) :: []) ((18, Hint.con (C11t tb)) :: []))]) ((19, Hint.con (C11t tb)) :: []))]) ((19, Hint.con (C11t tb)) :: []))]) ((20, Hint.con (C11t tb)) :: []))]))])) =
((((decide ((if (↑(0 : Nat) : Int) > if (↑n : Int) > (↑(0 : Nat) : Int) then (↑n : Int) else (↑(0 : Nat) : Int) then (↑(0 : Nat) : Int) else if (↑n : Int) > (↑(0 : Nat) : Int) then (↑n : Int) else (↑(0 : Nat) : Int)) > (40 : Int))) = true → ((ConOK Tryd.prog ((11 : Nat)) (C11t tb)) ∧ (Con.pre (C11t tb) ⟨⟨[], []⟩, [(tb)]⟩) ∧
R (.ret (.bool true)))) ∧
((decide ((if (↑(0 : Nat) : Int) > if (↑n : Int) > (↑(0 : Nat) : Int) then (↑n : Int) else (↑(0 : Nat) : Int) then (↑(0 : Nat) : Int) else if (↑n : Int) > (↑(0 : Nat) : Int) then (↑n : Int) else (↑(0 : Nat) : Int)) > (40 : Int))) = false → (((decide ((1 : Int) ≤ rw)) = true → (((decide (rw ≤ (6 : Int))) = true → (((decide ((0 : Int) ≤ st)) = true → (((decide (st ≤ (4 : Int))) = true → ((((some (.bool ((↑n : Int) != (↑(0 : Nat) : Int))) : Option Value) = some (.bool true))) ∧
((ConOK Tryd.prog ((11 : Nat)) (C11t tb)) ∧ (Con.pre (C11t tb) ⟨⟨[], []⟩, [(tb)]⟩) ∧
R (.ret (.bool true))))) ∧
((decide (st ≤ (4 : Int))) = false → ((ConOK Tryd.prog ((11 : Nat)) (C11t tb)) ∧ (Con.pre (C11t tb) ⟨⟨[], []⟩, [(tb)]⟩) ∧
R (.ret (.bool true)))))) ∧
((decide ((0 : Int) ≤ st)) = false → ((ConOK Tryd.prog ((11 : Nat)) (C11t tb)) ∧ (Con.pre (C11t tb) ⟨⟨[], []⟩, [(tb)]⟩) ∧
R (.ret (.bool true)))))) ∧
((decide (rw ≤ (6 : Int))) = false → ((ConOK Tryd.prog ((11 : Nat)) (C11t tb)) ∧ (Con.pre (C11t tb) ⟨⟨[], []⟩, [(tb)]⟩) ∧
R (.ret (.bool true)))))) ∧
((decide ((1 : Int) ≤ rw)) = false → ((ConOK Tryd.prog ((11 : Nat)) (C11t tb)) ∧ (Con.pre (C11t tb) ⟨⟨[], []⟩, [(tb)]⟩) ∧
R (.ret (.bool true)))))))) := by kernel_rfl
theorem f6knP (rw st : Int) (n cw m cu : Nat) (wh mo : Int) (tb : List Value) (R : ARes → Prop) : (vx.call 6 [.agg ⟨[I rw, I st, slV 2 n cw, nilS, slV 4 m cu]⟩, .int .u8 wh, .int .u8 mo] (retK R) (mL05 tb) ([(21, .split ((9, Hint.con (C11t tb)) :: []) ([(13, .split ([(3, .split ([(10, .split ([(3, .split ([(8, .split ((13, Hint.con (C11t tb)) :: []) ((8, .val (.bool true)) :: (11, Hint.con (C11t tb)) :: []))]) ((18, Hint.con (C11t tb)) :: []))]) ((19, Hint.con (C11t tb)) :: []))]) ((19, Hint.con (C11t tb)) :: []))]) ((20, Hint.con (C11t tb)) :: []))]))])) =
((((decide ((if (↑m : Int) > if (↑(0 : Nat) : Int) > (↑n : Int) then (↑(0 : Nat) : Int) else (↑n : Int) then (↑m : Int) else if (↑(0 : Nat) : Int) > (↑n : Int) then (↑(0 : Nat) : Int) else (↑n : Int)) > (40 : Int))) = true → ((ConOK Tryd.prog ((11 : Nat)) (C11t tb)) ∧ (Con.pre (C11t tb) ⟨⟨[], []⟩, [(tb)]⟩) ∧
R (.ret (.bool true)))) ∧
((decide ((if (↑m : Int) > if (↑(0 : Nat) : Int) > (↑n : Int) then (↑(0 : Nat) : Int) else (↑n : Int) then (↑m : Int) else if (↑(0 : Nat) : Int) > (↑n : Int) then (↑(0 : Nat) : Int) else (↑n : Int)) > (40 : Int))) = false → (((decide ((1 : Int) ≤ rw)) = true → (((decide (rw ≤ (6 : Int))) = true → (((decide ((0 : Int) ≤ st)) = true → (((decide (st ≤ (4 : Int))) = true → (((decide ((↑n : Int) > (8 : Int))) = true → ((ConOK Tryd.prog ((11 : Nat)) (C11t tb)) ∧ (Con.pre (C11t tb) ⟨⟨[], []⟩, [(tb)]⟩) ∧
R (.ret (.bool true)))) ∧
((decide ((↑n : Int) > (8 : Int))) = false → ((((some (.bool ((↑(0 : Nat) : Int) != (↑n : Int))) : Option Value) = some (.bool true))) ∧
((ConOK Tryd.prog ((11 : Nat)) (C11t tb)) ∧ (Con.pre (C11t tb) ⟨⟨[], []⟩, [(tb)]⟩) ∧
R (.ret (.bool true))))))) ∧
((decide (st ≤ (4 : Int))) = false → ((ConOK Tryd.prog ((11 : Nat)) (C11t tb)) ∧ (Con.pre (C11t tb) ⟨⟨[], []⟩, [(tb)]⟩) ∧
R (.ret (.bool true)))))) ∧
((decide ((0 : Int) ≤ st)) = false → ((ConOK Tryd.prog ((11 : Nat)) (C11t tb)) ∧ (Con.pre (C11t tb) ⟨⟨[], []⟩, [(tb)]⟩) ∧
R (.ret (.bool true)))))) ∧
((decide (rw ≤ (6 : Int))) = false → ((ConOK Tryd.prog ((11 : Nat)) (C11t tb)) ∧ (Con.pre (C11t tb) ⟨⟨[], []⟩, [(tb)]⟩) ∧
R (.ret (.bool true)))))) ∧
((decide ((1 : Int) ≤ rw)) = false → ((ConOK Tryd.prog ((11 : Nat)) (C11t tb)) ∧ (Con.pre (C11t tb) ⟨⟨[], []⟩, [(tb)]⟩) ∧
R (.ret (.bool true)))))))) := by kernel_rfl
theorem f6knN (rw st : Int) (n cw : Nat) (wh mo : Int) (tb : List Value) (R : ARes → Prop) : (vx.call 6 [.agg ⟨[I rw, I st, slV 2 n cw, nilS, nilS]⟩, .int .u8 wh, .int .u8 mo] (retK R) (mL05 tb) ([(21, .split ((9, Hint.con (C11t tb)) :: []) ([(13, .split ([(3, .split ([(10, .split ([(3, .split ([(8, .split ((13, Hint.con (C11t tb)) :: []) ((8, .val (.bool true)) :: (11, Hint.con (C11t tb)) :: []))]) ((18, Hint.con (C11t tb)) :: []))]) ((19, Hint.con (C11t tb)) :: []))]) ((19, Hint.con (C11t tb)) :: []))]) ((20, Hint.con (C11t tb)) :: []))]))])) =
((((decide ((if (↑(0 : Nat) : Int) > if (↑(0 : Nat) : Int) > (↑n : Int) then (↑(0 : Nat) : Int) else (↑n : Int) then (↑(0 : Nat) : Int) else if (↑(0 : Nat) : Int) > (↑n : Int) then (↑(0 : Nat) : Int) else (↑n : Int)) > (40 : Int))) = true → ((ConOK Tryd.prog ((11 : Nat)) (C11t tb)) ∧ (Con.pre (C11t tb) ⟨⟨[], []⟩, [(tb)]⟩) ∧
R (.ret (.bool true)))) ∧
((decide ((if (↑(0 : Nat) : Int) > if (↑(0 : Nat) : Int) > (↑n : Int) then (↑(0 : Nat) : Int) else (↑n : Int) then (↑(0 : Nat) : Int) else if (↑(0 : Nat) : Int) > (↑n : Int) then (↑(0 : Nat) : Int) else (↑n : Int)) > (40 : Int))) = false → (((decide ((1 : Int) ≤ rw)) = true → (((decide (rw ≤ (6 : Int))) = true → (((decide ((0 : Int) ≤ st)) = true → (((decide (st ≤ (4 : Int))) = true → (((decide ((↑n : Int) > (8 : Int))) = true → ((ConOK Tryd.prog ((11 : Nat)) (C11t tb)) ∧ (Con.pre (C11t tb) ⟨⟨[], []⟩, [(tb)]⟩) ∧
R (.ret (.bool true)))) ∧
((decide ((↑n : Int) > (8 : Int))) = false → ((((some (.bool ((↑(0 : Nat) : Int) != (↑n : Int))) : Option Value) = some (.bool true))) ∧
((ConOK Tryd.prog ((11 : Nat)) (C11t tb)) ∧ (Con.pre (C11t tb) ⟨⟨[], []⟩, [(tb)]⟩) ∧
R (.ret (.bool true))))))) ∧
((decide (st ≤ (4 : Int))) = false → ((ConOK Tryd.prog ((11 : Nat)) (C11t tb)) ∧ (Con.pre (C11t tb) ⟨⟨[], []⟩, [(tb)]⟩) ∧
R (.ret (.bool true)))))) ∧
((decide ((0 : Int) ≤ st)) = false → ((ConOK Tryd.prog ((11 : Nat)) (C11t tb)) ∧ (Con.pre (C11t tb) ⟨⟨[], []⟩, [(tb)]⟩) ∧
R (.ret (.bool true)))))) ∧
((decide (rw ≤ (6 : Int))) = false → ((ConOK Tryd.prog ((11 : Nat)) (C11t tb)) ∧ (Con.pre (C11t tb) ⟨⟨[], []⟩, [(tb)]⟩) ∧
R (.ret (.bool true)))))) ∧
((decide ((1 : Int) ≤ rw)) = false → ((ConOK Tryd.prog ((11 : Nat)) (C11t tb)) ∧ (Con.pre (C11t tb) ⟨⟨[], []⟩, [(tb)]⟩) ∧
R (.ret (.bool true)))))))) := by kernel_rfl
section
variable {rw st : Int} {c1 m cu hut : Nat} {u : Nat → Hut} {g : Nat → Int}
theorem cl6h {a : List Value} {b : List (Nat × Nat)} : ClW ⟨⟨a, b⟩, [tabC, huL m u, ints 3 g], []⟩ := by
  refine ⟨fun cs hc => ?_, fun e hc => (by cases hc)⟩
  simp only [List.mem_cons, List.not_mem_nil, or_false] at hc
  rcases hc with rfl | rfl | rfl
  · exact tabC_at
  · exact huL_at _ _
  · exact ints_at _ _
theorem C24n_ok (hrw : 1 ≤ rw ∧ rw ≤ 6) (hst : 0 ≤ st ∧ st ≤ 4) (hU : HUK rw m u) (hh : hut < m) : ConOK Tryd.prog 24 (CSn rw st c1 m cu (huL m u) hut (.tuple ⟨[I 0, I 0]⟩)) := by
  obtain ⟨u0, u1, u2, u3, u4⟩ := hU.u hut hh
  have h5 := hU.m5
  have pu := huL_part u hh
  have lu := huL_len m u
  have e : IntKind.i64.wrap ((m : Int) - 1) = (m : Int) - 1 := wrapI (by omega) (by omega)
  refine con_of vx_sound ⟨⟨[I rw, I st, I hut], [(m, cu)]⟩, [huL m u]⟩ (fun y hy => ?_) rfl (fun y _ => rfl) (fun y hy => ?_) rfl (Nat.le_of_ble_eq_true rfl) (by rw [nglob]; exact Nat.le_of_ble_eq_true rfl)
  · cases hy
    refine ⟨_, (f24n rw st c1 m cu hut u _).mpr ?_⟩
    rw [e]
    exact ⟨C79n_ok (c1 := c1) hrw hst hU, rfl, tt (decide_eq_true (by omega)), ⟨⟨by omega, by omega⟩, rfl⟩, ⟨by rw [lu]; omega, by rw [pu]; rfl⟩, ⟨⟨by rw [lu]; omega, by rw [pu]; rfl⟩, rfl, trivial⟩, ⟨⟨Nat.le_refl _, rfl⟩, trivial⟩, ⟨⟨by omega, by omega⟩, rfl⟩, ⟨⟨Nat.le_refl _, rfl⟩, ⟨Nat.le_refl _, rfl⟩, trivial⟩, ⟨⟨by omega, by omega⟩, rfl⟩, rfl⟩
  · cases hy
    exact at1h
theorem C23n_ok (hrw : 1 ≤ rw ∧ rw ≤ 6) (hst : 0 ≤ st ∧ st ≤ 4) (hU : HUK rw m u) (hh : hut < m) : ConOK Tryd.prog 23 (CSn rw st c1 m cu (huL m u) hut (.tuple ⟨[I 0, I 0]⟩)) := by
  obtain ⟨u0, u1, u2, u3, u4⟩ := hU.u hut hh
  have h5 := hU.m5
  have pu := huL_part u hh
  have lu := huL_len m u
  have e : IntKind.i64.wrap ((m : Int) - 1) = (m : Int) - 1 := wrapI (by omega) (by omega)
  refine con_of vx_sound ⟨⟨[I rw, I st, I hut], [(m, cu)]⟩, [huL m u]⟩ (fun y hy => ?_) rfl (fun y _ => rfl) (fun y hy => ?_) rfl (Nat.le_of_ble_eq_true rfl) (by rw [nglob]; exact Nat.le_of_ble_eq_true rfl)
  · cases hy
    obtain ⟨e1, e2⟩ := los_eq (c := 2 ^ (u hut).row) (pow_lt7 (by omega))
    have l1 := e1.trans (decide_eq_false (pow_not64 (show (u hut).row < 6 by omega)))
    have l2 := e2.trans (show (2 ^ (u hut).row).testBit 6 = false by rw [Nat.testBit_two_pow, decide_eq_false (by omega)])
    rw [← one_cast (show (u hut).row ≤ 6 by omega)] at l1 l2
    refine ⟨_, (f23n rw st c1 m cu hut u _).mpr ?_⟩
    rw [e]
    exact ⟨C79n_ok (c1 := c1) hrw hst hU, rfl, tt (decide_eq_true (by omega)), ⟨⟨by omega, by omega⟩, rfl⟩, ⟨by rw [lu]; omega, by rw [pu]; rfl⟩, ⟨⟨by rw [lu]; omega, by rw [pu]; rfl⟩, rfl, trivial⟩, ⟨⟨Nat.le_refl _, rfl⟩, trivial⟩, ⟨⟨by omega, by omega⟩, rfl⟩, tf l1, tf l2, rfl⟩
  · cases hy
    exact at1h
theorem loop6an (hrw : 1 ≤ rw ∧ rw ≤ 6) (hst : 0 ≤ st ∧ st ≤ 4) (hU : HUK rw m u) (hh : hut < m) {mo : Int} {fr : Nat} (hg : ∀ i, i < 3 → g i ≤ 10) :
    LoopOW Tryd.prog none p6a T6an (h6an rw st c1 m cu hut 0 fr mo (u hut).fl (u hut).br (u hut).row tabC (huL m u) g 0) (.exit 0) T6an (h6an rw st c1 m cu hut 0 fr mo (u hut).fl (u hut).br (u hut).row tabC (huL m u) g 3) := by
  have h5 := hU.m5
  obtain ⟨u0, u1, u2, u3, u4⟩ := hU.u hut hh
  refine loop_forW (Ts := [T6an]) (k := 10) (n := 3) (e := .exit 0) (st := fun i => (0, h6an rw st c1 m cu hut 0 fr mo (u hut).fl (u hut).br (u hut).row tabC (huL m u) g i)) rfl vx_sound ?_ (by rw [nglob]; omega) ⟨by simp, trivial⟩ (fun i _ => cl6h) (fun i hi R hR => ?_) (fun R hR => ?_) rfl (Nat.le_of_ble_eq_true rfl) (by decide) rfl
  · intro T hT; simp only [List.mem_singleton] at hT; subst hT; rfl
  · have hw : IntKind.i64.wrap ((i : Int) + 1) = ((i + 1 : Nat) : Int) := wrapI (by omega) (by omega)
    have hgi := hg i hi
    by_cases hneg : g i < 0
    · refine ⟨T6an, _, rfl, (b6ann rw st c1 m cu mo (u hut).fl (u hut).br hut 0 fr (u hut).row i tabC (huL m u) g R).mpr ⟨fun _ => ⟨⟨⟨by omega, by omega⟩, rfl⟩, ints_get g hi, tt (decide_eq_true hneg), ?_⟩, fun h => absurd (by omega) (of_decide_eq_false h)⟩⟩
      rw [hw]; exact hR
    · have hU2 : HUK rw m (updH u hut ⟨(u hut).fl, g i, (u hut).row⟩) := updH_ok hU ⟨u0, u1, by show 0 ≤ g i; omega, hgi, u4⟩
      have c0 := C15n_ok (c1 := c1) (cu := m) hrw hst hU2 hh
      have c0' : ConOK Tryd.prog 15 (CSn rw st c1 (0 + m) (0 + m) (huL m (updH u hut ⟨(u hut).fl, g i, (u hut).row⟩)) hut (.tuple ⟨[I 0, I 0]⟩)) := by rw [Nat.zero_add]; exact c0
      have lu := huL_len m u
      refine ⟨T6an, _, rfl, (b6an rw st c1 m cu mo 0 hut 0 fr i tabC u (updH u hut ⟨(u hut).fl, g i, (u hut).row⟩) g R).mpr ⟨fun _ => ⟨⟨⟨by omega, by omega⟩, rfl⟩, ints_get g hi, tf (decide_eq_false hneg), ⟨⟨⟨by omega, by rw [lu]; omega⟩, atomH⟩, by omega, rfl, by omega, by omega⟩, ⟨⟨by omega, by omega⟩, rfl⟩, rowH hh, ⟨⟨by omega, by omega⟩, rfl⟩, ⟨by rw [copyH, lu]; omega, putH hh ⟨(u hut).fl, g i, (u hut).row⟩⟩, c0', rfl, ?_⟩, fun h => absurd (by omega) (of_decide_eq_false h)⟩⟩
      rw [hw]
      exact ⟨fun _ => ⟨fun _ => hR, fun h2 => absurd (show g i ≥ ((0 : Nat) : Int) by omega) (of_decide_eq_false h2)⟩, fun h1 => by cases h1⟩
  · exact ⟨T6an, _, rfl, (b6ann rw st c1 m cu mo (u hut).fl (u hut).br hut 0 fr (u hut).row 3 tabC (huL m u) g R).mpr ⟨fun h => absurd (of_decide_eq_true h) (by omega), fun _ => hR⟩⟩
theorem loop6bn (hrw : 1 ≤ rw ∧ rw ≤ 6) (hst : 0 ≤ st ∧ st ≤ 4) (hU : HUK rw m u) (hh : hut < m) (hg : ∀ i, i < 3 → g i ≤ 40) :
    LoopOW Tryd.prog none p6b T6bn (h6bn rw st c1 m cu hut 0 (u hut).fl (u hut).br (u hut).row tabC (huL m u) g 0) (.exit 2) T6bn (h6bn rw st c1 m cu hut 0 (u hut).fl (u hut).br (u hut).row tabC (huL m u) g 3) := by
  have h5 := hU.m5
  obtain ⟨u0, u1, u2, u3, u4⟩ := hU.u hut hh
  refine loop_forW (Ts := [T6bn]) (k := 11) (n := 3) (e := .exit 2) (st := fun i => (0, h6bn rw st c1 m cu hut 0 (u hut).fl (u hut).br (u hut).row tabC (huL m u) g i)) rfl vx_sound ?_ (by rw [nglob]; omega) ⟨by simp, trivial⟩ (fun i _ => cl6h) (fun i hi R hR => ?_) (fun R hR => ?_) rfl (Nat.le_of_ble_eq_true rfl) (by decide) rfl
  · intro T hT; simp only [List.mem_singleton] at hT; subst hT; rfl
  · have hw : IntKind.i64.wrap ((i : Int) + 1) = ((i + 1 : Nat) : Int) := wrapI (by omega) (by omega)
    have hgi := hg i hi
    by_cases hneg : g i < 0
    · refine ⟨T6bn, _, rfl, (b6bnn rw st c1 m cu (u hut).fl (u hut).br hut 0 (u hut).row i tabC (huL m u) g R).mpr ⟨fun _ => ⟨⟨⟨by omega, by omega⟩, rfl⟩, ints_get g hi, tt (decide_eq_true hneg), ?_⟩, fun h => absurd (by omega) (of_decide_eq_false h)⟩⟩
      rw [hw]; exact hR
    · have hU2 : HUK rw m (updH u hut ⟨g i, (u hut).br, (u hut).row⟩) := updH_ok hU ⟨by show 0 ≤ g i; omega, hgi, u2, u3, u4⟩
      have c0 := C14n_ok (c1 := c1) (cu := m) hrw hst hU2 hh
      have c0' : ConOK Tryd.prog 14 (CSn rw st c1 (0 + m) (0 + m) (huL m (updH u hut ⟨g i, (u hut).br, (u hut).row⟩)) hut (.tuple ⟨[I 0, I 0, I 0]⟩)) := by rw [Nat.zero_add]; exact c0
      have lu := huL_len m u
      refine ⟨T6bn, _, rfl, (b6bn rw st c1 m cu 0 0 hut 0 i tabC u (updH u hut ⟨g i, (u hut).br, (u hut).row⟩) g R).mpr ⟨fun _ => ⟨⟨⟨by omega, by omega⟩, rfl⟩, ints_get g hi, tf (decide_eq_false hneg), ⟨⟨⟨by omega, by rw [lu]; omega⟩, atomH⟩, by omega, rfl, by omega, by omega⟩, ⟨⟨by omega, by omega⟩, rfl⟩, rowH hh, ⟨⟨by omega, by omega⟩, rfl⟩, ⟨by rw [copyH, lu]; omega, putH hh ⟨g i, (u hut).br, (u hut).row⟩⟩, c0', rfl, ?_⟩, fun h => absurd (by omega) (of_decide_eq_false h)⟩⟩
      rw [hw]
      exact ⟨fun _ => ⟨fun _ => hR, fun h2 => absurd (show g i ≥ ((0 : Nat) : Int) by omega) (of_decide_eq_false h2)⟩, fun h1 => by cases h1⟩
  · exact ⟨T6bn, _, rfl, (b6bnn rw st c1 m cu (u hut).fl (u hut).br hut 0 (u hut).row 3 tabC (huL m u) g R).mpr ⟨fun h => absurd (of_decide_eq_true h) (by omega), fun _ => hR⟩⟩
theorem C24v_ok (hrw : 1 ≤ rw ∧ rw ≤ 6) (hst : 0 ≤ st ∧ st ≤ 4) (hU : HUK rw m u) (hh : hut < m) : ConOK Tryd.prog 24 (CSv rw st c1 m cu (huL m u) hut (.tuple ⟨[I 0, I 0]⟩)) := by
  obtain ⟨u0, u1, u2, u3, u4⟩ := hU.u hut hh
  have h5 := hU.m5
  have pu := huL_part u hh
  have lu := huL_len m u
  have e : IntKind.i64.wrap ((m : Int) - 1) = (m : Int) - 1 := wrapI (by omega) (by omega)
  refine con_of vx_sound ⟨⟨[I rw, I st, I hut], [(0, c1), (m, cu)]⟩, [huL m u]⟩ (fun y hy => ?_) rfl (fun y _ => rfl) (fun y hy => ?_) rfl (Nat.le_of_ble_eq_true rfl) (by rw [nglob]; exact Nat.le_of_ble_eq_true rfl)
  · cases hy
    refine ⟨_, (f24v rw st c1 m cu hut u _).mpr ?_⟩
    rw [e]
    exact ⟨C79v_ok (c1 := c1) hrw hst hU, rfl, tt (decide_eq_true (by omega)), ⟨⟨by omega, by omega⟩, rfl⟩, ⟨by rw [lu]; omega, by rw [pu]; rfl⟩, ⟨⟨by rw [lu]; omega, by rw [pu]; rfl⟩, rfl, trivial⟩, ⟨⟨Nat.le_refl _, rfl⟩, trivial⟩, ⟨⟨by omega, by omega⟩, rfl⟩, ⟨⟨Nat.le_refl _, rfl⟩, ⟨Nat.le_refl _, rfl⟩, trivial⟩, ⟨⟨by omega, by omega⟩, rfl⟩, rfl⟩
  · cases hy
    exact at1h
theorem C23v_ok (hrw : 1 ≤ rw ∧ rw ≤ 6) (hst : 0 ≤ st ∧ st ≤ 4) (hU : HUK rw m u) (hh : hut < m) : ConOK Tryd.prog 23 (CSv rw st c1 m cu (huL m u) hut (.tuple ⟨[I 0, I 0]⟩)) := by
  obtain ⟨u0, u1, u2, u3, u4⟩ := hU.u hut hh
  have h5 := hU.m5
  have pu := huL_part u hh
  have lu := huL_len m u
  have e : IntKind.i64.wrap ((m : Int) - 1) = (m : Int) - 1 := wrapI (by omega) (by omega)
  refine con_of vx_sound ⟨⟨[I rw, I st, I hut], [(0, c1), (m, cu)]⟩, [huL m u]⟩ (fun y hy => ?_) rfl (fun y _ => rfl) (fun y hy => ?_) rfl (Nat.le_of_ble_eq_true rfl) (by rw [nglob]; exact Nat.le_of_ble_eq_true rfl)
  · cases hy
    obtain ⟨e1, e2⟩ := los_eq (c := 2 ^ (u hut).row) (pow_lt7 (by omega))
    have l1 := e1.trans (decide_eq_false (pow_not64 (show (u hut).row < 6 by omega)))
    have l2 := e2.trans (show (2 ^ (u hut).row).testBit 6 = false by rw [Nat.testBit_two_pow, decide_eq_false (by omega)])
    rw [← one_cast (show (u hut).row ≤ 6 by omega)] at l1 l2
    refine ⟨_, (f23v rw st c1 m cu hut u _).mpr ?_⟩
    rw [e]
    exact ⟨C79v_ok (c1 := c1) hrw hst hU, rfl, tt (decide_eq_true (by omega)), ⟨⟨by omega, by omega⟩, rfl⟩, ⟨by rw [lu]; omega, by rw [pu]; rfl⟩, ⟨⟨by rw [lu]; omega, by rw [pu]; rfl⟩, rfl, trivial⟩, ⟨⟨Nat.le_refl _, rfl⟩, trivial⟩, ⟨⟨by omega, by omega⟩, rfl⟩, tf l1, tf l2, rfl⟩
  · cases hy
    exact at1h
theorem loop6av (hrw : 1 ≤ rw ∧ rw ≤ 6) (hst : 0 ≤ st ∧ st ≤ 4) (hU : HUK rw m u) (hh : hut < m) {mo : Int} {fr : Nat} (hg : ∀ i, i < 3 → g i ≤ 10) :
    LoopOW Tryd.prog none p6a T6av (h6av rw st c1 m cu hut 0 fr mo (u hut).fl (u hut).br (u hut).row tabC (huL m u) g 0) (.exit 0) T6av (h6av rw st c1 m cu hut 0 fr mo (u hut).fl (u hut).br (u hut).row tabC (huL m u) g 3) := by
  have h5 := hU.m5
  obtain ⟨u0, u1, u2, u3, u4⟩ := hU.u hut hh
  refine loop_forW (Ts := [T6av]) (k := 10) (n := 3) (e := .exit 0) (st := fun i => (0, h6av rw st c1 m cu hut 0 fr mo (u hut).fl (u hut).br (u hut).row tabC (huL m u) g i)) rfl vx_sound ?_ (by rw [nglob]; omega) ⟨by simp, trivial⟩ (fun i _ => cl6h) (fun i hi R hR => ?_) (fun R hR => ?_) rfl (Nat.le_of_ble_eq_true rfl) (by decide) rfl
  · intro T hT; simp only [List.mem_singleton] at hT; subst hT; rfl
  · have hw : IntKind.i64.wrap ((i : Int) + 1) = ((i + 1 : Nat) : Int) := wrapI (by omega) (by omega)
    have hgi := hg i hi
    by_cases hneg : g i < 0
    · refine ⟨T6av, _, rfl, (b6anv rw st c1 m cu mo (u hut).fl (u hut).br hut 0 fr (u hut).row i tabC (huL m u) g R).mpr ⟨fun _ => ⟨⟨⟨by omega, by omega⟩, rfl⟩, ints_get g hi, tt (decide_eq_true hneg), ?_⟩, fun h => absurd (by omega) (of_decide_eq_false h)⟩⟩
      rw [hw]; exact hR
    · have hU2 : HUK rw m (updH u hut ⟨(u hut).fl, g i, (u hut).row⟩) := updH_ok hU ⟨u0, u1, by show 0 ≤ g i; omega, hgi, u4⟩
      have c0 := C15v_ok (c1 := c1) (cu := m) hrw hst hU2 hh
      have c0' : ConOK Tryd.prog 15 (CSv rw st c1 (0 + m) (0 + m) (huL m (updH u hut ⟨(u hut).fl, g i, (u hut).row⟩)) hut (.tuple ⟨[I 0, I 0]⟩)) := by rw [Nat.zero_add]; exact c0
      have lu := huL_len m u
      refine ⟨T6av, _, rfl, (b6av rw st c1 m cu mo 0 hut 0 fr i tabC u (updH u hut ⟨(u hut).fl, g i, (u hut).row⟩) g R).mpr ⟨fun _ => ⟨⟨⟨by omega, by omega⟩, rfl⟩, ints_get g hi, tf (decide_eq_false hneg), ⟨⟨⟨by omega, by rw [lu]; omega⟩, atomH⟩, by omega, rfl, by omega, by omega⟩, ⟨⟨by omega, by omega⟩, rfl⟩, rowH hh, ⟨⟨by omega, by omega⟩, rfl⟩, ⟨by rw [copyH, lu]; omega, putH hh ⟨(u hut).fl, g i, (u hut).row⟩⟩, c0', rfl, ?_⟩, fun h => absurd (by omega) (of_decide_eq_false h)⟩⟩
      rw [hw]
      exact ⟨fun _ => ⟨fun _ => hR, fun h2 => absurd (show g i ≥ ((0 : Nat) : Int) by omega) (of_decide_eq_false h2)⟩, fun h1 => by cases h1⟩
  · exact ⟨T6av, _, rfl, (b6anv rw st c1 m cu mo (u hut).fl (u hut).br hut 0 fr (u hut).row 3 tabC (huL m u) g R).mpr ⟨fun h => absurd (of_decide_eq_true h) (by omega), fun _ => hR⟩⟩
theorem loop6bv (hrw : 1 ≤ rw ∧ rw ≤ 6) (hst : 0 ≤ st ∧ st ≤ 4) (hU : HUK rw m u) (hh : hut < m) (hg : ∀ i, i < 3 → g i ≤ 40) :
    LoopOW Tryd.prog none p6b T6bv (h6bv rw st c1 m cu hut 0 (u hut).fl (u hut).br (u hut).row tabC (huL m u) g 0) (.exit 2) T6bv (h6bv rw st c1 m cu hut 0 (u hut).fl (u hut).br (u hut).row tabC (huL m u) g 3) := by
  have h5 := hU.m5
  obtain ⟨u0, u1, u2, u3, u4⟩ := hU.u hut hh
  refine loop_forW (Ts := [T6bv]) (k := 11) (n := 3) (e := .exit 2) (st := fun i => (0, h6bv rw st c1 m cu hut 0 (u hut).fl (u hut).br (u hut).row tabC (huL m u) g i)) rfl vx_sound ?_ (by rw [nglob]; omega) ⟨by simp, trivial⟩ (fun i _ => cl6h) (fun i hi R hR => ?_) (fun R hR => ?_) rfl (Nat.le_of_ble_eq_true rfl) (by decide) rfl
  · intro T hT; simp only [List.mem_singleton] at hT; subst hT; rfl
  · have hw : IntKind.i64.wrap ((i : Int) + 1) = ((i + 1 : Nat) : Int) := wrapI (by omega) (by omega)
    have hgi := hg i hi
    by_cases hneg : g i < 0
    · refine ⟨T6bv, _, rfl, (b6bnv rw st c1 m cu (u hut).fl (u hut).br hut 0 (u hut).row i tabC (huL m u) g R).mpr ⟨fun _ => ⟨⟨⟨by omega, by omega⟩, rfl⟩, ints_get g hi, tt (decide_eq_true hneg), ?_⟩, fun h => absurd (by omega) (of_decide_eq_false h)⟩⟩
      rw [hw]; exact hR
    · have hU2 : HUK rw m (updH u hut ⟨g i, (u hut).br, (u hut).row⟩) := updH_ok hU ⟨by show 0 ≤ g i; omega, hgi, u2, u3, u4⟩
      have c0 := C14v_ok (c1 := c1) (cu := m) hrw hst hU2 hh
      have c0' : ConOK Tryd.prog 14 (CSv rw st c1 (0 + m) (0 + m) (huL m (updH u hut ⟨g i, (u hut).br, (u hut).row⟩)) hut (.tuple ⟨[I 0, I 0, I 0]⟩)) := by rw [Nat.zero_add]; exact c0
      have lu := huL_len m u
      refine ⟨T6bv, _, rfl, (b6bv rw st c1 m cu 0 0 hut 0 i tabC u (updH u hut ⟨g i, (u hut).br, (u hut).row⟩) g R).mpr ⟨fun _ => ⟨⟨⟨by omega, by omega⟩, rfl⟩, ints_get g hi, tf (decide_eq_false hneg), ⟨⟨⟨by omega, by rw [lu]; omega⟩, atomH⟩, by omega, rfl, by omega, by omega⟩, ⟨⟨by omega, by omega⟩, rfl⟩, rowH hh, ⟨⟨by omega, by omega⟩, rfl⟩, ⟨by rw [copyH, lu]; omega, putH hh ⟨g i, (u hut).br, (u hut).row⟩⟩, c0', rfl, ?_⟩, fun h => absurd (by omega) (of_decide_eq_false h)⟩⟩
      rw [hw]
      exact ⟨fun _ => ⟨fun _ => hR, fun h2 => absurd (show g i ≥ ((0 : Nat) : Int) by omega) (of_decide_eq_false h2)⟩, fun h1 => by cases h1⟩
  · exact ⟨T6bv, _, rfl, (b6bnv rw st c1 m cu (u hut).fl (u hut).br hut 0 (u hut).row 3 tabC (huL m u) g R).mpr ⟨fun h => absurd (of_decide_eq_true h) (by omega), fun _ => hR⟩⟩
theorem C24w_ok (hrw : 1 ≤ rw ∧ rw ≤ 6) (hst : 0 ≤ st ∧ st ≤ 4) (hU : HUK rw m u) (hh : hut < m) : ConOK Tryd.prog 24 (CSw rw st c1 m cu (huL m u) hut (.tuple ⟨[I 0, I 0]⟩)) := by
  obtain ⟨u0, u1, u2, u3, u4⟩ := hU.u hut hh
  have h5 := hU.m5
  have pu := huL_part u hh
  have lu := huL_len m u
  have e : IntKind.i64.wrap ((m : Int) - 1) = (m : Int) - 1 := wrapI (by omega) (by omega)
  refine con_of vx_sound ⟨⟨[I rw, I st, I hut], [(0, c1), (m, cu)]⟩, [huL m u]⟩ (fun y hy => ?_) rfl (fun y _ => rfl) (fun y hy => ?_) rfl (Nat.le_of_ble_eq_true rfl) (by rw [nglob]; exact Nat.le_of_ble_eq_true rfl)
  · cases hy
    refine ⟨_, (f24w rw st c1 m cu hut u _).mpr ?_⟩
    rw [e]
    exact ⟨C79w_ok (c1 := c1) hrw hst hU, rfl, tt (decide_eq_true (by omega)), ⟨⟨by omega, by omega⟩, rfl⟩, ⟨by rw [lu]; omega, by rw [pu]; rfl⟩, ⟨⟨by rw [lu]; omega, by rw [pu]; rfl⟩, rfl, trivial⟩, ⟨⟨Nat.le_refl _, rfl⟩, trivial⟩, ⟨⟨by omega, by omega⟩, rfl⟩, ⟨⟨Nat.le_refl _, rfl⟩, ⟨Nat.le_refl _, rfl⟩, trivial⟩, ⟨⟨by omega, by omega⟩, rfl⟩, rfl⟩
  · cases hy
    exact at1h
theorem C23w_ok (hrw : 1 ≤ rw ∧ rw ≤ 6) (hst : 0 ≤ st ∧ st ≤ 4) (hU : HUK rw m u) (hh : hut < m) : ConOK Tryd.prog 23 (CSw rw st c1 m cu (huL m u) hut (.tuple ⟨[I 0, I 0]⟩)) := by
  obtain ⟨u0, u1, u2, u3, u4⟩ := hU.u hut hh
  have h5 := hU.m5
  have pu := huL_part u hh
  have lu := huL_len m u
  have e : IntKind.i64.wrap ((m : Int) - 1) = (m : Int) - 1 := wrapI (by omega) (by omega)
  refine con_of vx_sound ⟨⟨[I rw, I st, I hut], [(0, c1), (m, cu)]⟩, [huL m u]⟩ (fun y hy => ?_) rfl (fun y _ => rfl) (fun y hy => ?_) rfl (Nat.le_of_ble_eq_true rfl) (by rw [nglob]; exact Nat.le_of_ble_eq_true rfl)
  · cases hy
    obtain ⟨e1, e2⟩ := los_eq (c := 2 ^ (u hut).row) (pow_lt7 (by omega))
    have l1 := e1.trans (decide_eq_false (pow_not64 (show (u hut).row < 6 by omega)))
    have l2 := e2.trans (show (2 ^ (u hut).row).testBit 6 = false by rw [Nat.testBit_two_pow, decide_eq_false (by omega)])
    rw [← one_cast (show (u hut).row ≤ 6 by omega)] at l1 l2
    refine ⟨_, (f23w rw st c1 m cu hut u _).mpr ?_⟩
    rw [e]
    exact ⟨C79w_ok (c1 := c1) hrw hst hU, rfl, tt (decide_eq_true (by omega)), ⟨⟨by omega, by omega⟩, rfl⟩, ⟨by rw [lu]; omega, by rw [pu]; rfl⟩, ⟨⟨by rw [lu]; omega, by rw [pu]; rfl⟩, rfl, trivial⟩, ⟨⟨Nat.le_refl _, rfl⟩, trivial⟩, ⟨⟨by omega, by omega⟩, rfl⟩, ⟨rfl, rfl, trivial⟩, tf l1, tf l2, rfl⟩
  · cases hy
    exact at1h
theorem loop6aw (hrw : 1 ≤ rw ∧ rw ≤ 6) (hst : 0 ≤ st ∧ st ≤ 4) (hU : HUK rw m u) (hh : hut < m) {mo : Int} {fr : Nat} (hg : ∀ i, i < 3 → g i ≤ 10) :
    LoopOW Tryd.prog none p6a T6aw (h6aw rw st c1 m cu hut 0 fr mo (u hut).fl (u hut).br (u hut).row tabC (huL m u) g 0) (.exit 0) T6aw (h6aw rw st c1 m cu hut 0 fr mo (u hut).fl (u hut).br (u hut).row tabC (huL m u) g 3) := by
  have h5 := hU.m5
  obtain ⟨u0, u1, u2, u3, u4⟩ := hU.u hut hh
  refine loop_forW (Ts := [T6aw]) (k := 10) (n := 3) (e := .exit 0) (st := fun i => (0, h6aw rw st c1 m cu hut 0 fr mo (u hut).fl (u hut).br (u hut).row tabC (huL m u) g i)) rfl vx_sound ?_ (by rw [nglob]; omega) ⟨by simp, trivial⟩ (fun i _ => cl6h) (fun i hi R hR => ?_) (fun R hR => ?_) rfl (Nat.le_of_ble_eq_true rfl) (by decide) rfl
  · intro T hT; simp only [List.mem_singleton] at hT; subst hT; rfl
  · have hw : IntKind.i64.wrap ((i : Int) + 1) = ((i + 1 : Nat) : Int) := wrapI (by omega) (by omega)
    have hgi := hg i hi
    by_cases hneg : g i < 0
    · refine ⟨T6aw, _, rfl, (b6anw rw st c1 m cu mo (u hut).fl (u hut).br hut 0 fr (u hut).row i tabC (huL m u) g R).mpr ⟨fun _ => ⟨⟨⟨by omega, by omega⟩, rfl⟩, ints_get g hi, tt (decide_eq_true hneg), ?_⟩, fun h => absurd (by omega) (of_decide_eq_false h)⟩⟩
      rw [hw]; exact hR
    · have hU2 : HUK rw m (updH u hut ⟨(u hut).fl, g i, (u hut).row⟩) := updH_ok hU ⟨u0, u1, by show 0 ≤ g i; omega, hgi, u4⟩
      have c0 := C15w_ok (c1 := c1) (cu := m) hrw hst hU2 hh
      have c0' : ConOK Tryd.prog 15 (CSw rw st c1 (0 + m) (0 + m) (huL m (updH u hut ⟨(u hut).fl, g i, (u hut).row⟩)) hut (.tuple ⟨[I 0, I 0]⟩)) := by rw [Nat.zero_add]; exact c0
      have lu := huL_len m u
      refine ⟨T6aw, _, rfl, (b6aw rw st c1 m cu mo 0 hut 0 fr i tabC u (updH u hut ⟨(u hut).fl, g i, (u hut).row⟩) g R).mpr ⟨fun _ => ⟨⟨⟨by omega, by omega⟩, rfl⟩, ints_get g hi, tf (decide_eq_false hneg), ⟨⟨⟨by omega, by rw [lu]; omega⟩, atomH⟩, by omega, rfl, by omega, by omega⟩, ⟨⟨by omega, by omega⟩, rfl⟩, rowH hh, ⟨⟨by omega, by omega⟩, rfl⟩, ⟨by rw [copyH, lu]; omega, putH hh ⟨(u hut).fl, g i, (u hut).row⟩⟩, c0', rfl, ?_⟩, fun h => absurd (by omega) (of_decide_eq_false h)⟩⟩
      rw [hw]
      exact ⟨fun _ => ⟨fun _ => hR, fun h2 => absurd (show g i ≥ ((0 : Nat) : Int) by omega) (of_decide_eq_false h2)⟩, fun h1 => by cases h1⟩
  · exact ⟨T6aw, _, rfl, (b6anw rw st c1 m cu mo (u hut).fl (u hut).br hut 0 fr (u hut).row 3 tabC (huL m u) g R).mpr ⟨fun h => absurd (of_decide_eq_true h) (by omega), fun _ => hR⟩⟩
theorem loop6bw (hrw : 1 ≤ rw ∧ rw ≤ 6) (hst : 0 ≤ st ∧ st ≤ 4) (hU : HUK rw m u) (hh : hut < m) (hg : ∀ i, i < 3 → g i ≤ 40) :
    LoopOW Tryd.prog none p6b T6bw (h6bw rw st c1 m cu hut 0 (u hut).fl (u hut).br (u hut).row tabC (huL m u) g 0) (.exit 2) T6bw (h6bw rw st c1 m cu hut 0 (u hut).fl (u hut).br (u hut).row tabC (huL m u) g 3) := by
  have h5 := hU.m5
  obtain ⟨u0, u1, u2, u3, u4⟩ := hU.u hut hh
  refine loop_forW (Ts := [T6bw]) (k := 11) (n := 3) (e := .exit 2) (st := fun i => (0, h6bw rw st c1 m cu hut 0 (u hut).fl (u hut).br (u hut).row tabC (huL m u) g i)) rfl vx_sound ?_ (by rw [nglob]; omega) ⟨by simp, trivial⟩ (fun i _ => cl6h) (fun i hi R hR => ?_) (fun R hR => ?_) rfl (Nat.le_of_ble_eq_true rfl) (by decide) rfl
  · intro T hT; simp only [List.mem_singleton] at hT; subst hT; rfl
  · have hw : IntKind.i64.wrap ((i : Int) + 1) = ((i + 1 : Nat) : Int) := wrapI (by omega) (by omega)
    have hgi := hg i hi
    by_cases hneg : g i < 0
    · refine ⟨T6bw, _, rfl, (b6bnw rw st c1 m cu (u hut).fl (u hut).br hut 0 (u hut).row i tabC (huL m u) g R).mpr ⟨fun _ => ⟨⟨⟨by omega, by omega⟩, rfl⟩, ints_get g hi, tt (decide_eq_true hneg), ?_⟩, fun h => absurd (by omega) (of_decide_eq_false h)⟩⟩
      rw [hw]; exact hR
    · have hU2 : HUK rw m (updH u hut ⟨g i, (u hut).br, (u hut).row⟩) := updH_ok hU ⟨by show 0 ≤ g i; omega, hgi, u2, u3, u4⟩
      have c0 := C14w_ok (c1 := c1) (cu := m) hrw hst hU2 hh
      have c0' : ConOK Tryd.prog 14 (CSw rw st c1 (0 + m) (0 + m) (huL m (updH u hut ⟨g i, (u hut).br, (u hut).row⟩)) hut (.tuple ⟨[I 0, I 0, I 0]⟩)) := by rw [Nat.zero_add]; exact c0
      have lu := huL_len m u
      refine ⟨T6bw, _, rfl, (b6bw rw st c1 m cu 0 0 hut 0 i tabC u (updH u hut ⟨g i, (u hut).br, (u hut).row⟩) g R).mpr ⟨fun _ => ⟨⟨⟨by omega, by omega⟩, rfl⟩, ints_get g hi, tf (decide_eq_false hneg), ⟨⟨⟨by omega, by rw [lu]; omega⟩, atomH⟩, by omega, rfl, by omega, by omega⟩, ⟨⟨by omega, by omega⟩, rfl⟩, rowH hh, ⟨⟨by omega, by omega⟩, rfl⟩, ⟨by rw [copyH, lu]; omega, putH hh ⟨g i, (u hut).br, (u hut).row⟩⟩, c0', rfl, ?_⟩, fun h => absurd (by omega) (of_decide_eq_false h)⟩⟩
      rw [hw]
      exact ⟨fun _ => ⟨fun _ => hR, fun h2 => absurd (show g i ≥ ((0 : Nat) : Int) by omega) (of_decide_eq_false h2)⟩, fun h1 => by cases h1⟩
  · exact ⟨T6bw, _, rfl, (b6bnw rw st c1 m cu (u hut).fl (u hut).br hut 0 (u hut).row 3 tabC (huL m u) g R).mpr ⟨fun h => absurd (of_decide_eq_true h) (by omega), fun _ => hR⟩⟩
end
section
variable {rw st : Int} {c1 m cu j k : Nat} {u : Nat → Raw}
theorem law6n (hj : j < 256) : ∃ hs, vx.call 6 [su_n rw st c1 m cu, .int .u8 j, .int .u8 k] (retK fun r => r = .ret (.bool true)) (mLH5 tabC (raL m u)) hs := by
  have c20 := C20n_ok (rw := rw) (st := st) (c1 := c1) (m := m) (cu := cu) (u := u)
  cases hok : okS0 rw st m u with
  | false =>
    rw [hok] at c20
    exact ⟨_, (f6In rw st c1 m cu j k tabC (raL m u) _).mpr ⟨fun _ => ⟨C11t_ok, rfl, rfl⟩, fun _ => ⟨c20, rfl, C11t_ok, rfl, rfl⟩⟩⟩
  | true =>
    rw [hok] at c20
    rcases Nat.eq_zero_or_pos m with h0 | h0
    · subst h0
      exact ⟨_, (f6Mn rw st c1 cu j k tabC (raL 0 u) _).mpr ⟨c20, rfl, C11t_ok, rfl, rfl⟩⟩
    · obtain ⟨hrw, hst, h5, hall⟩ := okS0_inv hok
      obtain ⟨hl, hU⟩ := huts_conv hrw.1 hrw.2 h5 hall
      rw [hl] at c20 ⊢
      have hh : j % m < m := Nat.mod_lt _ h0
      have hmod : (Value.int .i64 ((j % m : Nat) : Int)) = .int .i64 ((IntKind.i64.wrap ((j : Nat) : Int)).tmod (m : Int)) := by rw [hwj hj]; rfl
      have hpart := huL_part (fun i => toH (u i)) hh
      have hlen := huL_len m (fun i => toH (u i))
      have hm0 : ((m : Int) == (0 : Int)) = false := by simp only [beq_eq_false_iff_ne, ne_eq]; omega
      have la := loop6an (c1 := c1) (cu := cu) (mo := k) (fr := 0) (g := g3 0 k 4 10) hrw hst hU hh (fun i _ => g3_le (by omega) (by omega) i)
      have lb := loop6bn (c1 := c1) (cu := cu) (g := g3 0 k 9 40) hrw hst hU hh (fun i _ => g3_le (by omega) (by omega) i)
      exact ⟨_, (f6Dn rw st c1 m cu (j % m) j k tabC (fun i => toH (u i)) (g3 0 k 4 10) (g3 0 k 9 40) _).mpr ⟨fun _ => ⟨C11t_ok, rfl, rfl⟩, fun _ => ⟨c20, rfl, tf hm0, ⟨⟨by omega, rfl⟩, hmod⟩, ⟨⟨by omega, by omega⟩, rfl⟩, ⟨by rw [hlen]; omega, by rw [hpart]; rfl⟩, C23n_ok (c1 := c1) hrw hst hU hh, rfl, C24n_ok (c1 := c1) hrw hst hU hh, rfl, cl6h (g := g3 0 k 4 10), la, cl6h (g := g3 0 k 9 40), lb, C11t_ok, rfl, rfl⟩⟩⟩
theorem law6v (hj : j < 256) : ∃ hs, vx.call 6 [su_v rw st c1 m cu, .int .u8 j, .int .u8 k] (retK fun r => r = .ret (.bool true)) (mLH5 tabC (raL m u)) hs := by
  have c20 := C20v_ok (rw := rw) (st := st) (c1 := c1) (m := m) (cu := cu) (u := u)
  cases hok : okS0 rw st m u with
  | false =>
    rw [hok] at c20
    exact ⟨_, (f6Iv rw st c1 m cu j k tabC (raL m u) _).mpr ⟨fun _ => ⟨C11t_ok, rfl, rfl⟩, fun _ => ⟨c20, rfl, C11t_ok, rfl, rfl⟩⟩⟩
  | true =>
    rw [hok] at c20
    rcases Nat.eq_zero_or_pos m with h0 | h0
    · subst h0
      exact ⟨_, (f6Mv rw st c1 cu j k tabC (raL 0 u) _).mpr ⟨c20, rfl, C11t_ok, rfl, rfl⟩⟩
    · obtain ⟨hrw, hst, h5, hall⟩ := okS0_inv hok
      obtain ⟨hl, hU⟩ := huts_conv hrw.1 hrw.2 h5 hall
      rw [hl] at c20 ⊢
      have hh : j % m < m := Nat.mod_lt _ h0
      have hmod : (Value.int .i64 ((j % m : Nat) : Int)) = .int .i64 ((IntKind.i64.wrap ((j : Nat) : Int)).tmod (m : Int)) := by rw [hwj hj]; rfl
      have hpart := huL_part (fun i => toH (u i)) hh
      have hlen := huL_len m (fun i => toH (u i))
      have hm0 : ((m : Int) == (0 : Int)) = false := by simp only [beq_eq_false_iff_ne, ne_eq]; omega
      have la := loop6av (c1 := c1) (cu := cu) (mo := k) (fr := 0) (g := g3 0 k 4 10) hrw hst hU hh (fun i _ => g3_le (by omega) (by omega) i)
      have lb := loop6bv (c1 := c1) (cu := cu) (g := g3 0 k 9 40) hrw hst hU hh (fun i _ => g3_le (by omega) (by omega) i)
      exact ⟨_, (f6Dv rw st c1 m cu (j % m) j k tabC (fun i => toH (u i)) (g3 0 k 4 10) (g3 0 k 9 40) _).mpr ⟨fun _ => ⟨C11t_ok, rfl, rfl⟩, fun _ => ⟨c20, rfl, tf hm0, ⟨⟨by omega, rfl⟩, hmod⟩, ⟨⟨by omega, by omega⟩, rfl⟩, ⟨by rw [hlen]; omega, by rw [hpart]; rfl⟩, C23v_ok (c1 := c1) hrw hst hU hh, rfl, C24v_ok (c1 := c1) hrw hst hU hh, rfl, cl6h (g := g3 0 k 4 10), la, cl6h (g := g3 0 k 9 40), lb, C11t_ok, rfl, rfl⟩⟩⟩
theorem law6w (hj : j < 256) : ∃ hs, vx.call 6 [su_w rw st c1 m cu, .int .u8 j, .int .u8 k] (retK fun r => r = .ret (.bool true)) (mLH5 tabC (raL m u)) hs := by
  have c20 := C20w_ok (rw := rw) (st := st) (c1 := c1) (m := m) (cu := cu) (u := u)
  cases hok : okS0 rw st m u with
  | false =>
    rw [hok] at c20
    exact ⟨_, (f6Iw rw st c1 m cu j k tabC (raL m u) _).mpr ⟨fun _ => ⟨C11t_ok, rfl, rfl⟩, fun _ => ⟨c20, rfl, C11t_ok, rfl, rfl⟩⟩⟩
  | true =>
    rw [hok] at c20
    rcases Nat.eq_zero_or_pos m with h0 | h0
    · subst h0
      exact ⟨_, (f6Mw rw st c1 cu j k tabC (raL 0 u) _).mpr ⟨c20, rfl, C11t_ok, rfl, rfl⟩⟩
    · obtain ⟨hrw, hst, h5, hall⟩ := okS0_inv hok
      obtain ⟨hl, hU⟩ := huts_conv hrw.1 hrw.2 h5 hall
      rw [hl] at c20 ⊢
      have hh : j % m < m := Nat.mod_lt _ h0
      have hmod : (Value.int .i64 ((j % m : Nat) : Int)) = .int .i64 ((IntKind.i64.wrap ((j : Nat) : Int)).tmod (m : Int)) := by rw [hwj hj]; rfl
      have hpart := huL_part (fun i => toH (u i)) hh
      have hlen := huL_len m (fun i => toH (u i))
      have hm0 : ((m : Int) == (0 : Int)) = false := by simp only [beq_eq_false_iff_ne, ne_eq]; omega
      have la := loop6aw (c1 := c1) (cu := cu) (mo := k) (fr := 0) (g := g3 0 k 4 10) hrw hst hU hh (fun i _ => g3_le (by omega) (by omega) i)
      have lb := loop6bw (c1 := c1) (cu := cu) (g := g3 0 k 9 40) hrw hst hU hh (fun i _ => g3_le (by omega) (by omega) i)
      exact ⟨_, (f6Dw rw st c1 m cu (j % m) j k tabC (fun i => toH (u i)) (g3 0 k 4 10) (g3 0 k 9 40) _).mpr ⟨fun _ => ⟨C11t_ok, rfl, rfl⟩, fun _ => ⟨c20, rfl, tf hm0, ⟨⟨by omega, rfl⟩, hmod⟩, ⟨⟨by omega, by omega⟩, rfl⟩, ⟨by rw [hlen]; omega, by rw [hpart]; rfl⟩, C23w_ok (c1 := c1) hrw hst hU hh, rfl, C24w_ok (c1 := c1) hrw hst hU hh, rfl, cl6h (g := g3 0 k 4 10), la, cl6h (g := g3 0 k 9 40), lb, C11t_ok, rfl, rfl⟩⟩⟩
end
section
variable {rw st : Int} {n cw n2 cv m cu j k : Nat} {w v : Nat → Sp} {u : Nat → Raw}
theorem law6R (hj : j < 256) : ∃ hs, vx.call 6 [suR rw st n cw n2 cv m cu, .int .u8 j, .int .u8 k] (retK fun r => r = .ret (.bool true)) (mSu tabC (spL n w) (spL n2 v) (raL m u)) hs := by
  have c20 := C20_ok (rw := rw) (st := st) (n := n) (cw := cw) (n2 := n2) (cv := cv) (m := m) (cu := cu) (w := w) (v := v) (u := u)
  cases hok : okSu rw st n n2 m w v u with
  | false =>
    rw [hok] at c20
    exact ⟨_, (f6Ip rw st n cw n2 cv m cu j k tabC (spL n w) (spL n2 v) (raL m u) _).mpr ⟨fun _ => ⟨C11t_ok, rfl, rfl⟩, fun _ => ⟨c20, rfl, C11t_ok, rfl, rfl⟩⟩⟩
  | true =>
    rw [hok] at c20
    rcases Nat.eq_zero_or_pos m with h0 | h0
    · subst h0
      exact ⟨_, (f6Mp rw st n cw n2 cv cu j k tabC (spL n w) (spL n2 v) (raL 0 u) _).mpr ⟨fun _ => ⟨C11t_ok, rfl, rfl⟩, fun _ => ⟨c20, rfl, C11t_ok, rfl, rfl⟩⟩⟩
    · obtain ⟨e, hS, h5, hall⟩ := okSu_inv hok
      subst e
      obtain ⟨hl, hU⟩ := huts_conv hS.rw1 hS.rw6 h5 hall
      rw [hl]
      obtain ⟨r, rfl⟩ : ∃ r : Nat, rw = (r : Int) := ⟨rw.toNat, (Int.toNat_of_nonneg (by have := hS.rw1; omega)).symm⟩
      exact law6_E hS hU h0 hj
theorem law6N : ∃ hs, vx.call 6 [suN rw st n cw n2 cv, .int .u8 j, .int .u8 k] (retK fun r => r = .ret (.bool true)) (mLN5 tabC (spL n w) (spL n2 v)) hs := by
  have c20 := C20N_ok (rw := rw) (st := st) (n := n) (cw := cw) (n2 := n2) (cv := cv) (w := w) (v := v)
  cases hok : okSN rw st n n2 w v with
  | false =>
    rw [hok] at c20
    exact ⟨_, (f6IN rw st n cw n2 cv j k tabC (spL n w) (spL n2 v) _).mpr ⟨fun _ => ⟨C11t_ok, rfl, rfl⟩, fun _ => ⟨c20, rfl, C11t_ok, rfl, rfl⟩⟩⟩
  | true =>
    rw [hok] at c20
    exact ⟨_, (f6MN rw st n cw n2 cv j k tabC (spL n w) (spL n2 v) _).mpr ⟨fun _ => ⟨C11t_ok, rfl, rfl⟩, fun _ => ⟨c20, rfl, C11t_ok, rfl, rfl⟩⟩⟩
theorem l6nnN : ∃ hs, vx.call 6 [.agg ⟨[I rw, I st, nilS, nilS, nilS]⟩, .int .u8 j, .int .u8 k] (retK fun r => r = .ret (.bool true)) (mL05 tabC) hs := by
  refine ⟨_, (f6nnN rw st 0 j k tabC _).mpr ?_⟩
  repeat' (first | with_reducible apply And.intro | with_reducible intro)
  all_goals first
    | exact C11t_ok
    | exact rfl
    | trivial
    | rfl
theorem l6nvN : ∃ hs, vx.call 6 [.agg ⟨[I rw, I st, nilS, slV 3 0 cv, nilS]⟩, .int .u8 j, .int .u8 k] (retK fun r => r = .ret (.bool true)) (mL05 tabC) hs := by
  refine ⟨_, (f6nvN rw st cv j k tabC _).mpr ?_⟩
  repeat' (first | with_reducible apply And.intro | with_reducible intro)
  all_goals first
    | exact C11t_ok
    | exact rfl
    | trivial
    | rfl
theorem l6wnN : ∃ hs, vx.call 6 [.agg ⟨[I rw, I st, slV 2 0 cw, nilS, nilS]⟩, .int .u8 j, .int .u8 k] (retK fun r => r = .ret (.bool true)) (mL05 tabC) hs := by
  refine ⟨_, (f6wnN rw st cw j k tabC _).mpr ?_⟩
  repeat' (first | with_reducible apply And.intro | with_reducible intro)
  all_goals first
    | exact C11t_ok
    | exact rfl
    | trivial
    | rfl
theorem l6nkP (h : n ≠ 0) : ∃ hs, vx.call 6 [.agg ⟨[I rw, I st, nilS, slV 3 n cv, slV 4 m cu]⟩, .int .u8 j, .int .u8 k] (retK fun r => r = .ret (.bool true)) (mL05 tabC) hs := by
  refine ⟨_, (f6nkP rw st n cv m cu j k tabC _).mpr ?_⟩
  repeat' (first | with_reducible apply And.intro | with_reducible intro)
  all_goals first
    | exact C11t_ok
    | exact tt (lne (b := 0) h)
    | trivial
    | rfl
theorem l6nkN (h : n ≠ 0) : ∃ hs, vx.call 6 [.agg ⟨[I rw, I st, nilS, slV 3 n cv, nilS]⟩, .int .u8 j, .int .u8 k] (retK fun r => r = .ret (.bool true)) (mL05 tabC) hs := by
  refine ⟨_, (f6nkN rw st n cv j k tabC _).mpr ?_⟩
  repeat' (first | with_reducible apply And.intro | with_reducible intro)
  all_goals first
    | exact C11t_ok
    | exact tt (lne (b := 0) h)
    | trivial
    | rfl
theorem l6knP (h : 0 ≠ n) : ∃ hs, vx.call 6 [.agg ⟨[I rw, I st, slV 2 n cw, nilS, slV 4 m cu]⟩, .int .u8 j, .int .u8 k] (retK fun r => r = .ret (.bool true)) (mL05 tabC) hs := by
  refine ⟨_, (f6knP rw st n cw m cu j k tabC _).mpr ?_⟩
  repeat' (first | with_reducible apply And.intro | with_reducible intro)
  all_goals first
    | exact C11t_ok
    | exact tt (lne (a := 0) h)
    | trivial
    | rfl
theorem l6knN (h : 0 ≠ n) : ∃ hs, vx.call 6 [.agg ⟨[I rw, I st, slV 2 n cw, nilS, nilS]⟩, .int .u8 j, .int .u8 k] (retK fun r => r = .ret (.bool true)) (mL05 tabC) hs := by
  refine ⟨_, (f6knN rw st n cw j k tabC _).mpr ?_⟩
  repeat' (first | with_reducible apply And.intro | with_reducible intro)
  all_goals first
    | exact C11t_ok
    | exact tt (lne (a := 0) h)
    | trivial
    | rfl
end
end Go.Ab
set_option maxRecDepth 100000
namespace Go.Ab
open Go Go.RowKit Go.Proofs
section
variable {W : World}
theorem enough_args {m : NMap} {rw st j k : Int} {A B C a b c : Value} (ha : VRel m A a) (hb : VRel m B b) (hc : VRel m C c) :
    VsRel m [.agg ⟨[I rw, I st, A, B, C]⟩, .int .u8 j, .int .u8 k] [.agg ⟨[I rw, I st, a, b, c]⟩, .int .u8 j, .int .u8 k] :=
  .agg (.atom rfl (.atom rfl (VsRel.cons ha (VsRel.cons hb hc)))) (.atom rfl (.atom rfl .nil))
theorem go6 (hT : RcHolds W gl1) {rw st : Int} {j k : Nat} {A B C a b c : Value} {z2 z3 z4 : RoC} (h2 : RcHolds W z2) (h3 : RcHolds W z3) (h4 : RcHolds W z4)
    (ha : ∀ m : NMap, m 2 = some z2.1 → VRel m A a) (hb : ∀ m : NMap, m 3 = some z3.1 → VRel m B b) (hc : ∀ m : NMap, m 4 = some z4.1 → VRel m C c)
    (hr : ∃ hs, vx.call 6 [.agg ⟨[I rw, I st, A, B, C]⟩, .int .u8 j, .int .u8 k] (retK fun r => r = .ret (.bool true)) (wlM [gl0, gl1, z2, z3, z4]) hs) :
    Calls Tryd.prog 6 #[.agg #[I rw, I st, a, b, c], .int .u8 j, .int .u8 k] W fun e W' => e = .returned (.bool true) ∧ Below W.heap.size W W' := by
  refine calls_wl (l := [gl0, gl1, z2, z3, z4]) (args' := [.agg ⟨[I rw, I st, a, b, c]⟩, .int .u8 j, .int .u8 k]) (Nat.le_of_ble_eq_true rfl) (fun x hx => ?_) gl_ok (enough_args (ha _ rfl) (hb _ rfl) (hc _ rfl)) hr
  simp only [List.mem_cons, List.not_mem_nil, or_false] at hx
  rcases hx with rfl | rfl | rfl | rfl | rfl
  · exact holds_none rfl
  · exact hT
  · exact h2
  · exact h3
  · exact h4
theorem run6 (hT : RcHolds W gl1) {rw st : Int} {j k : Nat} {a b c : Value} (ha : SpsIn W a) (hb : SpsIn W b) (hc : HutsIn W c) (hj : j < 256) :
    Calls Tryd.prog 6 #[.agg #[I rw, I st, a, b, c], .int .u8 j, .int .u8 k] W fun e W' => e = .returned (.bool true) ∧ Below W.heap.size W W' := by
  have h0 : RcHolds W no0 := holds_none rfl
  have hn : ∀ F : BInfo, RcHolds W (F, none) := fun F => holds_none rfl
  rcases ha with rfl | ⟨n, w, F2, cw, hF2, ha⟩
  · rcases hb with rfl | ⟨n2, v, F3, cv, hF3, hb⟩
    · rcases hc with rfl | ⟨m, u, F4, cu, hF4, hc⟩
      · exact go6 hT (z2 := no0) (z3 := no0) (z4 := no0) h0 h0 h0 (fun _ _ => nil_rel) (fun _ _ => nil_rel) (fun _ _ => nil_rel) l6nnN
      · exact go6 hT (z2 := no0) (z3 := no0) (z4 := (F4, some (raL m u, 1))) h0 h0 hF4 (fun _ _ => nil_rel) (fun _ _ => nil_rel) (hc 4) (law6n (c1 := 0) hj)
    · by_cases e : n2 = 0
      · subst e
        rcases hc with rfl | ⟨m, u, F4, cu, hF4, hc⟩
        · exact go6 hT (z2 := no0) (z3 := (F3, none)) (z4 := no0) h0 (hn _) h0 (fun _ _ => nil_rel) (hb 3) (fun _ _ => nil_rel) l6nvN
        · exact go6 hT (z2 := no0) (z3 := (F3, none)) (z4 := (F4, some (raL m u, 1))) h0 (hn _) hF4 (fun _ _ => nil_rel) (hb 3) (hc 4) (law6v hj)
      · rcases hc with rfl | ⟨m, u, F4, cu, hF4, hc⟩
        · exact go6 hT (z2 := no0) (z3 := (F3, none)) (z4 := no0) h0 (hn _) h0 (fun _ _ => nil_rel) (hb 3) (fun _ _ => nil_rel) (l6nkN e)
        · exact go6 hT (z2 := no0) (z3 := (F3, none)) (z4 := (F4, none)) h0 (hn _) (hn _) (fun _ _ => nil_rel) (hb 3) (hc 4) (l6nkP e)
  · rcases hb with rfl | ⟨n2, v, F3, cv, hF3, hb⟩
    · by_cases e : 0 = n
      · subst e
        rcases hc with rfl | ⟨m, u, F4, cu, hF4, hc⟩
        · exact go6 hT (z2 := (F2, none)) (z3 := no0) (z4 := no0) (hn _) h0 h0 (ha 2) (fun _ _ => nil_rel) (fun _ _ => nil_rel) l6wnN
        · exact go6 hT (z2 := (F2, none)) (z3 := no0) (z4 := (F4, some (raL m u, 1))) (hn _) h0 hF4 (ha 2) (fun _ _ => nil_rel) (hc 4) (law6w hj)
      · rcases hc with rfl | ⟨m, u, F4, cu, hF4, hc⟩
        · exact go6 hT (z2 := (F2, none)) (z3 := no0) (z4 := no0) (hn _) h0 h0 (ha 2) (fun _ _ => nil_rel) (fun _ _ => nil_rel) (l6knN e)
        · exact go6 hT (z2 := (F2, none)) (z3 := no0) (z4 := (F4, none)) (hn _) h0 (hn _) (ha 2) (fun _ _ => nil_rel) (hc 4) (l6knP e)
    · rcases hc with rfl | ⟨m, u, F4, cu, hF4, hc⟩
      · exact go6 hT (z2 := (F2, some (spL n w, 1))) (z3 := (F3, some (spL n2 v, 1))) (z4 := no0) hF2 hF3 h0 (ha 2) (hb 3) (fun _ _ => nil_rel) law6N
      · exact go6 hT (z2 := (F2, some (spL n w, 1))) (z3 := (F3, some (spL n2 v, 1))) (z4 := (F4, some (raL m u, 1))) hF2 hF3 hF4 (ha 2) (hb 3) (hc 4) (law6R hj)
end
end Go.Ab
namespace Go.Ab
open Go Go.RowKit Go.Lib
theorem laidMet_tail {P : Program} {x : String × DataW Unit} {rest : List (String × DataW Unit)} {W : World} (h : laidMet P (x :: rest) W) : laidMet P rest W := by
  obtain ⟨ps, ⟨g, t, cs, fuel, p, q, hg, ht, hvar, hd, hrest, rfl⟩, hnd, hall⟩ := h
  refine ⟨q, hrest, (List.nodup_append.1 hnd).2.1, fun b off hm => hall b off (List.mem_append_right _ hm)⟩
end Go.Ab
