/- package surf: SurfEnough's loops. -/
import Derived.Test.YtoelpblmhmhglaaDoorSI
set_option maxRecDepth 100000
namespace Go.Ab
open Go Go.RowKit Go.Proofs
theorem b6aneg (rw : Nat) (st mo fl br : Int) (n cw cv m cu hut bk fr row i : Nat) (tb ws vs us : List Value) (g : Nat → Int) (R : Nat → AExit → Hw → Prop) : (vx.code none (.l p6a) (leafW [T6a] R) (T6a.inst (h6a rw st n cw cv m cu hut bk fr mo fl br row tb ws vs us g i)) ([(0, .split ((1, .val (.pointer (.some ⟨((9 : Nat)), ((0 : Nat) + i * (1 : Nat)), .none⟩))) :: (0, .val (.int .i64 (g i))) :: (2, .val (.bool true)) :: [(3, .tm 0 [])]) ([(1, .tm 0 [])]))])) =
((((decide ((↑i : Int) < (3 : Int))) = true → ((((((0 : Int) ≤ (↑i : Int))) ∧ (((↑i : Int) < (↑(3 : Nat) : Int)))) ∧ (((.pointer (.some ⟨((9 : Nat)), ((0 : Nat) + i * (1 : Nat)), .none⟩)) : Value) = (.pointer (.some ⟨((9 : Nat)), ((0 : Nat) + i * (1 : Nat)), .none⟩)))) ∧
((([Value.int .i64 (g (0 : Nat)), Value.int .i64 (g (1 : Nat)), Value.int .i64 (g (2 : Nat))][(0 : Nat) + i * (1 : Nat)]? = some (.int .i64 (g i)))) ∧
((((some (.bool (decide (g i < (0 : Int)))) : Option Value) = some (.bool true))) ∧
R 0 .normal ⟨⟨[(.int .u8 (mo)), (.int .i64 hut), (.int .i64 bk), (.int .i64 fr), (.int .i64 3), (.int .i64 (IntKind.i64.wrap ((↑i : Int) + (1 : Int)))), (.int .i64 rw), (.int .i64 st), (.int .i64 fl), (.int .i64 br), (.int .i64 row)], [⟨((3 : Nat)), ((3 : Nat))⟩, ⟨n, cw⟩, ⟨n, cv⟩, ⟨m, cu⟩]⟩, [(tb), (ws), (vs), (us), [(.int .i64 (g (0 : Nat))), (.int .i64 (g (1 : Nat))), (.int .i64 (g (2 : Nat)))]], []⟩)))) ∧
((decide ((↑i : Int) < (3 : Int))) = false → R 0 (.exit ((0 : Nat))) ⟨⟨[(.int .u8 (mo)), (.int .i64 hut), (.int .i64 bk), (.int .i64 fr), (.int .i64 3), (.int .i64 i), (.int .i64 rw), (.int .i64 st), (.int .i64 fl), (.int .i64 br), (.int .i64 row)], [⟨((3 : Nat)), ((3 : Nat))⟩, ⟨n, cw⟩, ⟨n, cv⟩, ⟨m, cu⟩]⟩, [(tb), (ws), (vs), (us), [(.int .i64 (g (0 : Nat))), (.int .i64 (g (1 : Nat))), (.int .i64 (g (2 : Nat)))]], []⟩))) := by kernel_rfl
theorem b6bneg (rw : Nat) (st fl br : Int) (n cw cv m cu hut fr row i : Nat) (tb ws vs us : List Value) (g : Nat → Int) (R : Nat → AExit → Hw → Prop) : (vx.code none (.l p6b) (leafW [T6b] R) (T6b.inst (h6b rw st n cw cv m cu hut fr fl br row tb ws vs us g i)) ([(0, .split ((1, .val (.pointer (.some ⟨((10 : Nat)), ((0 : Nat) + i * (1 : Nat)), .none⟩))) :: (0, .val (.int .i64 (g i))) :: (2, .val (.bool true)) :: [(3, .tm 0 [])]) ([(1, .tm 0 [])]))])) =
((((decide ((↑i : Int) < (3 : Int))) = true → ((((((0 : Int) ≤ (↑i : Int))) ∧ (((↑i : Int) < (↑(3 : Nat) : Int)))) ∧ (((.pointer (.some ⟨((10 : Nat)), ((0 : Nat) + i * (1 : Nat)), .none⟩)) : Value) = (.pointer (.some ⟨((10 : Nat)), ((0 : Nat) + i * (1 : Nat)), .none⟩)))) ∧
((([Value.int .i64 (g (0 : Nat)), Value.int .i64 (g (1 : Nat)), Value.int .i64 (g (2 : Nat))][(0 : Nat) + i * (1 : Nat)]? = some (.int .i64 (g i)))) ∧
((((some (.bool (decide (g i < (0 : Int)))) : Option Value) = some (.bool true))) ∧
R 0 .normal ⟨⟨[(.int .i64 hut), (.int .i64 fr), (.int .i64 3), (.int .i64 (IntKind.i64.wrap ((↑i : Int) + (1 : Int)))), (.int .i64 rw), (.int .i64 st), (.int .i64 fl), (.int .i64 br), (.int .i64 row)], [⟨((3 : Nat)), ((3 : Nat))⟩, ⟨n, cw⟩, ⟨n, cv⟩, ⟨m, cu⟩]⟩, [(tb), (ws), (vs), (us), [(.int .i64 (g (0 : Nat))), (.int .i64 (g (1 : Nat))), (.int .i64 (g (2 : Nat)))]], []⟩)))) ∧
((decide ((↑i : Int) < (3 : Int))) = false → R 0 (.exit ((2 : Nat))) ⟨⟨[(.int .i64 hut), (.int .i64 fr), (.int .i64 3), (.int .i64 i), (.int .i64 rw), (.int .i64 st), (.int .i64 fl), (.int .i64 br), (.int .i64 row)], [⟨((3 : Nat)), ((3 : Nat))⟩, ⟨n, cw⟩, ⟨n, cv⟩, ⟨m, cu⟩]⟩, [(tb), (ws), (vs), (us), [(.int .i64 (g (0 : Nat))), (.int .i64 (g (1 : Nat))), (.int .i64 (g (2 : Nat)))]], []⟩))) := by kernel_rfl
theorem b6a (rw : Nat) (st mo l : Int) (n cw cv m cu hut bk fr i : Nat) (tb : List Value) (w v : Nat → Sp) (u u2 : Nat → Hut) (g : Nat → Int) (R : Nat → AExit → Hw → Prop) : (vx.code none (.l p6a) (leafW [T6a] R) (T6a.inst (h6a rw st n cw cv m cu hut bk fr mo (u hut).fl (u hut).br (u hut).row tb (spL n w) (spL n v) (huL m u) g i)) ([(0, .split ((1, .val (.pointer (.some ⟨((9 : Nat)), ((0 : Nat) + i * (1 : Nat)), .none⟩))) :: (0, .val (.int .i64 (g i))) :: (2, .val (.bool false)) :: (22, Hint.growN) :: (10, .val (.pointer (.some ⟨((4 : Nat)), ((0 : Nat) + hut * (3 : Nat)), .none⟩))) :: (1, .val (.int .i64 ((↑(u hut).row : Int)))) :: (1, .val (.pointer (.some ⟨((16 : Nat)), ((0 : Nat) + hut * (3 : Nat)), .none⟩))) :: (0, Hint.put (huL m u2)) :: (4, Hint.con (CS1 (↑rw : Int) st n cw cv ((0 : Nat) + m) ((0 : Nat) + m) tb (spL n w) (spL n v) (huL m u2) (↑hut : Int) (Value.tuple { toList := [I l, I (0 : Int)] }))) :: [(9, .split ([(2, .split ([(5, .tm 0 [])]) ([(4, .tm 0 [])]))]) ([(2, .split ([(4, .tm 0 [])]) ([(5, .tm 0 [])]))]))]) ([(1, .tm 0 [])]))])) =
((((decide ((↑i : Int) < (3 : Int))) = true → ((((((0 : Int) ≤ (↑i : Int))) ∧ (((↑i : Int) < (↑(3 : Nat) : Int)))) ∧ (((.pointer (.some ⟨((9 : Nat)), ((0 : Nat) + i * (1 : Nat)), .none⟩)) : Value) = (.pointer (.some ⟨((9 : Nat)), ((0 : Nat) + i * (1 : Nat)), .none⟩)))) ∧
((([Value.int .i64 (g (0 : Nat)), Value.int .i64 (g (1 : Nat)), Value.int .i64 (g (2 : Nat))][(0 : Nat) + i * (1 : Nat)]? = some (.int .i64 (g i)))) ∧
((((some (.bool (decide (g i < (0 : Int)))) : Option Value) = some (.bool false))) ∧
(((((((0 : Nat) < m)) ∧ (((0 : Nat) + m * (3 : Nat) ≤ (huL m u).length))) ∧ (((List.take (m * (3 : Nat)) (List.drop (0 : Nat) (huL m u))).all one = true))) ∧ (((¬(0 : Nat) + m ≤ (0 : Nat))) ∧ ((((0 : Nat) = (0 : Nat))) ∧ (((((0 : Nat) + m) * (24 : Nat) ≤ (140737488355328 : Nat))) ∧ (((0 : Nat) + m ≤ (4611686018427387904 : Nat))))))) ∧
((((((0 : Int) ≤ (↑hut : Int))) ∧ (((↑hut : Int) < (↑m : Int)))) ∧ (((.pointer (.some ⟨((4 : Nat)), ((0 : Nat) + hut * (3 : Nat)), .none⟩)) : Value) = (.pointer (.some ⟨((4 : Nat)), ((0 : Nat) + hut * (3 : Nat)), .none⟩)))) ∧
((((huL m u)[(0 : Nat) + hut * (3 : Nat) + (2 : Nat)]? = some (.int .i64 ((↑(u hut).row : Int))))) ∧
((((((0 : Int) ≤ (↑hut : Int))) ∧ (((↑hut : Int) < (↑((0 : Nat) + m) : Int)))) ∧ (((.pointer (.some ⟨((16 : Nat)), ((0 : Nat) + hut * (3 : Nat)), .none⟩)) : Value) = (.pointer (.some ⟨((16 : Nat)), ((0 : Nat) + hut * (3 : Nat)), .none⟩)))) ∧
(((((0 : Nat) + hut * (3 : Nat) + (3 : Nat) ≤ (List.take (0 : Nat) [] ++ List.take (m * (3 : Nat)) (List.drop (0 : Nat) (huL m u))).length)) ∧ ((List.take ((0 : Nat) + hut * (3 : Nat)) (List.take (0 : Nat) [] ++ List.take (m * (3 : Nat)) (List.drop (0 : Nat) (huL m u))) ++ [Value.int .i64 (u hut).fl, Value.int .i64 (g i), Value.int .i64 (↑(u hut).row : Int)] ++ List.drop ((0 : Nat) + hut * (3 : Nat) + (3 : Nat)) (List.take (0 : Nat) [] ++ List.take (m * (3 : Nat)) (List.drop (0 : Nat) (huL m u))) = huL m u2))) ∧
((ConOK Tryd.prog ((15 : Nat)) (CS1 (↑rw : Int) st n cw cv ((0 : Nat) + m) ((0 : Nat) + m) tb (spL n w) (spL n v) (huL m u2) (↑hut : Int) (Value.tuple { toList := [I l, I (0 : Int)] }))) ∧ (Con.pre (CS1 (↑rw : Int) st n cw cv ((0 : Nat) + m) ((0 : Nat) + m) tb (spL n w) (spL n v) (huL m u2) (↑hut : Int) (Value.tuple { toList := [I l, I (0 : Int)] })) ⟨⟨[(.int .i64 rw), (.int .i64 st), (.int .i64 hut)], [⟨n, cw⟩, ⟨n, cv⟩, ⟨((0 : Nat) + m), ((0 : Nat) + m)⟩]⟩, [(tb), (spL n w), (spL n v), (huL m u2)]⟩) ∧
(((l == (0 : Int)) = true → (((decide (g i ≥ (↑bk : Int))) = true → R 0 .normal ⟨⟨[(.int .u8 (mo)), (.int .i64 hut), (.int .i64 bk), (.int .i64 fr), (.int .i64 3), (.int .i64 (IntKind.i64.wrap ((↑i : Int) + (1 : Int)))), (.int .i64 rw), (.int .i64 st), (.int .i64 ((u hut).fl)), (.int .i64 ((u hut).br)), (.int .i64 ((↑(u hut).row : Int)))], [⟨((3 : Nat)), ((3 : Nat))⟩, ⟨n, cw⟩, ⟨n, cv⟩, ⟨m, cu⟩]⟩, [(tb), (spL n w), (spL n v), (huL m u), [(.int .i64 (g (0 : Nat))), (.int .i64 (g (1 : Nat))), (.int .i64 (g (2 : Nat)))]], []⟩) ∧
((decide (g i ≥ (↑bk : Int))) = false → R 0 .ret ⟨⟨[(.int .u8 (mo)), (.int .i64 hut), (.int .i64 bk), (.int .i64 fr), (.int .i64 3), (.int .i64 i), (.int .i64 rw), (.int .i64 st), (.int .i64 ((u hut).fl)), (.int .i64 ((u hut).br)), (.int .i64 ((↑(u hut).row : Int)))], [⟨((3 : Nat)), ((3 : Nat))⟩, ⟨n, cw⟩, ⟨n, cv⟩, ⟨m, cu⟩]⟩, [(tb), (spL n w), (spL n v), (huL m u), [(.int .i64 (g (0 : Nat))), (.int .i64 (g (1 : Nat))), (.int .i64 (g (2 : Nat)))]], []⟩))) ∧
((l == (0 : Int)) = false → (((decide (g i ≥ (↑bk : Int))) = true → R 0 .ret ⟨⟨[(.int .u8 (mo)), (.int .i64 hut), (.int .i64 bk), (.int .i64 fr), (.int .i64 3), (.int .i64 i), (.int .i64 rw), (.int .i64 st), (.int .i64 ((u hut).fl)), (.int .i64 ((u hut).br)), (.int .i64 ((↑(u hut).row : Int)))], [⟨((3 : Nat)), ((3 : Nat))⟩, ⟨n, cw⟩, ⟨n, cv⟩, ⟨m, cu⟩]⟩, [(tb), (spL n w), (spL n v), (huL m u), [(.int .i64 (g (0 : Nat))), (.int .i64 (g (1 : Nat))), (.int .i64 (g (2 : Nat)))]], []⟩) ∧
((decide (g i ≥ (↑bk : Int))) = false → R 0 .normal ⟨⟨[(.int .u8 (mo)), (.int .i64 hut), (.int .i64 bk), (.int .i64 fr), (.int .i64 3), (.int .i64 (IntKind.i64.wrap ((↑i : Int) + (1 : Int)))), (.int .i64 rw), (.int .i64 st), (.int .i64 ((u hut).fl)), (.int .i64 ((u hut).br)), (.int .i64 ((↑(u hut).row : Int)))], [⟨((3 : Nat)), ((3 : Nat))⟩, ⟨n, cw⟩, ⟨n, cv⟩, ⟨m, cu⟩]⟩, [(tb), (spL n w), (spL n v), (huL m u), [(.int .i64 (g (0 : Nat))), (.int .i64 (g (1 : Nat))), (.int .i64 (g (2 : Nat)))]], []⟩)))))))))))))) ∧
((decide ((↑i : Int) < (3 : Int))) = false → R 0 (.exit ((0 : Nat))) ⟨⟨[(.int .u8 (mo)), (.int .i64 hut), (.int .i64 bk), (.int .i64 fr), (.int .i64 3), (.int .i64 i), (.int .i64 rw), (.int .i64 st), (.int .i64 ((u hut).fl)), (.int .i64 ((u hut).br)), (.int .i64 ((↑(u hut).row : Int)))], [⟨((3 : Nat)), ((3 : Nat))⟩, ⟨n, cw⟩, ⟨n, cv⟩, ⟨m, cu⟩]⟩, [(tb), (spL n w), (spL n v), (huL m u), [(.int .i64 (g (0 : Nat))), (.int .i64 (g (1 : Nat))), (.int .i64 (g (2 : Nat)))]], []⟩))) := by kernel_rfl
theorem b6b (rw : Nat) (st : Int) (n cw cv m cu hut fr x y i : Nat) (tb : List Value) (w v : Nat → Sp) (u u2 : Nat → Hut) (g : Nat → Int) (R : Nat → AExit → Hw → Prop) : (vx.code none (.l p6b) (leafW [T6b] R) (T6b.inst (h6b rw st n cw cv m cu hut fr (u hut).fl (u hut).br (u hut).row tb (spL n w) (spL n v) (huL m u) g i)) ([(0, .split ((1, .val (.pointer (.some ⟨((10 : Nat)), ((0 : Nat) + i * (1 : Nat)), .none⟩))) :: (0, .val (.int .i64 (g i))) :: (2, .val (.bool false)) :: (22, Hint.growN) :: (10, .val (.pointer (.some ⟨((4 : Nat)), ((0 : Nat) + hut * (3 : Nat)), .none⟩))) :: (1, .val (.int .i64 ((↑(u hut).row : Int)))) :: (1, .val (.pointer (.some ⟨((17 : Nat)), ((0 : Nat) + hut * (3 : Nat)), .none⟩))) :: (0, Hint.put (huL m u2)) :: (4, Hint.con (CS1 (↑rw : Int) st n cw cv ((0 : Nat) + m) ((0 : Nat) + m) tb (spL n w) (spL n v) (huL m u2) (↑hut : Int) (Value.tuple { toList := [I (↑x : Int), I (↑y : Int), I (0 : Int)] }))) :: [(11, .split ([(2, .split ([(5, .tm 0 [])]) ([(4, .tm 0 [])]))]) ([(2, .split ([(4, .tm 0 [])]) ([(5, .tm 0 [])]))]))]) ([(1, .tm 0 [])]))])) =
((((decide ((↑i : Int) < (3 : Int))) = true → ((((((0 : Int) ≤ (↑i : Int))) ∧ (((↑i : Int) < (↑(3 : Nat) : Int)))) ∧ (((.pointer (.some ⟨((10 : Nat)), ((0 : Nat) + i * (1 : Nat)), .none⟩)) : Value) = (.pointer (.some ⟨((10 : Nat)), ((0 : Nat) + i * (1 : Nat)), .none⟩)))) ∧
((([Value.int .i64 (g (0 : Nat)), Value.int .i64 (g (1 : Nat)), Value.int .i64 (g (2 : Nat))][(0 : Nat) + i * (1 : Nat)]? = some (.int .i64 (g i)))) ∧
((((some (.bool (decide (g i < (0 : Int)))) : Option Value) = some (.bool false))) ∧
(((((((0 : Nat) < m)) ∧ (((0 : Nat) + m * (3 : Nat) ≤ (huL m u).length))) ∧ (((List.take (m * (3 : Nat)) (List.drop (0 : Nat) (huL m u))).all one = true))) ∧ (((¬(0 : Nat) + m ≤ (0 : Nat))) ∧ ((((0 : Nat) = (0 : Nat))) ∧ (((((0 : Nat) + m) * (24 : Nat) ≤ (140737488355328 : Nat))) ∧ (((0 : Nat) + m ≤ (4611686018427387904 : Nat))))))) ∧
((((((0 : Int) ≤ (↑hut : Int))) ∧ (((↑hut : Int) < (↑m : Int)))) ∧ (((.pointer (.some ⟨((4 : Nat)), ((0 : Nat) + hut * (3 : Nat)), .none⟩)) : Value) = (.pointer (.some ⟨((4 : Nat)), ((0 : Nat) + hut * (3 : Nat)), .none⟩)))) ∧
((((huL m u)[(0 : Nat) + hut * (3 : Nat) + (2 : Nat)]? = some (.int .i64 ((↑(u hut).row : Int))))) ∧
((((((0 : Int) ≤ (↑hut : Int))) ∧ (((↑hut : Int) < (↑((0 : Nat) + m) : Int)))) ∧ (((.pointer (.some ⟨((17 : Nat)), ((0 : Nat) + hut * (3 : Nat)), .none⟩)) : Value) = (.pointer (.some ⟨((17 : Nat)), ((0 : Nat) + hut * (3 : Nat)), .none⟩)))) ∧
(((((0 : Nat) + hut * (3 : Nat) + (3 : Nat) ≤ (List.take (0 : Nat) [] ++ List.take (m * (3 : Nat)) (List.drop (0 : Nat) (huL m u))).length)) ∧ ((List.take ((0 : Nat) + hut * (3 : Nat)) (List.take (0 : Nat) [] ++ List.take (m * (3 : Nat)) (List.drop (0 : Nat) (huL m u))) ++ [Value.int .i64 (g i), Value.int .i64 (u hut).br, Value.int .i64 (↑(u hut).row : Int)] ++ List.drop ((0 : Nat) + hut * (3 : Nat) + (3 : Nat)) (List.take (0 : Nat) [] ++ List.take (m * (3 : Nat)) (List.drop (0 : Nat) (huL m u))) = huL m u2))) ∧
((ConOK Tryd.prog ((14 : Nat)) (CS1 (↑rw : Int) st n cw cv ((0 : Nat) + m) ((0 : Nat) + m) tb (spL n w) (spL n v) (huL m u2) (↑hut : Int) (Value.tuple { toList := [I (↑x : Int), I (↑y : Int), I (0 : Int)] }))) ∧ (Con.pre (CS1 (↑rw : Int) st n cw cv ((0 : Nat) + m) ((0 : Nat) + m) tb (spL n w) (spL n v) (huL m u2) (↑hut : Int) (Value.tuple { toList := [I (↑x : Int), I (↑y : Int), I (0 : Int)] })) ⟨⟨[(.int .i64 rw), (.int .i64 st), (.int .i64 hut)], [⟨n, cw⟩, ⟨n, cv⟩, ⟨((0 : Nat) + m), ((0 : Nat) + m)⟩]⟩, [(tb), (spL n w), (spL n v), (huL m u2)]⟩) ∧
((((↑y : Int) == (0 : Int)) = true → (((decide (g i ≥ (↑fr : Int))) = true → R 0 .normal ⟨⟨[(.int .i64 hut), (.int .i64 fr), (.int .i64 3), (.int .i64 (IntKind.i64.wrap ((↑i : Int) + (1 : Int)))), (.int .i64 rw), (.int .i64 st), (.int .i64 ((u hut).fl)), (.int .i64 ((u hut).br)), (.int .i64 ((↑(u hut).row : Int)))], [⟨((3 : Nat)), ((3 : Nat))⟩, ⟨n, cw⟩, ⟨n, cv⟩, ⟨m, cu⟩]⟩, [(tb), (spL n w), (spL n v), (huL m u), [(.int .i64 (g (0 : Nat))), (.int .i64 (g (1 : Nat))), (.int .i64 (g (2 : Nat)))]], []⟩) ∧
((decide (g i ≥ (↑fr : Int))) = false → R 0 .ret ⟨⟨[(.int .i64 hut), (.int .i64 fr), (.int .i64 3), (.int .i64 i), (.int .i64 rw), (.int .i64 st), (.int .i64 ((u hut).fl)), (.int .i64 ((u hut).br)), (.int .i64 ((↑(u hut).row : Int)))], [⟨((3 : Nat)), ((3 : Nat))⟩, ⟨n, cw⟩, ⟨n, cv⟩, ⟨m, cu⟩]⟩, [(tb), (spL n w), (spL n v), (huL m u), [(.int .i64 (g (0 : Nat))), (.int .i64 (g (1 : Nat))), (.int .i64 (g (2 : Nat)))]], []⟩))) ∧
(((↑y : Int) == (0 : Int)) = false → (((decide (g i ≥ (↑fr : Int))) = true → R 0 .ret ⟨⟨[(.int .i64 hut), (.int .i64 fr), (.int .i64 3), (.int .i64 i), (.int .i64 rw), (.int .i64 st), (.int .i64 ((u hut).fl)), (.int .i64 ((u hut).br)), (.int .i64 ((↑(u hut).row : Int)))], [⟨((3 : Nat)), ((3 : Nat))⟩, ⟨n, cw⟩, ⟨n, cv⟩, ⟨m, cu⟩]⟩, [(tb), (spL n w), (spL n v), (huL m u), [(.int .i64 (g (0 : Nat))), (.int .i64 (g (1 : Nat))), (.int .i64 (g (2 : Nat)))]], []⟩) ∧
((decide (g i ≥ (↑fr : Int))) = false → R 0 .normal ⟨⟨[(.int .i64 hut), (.int .i64 fr), (.int .i64 3), (.int .i64 (IntKind.i64.wrap ((↑i : Int) + (1 : Int)))), (.int .i64 rw), (.int .i64 st), (.int .i64 ((u hut).fl)), (.int .i64 ((u hut).br)), (.int .i64 ((↑(u hut).row : Int)))], [⟨((3 : Nat)), ((3 : Nat))⟩, ⟨n, cw⟩, ⟨n, cv⟩, ⟨m, cu⟩]⟩, [(tb), (spL n w), (spL n v), (huL m u), [(.int .i64 (g (0 : Nat))), (.int .i64 (g (1 : Nat))), (.int .i64 (g (2 : Nat)))]], []⟩)))))))))))))) ∧
((decide ((↑i : Int) < (3 : Int))) = false → R 0 (.exit ((2 : Nat))) ⟨⟨[(.int .i64 hut), (.int .i64 fr), (.int .i64 3), (.int .i64 i), (.int .i64 rw), (.int .i64 st), (.int .i64 ((u hut).fl)), (.int .i64 ((u hut).br)), (.int .i64 ((↑(u hut).row : Int)))], [⟨((3 : Nat)), ((3 : Nat))⟩, ⟨n, cw⟩, ⟨n, cv⟩, ⟨m, cu⟩]⟩, [(tb), (spL n w), (spL n v), (huL m u), [(.int .i64 (g (0 : Nat))), (.int .i64 (g (1 : Nat))), (.int .i64 (g (2 : Nat)))]], []⟩))) := by kernel_rfl
section
variable {rw : Nat} {st : Int} {n cw cv m cu hut : Nat} {w v : Nat → Sp} {u : Nat → Hut} {g : Nat → Int}
def updH (u : Nat → Hut) (hut : Nat) (x : Hut) (i : Nat) : Hut := if i = hut then x else u i
theorem updH_at {x : Hut} : updH u hut x hut = x := if_pos rfl
theorem copyH : (List.take 0 ([] : List Value) ++ List.take (m * 3) (List.drop 0 (huL m u))) = huL m u := by
  rw [List.take_zero, List.nil_append, List.drop_zero, List.take_of_length_le (by rw [huL_len]; exact Nat.le_refl _)]
theorem putH (hh : hut < m) (x : Hut) : List.take (0 + hut * 3) (List.take 0 ([] : List Value) ++ List.take (m * 3) (List.drop 0 (huL m u))) ++ [I x.fl, I x.br, I x.row] ++ List.drop (0 + hut * 3 + 3) (List.take 0 ([] : List Value) ++ List.take (m * 3) (List.drop 0 (huL m u))) = huL m (updH u hut x) := by
  rw [copyH, Nat.zero_add]
  have h := flatC_set (n := m) (k := 3) (g := fun i => huV (u i)) (fun _ _ => rfl) hh (v := huV x) rfl
  refine (show _ = _ from h).trans ?_
  refine flatC_congr fun i _ => ?_
  show (if i = hut then huV x else huV (u i)) = huV (updH u hut x i)
  unfold updH
  split <;> rfl
theorem updH_ok {rw : Int} (hU : HUK rw m u) {x : Hut} (h : 0 ≤ x.fl ∧ x.fl ≤ 40 ∧ 0 ≤ x.br ∧ x.br ≤ 10 ∧ (x.row : Int) < rw) : HUK rw m (updH u hut x) := by
  refine ⟨hU.m5, fun i hi => ?_⟩
  unfold updH
  split
  · exact h
  · exact hU.u i hi
theorem flatC_mem {n : Nat} {g : Nat → List Value} {v : Value} (h : v ∈ flatC n g) : ∃ i, i < n ∧ v ∈ g i := by
  induction n with
  | zero => cases h
  | succ n ih =>
    rw [flatC_succ, List.mem_append] at h
    rcases h with h | h
    · obtain ⟨i, hi, hv⟩ := ih h
      exact ⟨i, by omega, hv⟩
    · exact ⟨n, by omega, h⟩
theorem atomH : (List.take (m * 3) (List.drop 0 (huL m u))).all one = true := by
  rw [List.drop_zero, List.take_of_length_le (by rw [huL_len]; exact Nat.le_refl _)]
  refine List.all_eq_true.2 fun v hv => ?_
  obtain ⟨i, _, hi⟩ := flatC_mem hv
  have hi : v ∈ [I (u i).fl, I (u i).br, I (u i).row] := hi
  simp only [List.mem_cons, List.not_mem_nil, or_false] at hi
  rcases hi with rfl | rfl | rfl <;> rfl
theorem rowH (hh : hut < m) : (huL m u)[0 + hut * 3 + 2]? = some (I (u hut).row) := by
  rw [Nat.zero_add]
  have := flatC_get (n := m) (k := 3) (g := fun i => huV (u i)) (fun i _ => rfl) hh (j := 2) (by omega)
  exact this
theorem cl6 {a : List Value} {b : List (Nat × Nat)} : ClW ⟨⟨a, b⟩, [tabC, spL n w, spL n v, huL m u, ints 3 g], []⟩ := by
  refine ⟨fun cs hc => ?_, fun e hc => (by cases hc)⟩
  simp only [List.mem_cons, List.not_mem_nil, or_false] at hc
  rcases hc with rfl | rfl | rfl | rfl | rfl
  · exact tabC_at
  · exact spL_at _ _
  · exact spL_at _ _
  · exact huL_at _ _
  · exact ints_at _ _
theorem loop6a (hS : SOK rw st n w v) (hU : HUK rw m u) (hh : hut < m) {mo : Int} {fr : Nat} (hg : ∀ i, i < 3 → g i ≤ 10) :
    LoopOW Tryd.prog none p6a T6a (h6a rw st n cw cv m cu hut (brkH st w v n (u hut)) fr mo (u hut).fl (u hut).br (u hut).row tabC (spL n w) (spL n v) (huL m u) g 0) (.exit 0) T6a (h6a rw st n cw cv m cu hut (brkH st w v n (u hut)) fr mo (u hut).fl (u hut).br (u hut).row tabC (spL n w) (spL n v) (huL m u) g 3) := by
  have h8 := hS.n8
  have h6 := hS.rw6
  have h5 := hU.m5
  obtain ⟨u0, u1, u2, u3, u4⟩ := hU.u hut hh
  refine loop_forW (Ts := [T6a]) (k := 10) (n := 3) (e := .exit 0) (st := fun i => (0, h6a rw st n cw cv m cu hut (brkH st w v n (u hut)) fr mo (u hut).fl (u hut).br (u hut).row tabC (spL n w) (spL n v) (huL m u) g i)) rfl vx_sound ?_ (by rw [nglob]; omega) ⟨by simp, trivial⟩ (fun i _ => cl6) (fun i hi R hR => ?_) (fun R hR => ?_) rfl (Nat.le_of_ble_eq_true rfl) (by decide) rfl
  · intro T hT; simp only [List.mem_singleton] at hT; subst hT; rfl
  · have hw : IntKind.i64.wrap ((i : Int) + 1) = ((i + 1 : Nat) : Int) := wrapI (by omega) (by omega)
    have hgi := hg i hi
    by_cases hneg : g i < 0
    · refine ⟨T6a, _, rfl, (b6aneg rw st mo (u hut).fl (u hut).br n cw cv m cu hut (brkH st w v n (u hut)) fr (u hut).row i tabC (spL n w) (spL n v) (huL m u) g R).mpr ⟨fun _ => ⟨⟨⟨by omega, by omega⟩, rfl⟩, ints_get g hi, tt (decide_eq_true hneg), ?_⟩, fun h => absurd (by omega) (of_decide_eq_false h)⟩⟩
      rw [hw]; exact hR
    · obtain ⟨b, hb⟩ : ∃ b : Nat, g i = (b : Int) := ⟨(g i).toNat, (Int.toNat_of_nonneg (by omega)).symm⟩
      have hU2 : HUK rw m (updH u hut ⟨(u hut).fl, g i, (u hut).row⟩) := updH_ok hU ⟨u0, u1, by show 0 ≤ g i; omega, hgi, u4⟩
      have c15 := C15_ok (cw := cw) (cv := cv) (cu := m) hS hU2 hh
      have hcr : crH st w v (updH u hut ⟨(u hut).fl, g i, (u hut).row⟩ hut) n = crs st w v (u hut).fl (b : Int) (u hut).row n := by rw [updH_at, ← hb]; rfl
      have hiff := brk_iff (fl := (u hut).fl) (row := (u hut).row) hS (by omega) b (by omega)
      rw [hcr] at c15
      have c15' : ConOK Tryd.prog 15 (CS1 rw st n cw cv (0 + m) (0 + m) tabC (spL n w) (spL n v) (huL m (updH u hut ⟨(u hut).fl, g i, (u hut).row⟩)) hut (.tuple ⟨[I (losN (crs st w v (u hut).fl (b : Int) (u hut).row n) : Nat), I 0]⟩)) := by rw [Nat.zero_add]; exact c15
      have lu := huL_len m u
      refine ⟨T6a, _, rfl, (b6a rw st mo (losN (crs st w v (u hut).fl (b : Int) (u hut).row n) : Nat) n cw cv m cu hut (brkH st w v n (u hut)) fr i tabC w v u (updH u hut ⟨(u hut).fl, g i, (u hut).row⟩) g R).mpr ⟨fun _ => ⟨⟨⟨by omega, by omega⟩, rfl⟩, ints_get g hi, tf (decide_eq_false hneg), ⟨⟨⟨by omega, by rw [lu]; omega⟩, atomH⟩, by omega, rfl, by omega, by omega⟩, ⟨⟨by omega, by omega⟩, rfl⟩, rowH hh, ⟨⟨by omega, by omega⟩, rfl⟩, ⟨by rw [copyH, lu]; omega, putH hh ⟨(u hut).fl, g i, (u hut).row⟩⟩, c15', rfl, ?_⟩, fun h => absurd (by omega) (of_decide_eq_false h)⟩⟩
      have hge : (brkH st w v n (u hut) ≤ b) ↔ g i ≥ (brkH st w v n (u hut) : Nat) := by omega
      have hz : (((losN (crs st w v (u hut).fl (b : Int) (u hut).row n) : Nat) : Int) == 0) = true ↔ losN (crs st w v (u hut).fl (b : Int) (u hut).row n) = 0 := by
        simp only [beq_iff_eq]; omega
      rw [hw]
      refine ⟨fun h1 => ⟨fun h2 => hR, fun h2 => absurd (hge.1 (hiff.1 (hz.1 h1))) (of_decide_eq_false h2)⟩, fun h1 => ⟨fun h2 => ?_, fun h2 => hR⟩⟩
      have := hz.2 (hiff.2 (hge.2 (of_decide_eq_true h2)))
      rw [this] at h1; cases h1
  · exact ⟨T6a, _, rfl, (b6aneg rw st mo (u hut).fl (u hut).br n cw cv m cu hut (brkH st w v n (u hut)) fr (u hut).row 3 tabC (spL n w) (spL n v) (huL m u) g R).mpr ⟨fun h => absurd (of_decide_eq_true h) (by omega), fun _ => hR⟩⟩
theorem loop6b (hS : SOK rw st n w v) (hU : HUK rw m u) (hh : hut < m) (hg : ∀ i, i < 3 → g i ≤ 40) :
    LoopOW Tryd.prog none p6b T6b (h6b rw st n cw cv m cu hut (floH st w v n (u hut)) (u hut).fl (u hut).br (u hut).row tabC (spL n w) (spL n v) (huL m u) g 0) (.exit 2) T6b (h6b rw st n cw cv m cu hut (floH st w v n (u hut)) (u hut).fl (u hut).br (u hut).row tabC (spL n w) (spL n v) (huL m u) g 3) := by
  have h8 := hS.n8
  have h6 := hS.rw6
  have h5 := hU.m5
  obtain ⟨u0, u1, u2, u3, u4⟩ := hU.u hut hh
  refine loop_forW (Ts := [T6b]) (k := 11) (n := 3) (e := .exit 2) (st := fun i => (0, h6b rw st n cw cv m cu hut (floH st w v n (u hut)) (u hut).fl (u hut).br (u hut).row tabC (spL n w) (spL n v) (huL m u) g i)) rfl vx_sound ?_ (by rw [nglob]; omega) ⟨by simp, trivial⟩ (fun i _ => cl6) (fun i hi R hR => ?_) (fun R hR => ?_) rfl (Nat.le_of_ble_eq_true rfl) (by decide) rfl
  · intro T hT; simp only [List.mem_singleton] at hT; subst hT; rfl
  · have hw : IntKind.i64.wrap ((i : Int) + 1) = ((i + 1 : Nat) : Int) := wrapI (by omega) (by omega)
    have hgi := hg i hi
    by_cases hneg : g i < 0
    · refine ⟨T6b, _, rfl, (b6bneg rw st (u hut).fl (u hut).br n cw cv m cu hut (floH st w v n (u hut)) (u hut).row i tabC (spL n w) (spL n v) (huL m u) g R).mpr ⟨fun _ => ⟨⟨⟨by omega, by omega⟩, rfl⟩, ints_get g hi, tt (decide_eq_true hneg), ?_⟩, fun h => absurd (by omega) (of_decide_eq_false h)⟩⟩
      rw [hw]; exact hR
    · obtain ⟨b, hb⟩ : ∃ b : Nat, g i = (b : Int) := ⟨(g i).toNat, (Int.toNat_of_nonneg (by omega)).symm⟩
      have hU2 : HUK rw m (updH u hut ⟨g i, (u hut).br, (u hut).row⟩) := updH_ok hU ⟨by show 0 ≤ g i; omega, hgi, u2, u3, u4⟩
      have c14 := C14_ok (cw := cw) (cv := cv) (cu := m) hS hU2 hh
      have hcr : perH st w v n (updH u hut ⟨g i, (u hut).br, (u hut).row⟩ hut) = hrS st w v (b : Int) (u hut).br (selP 70) (u hut).row n := by rw [updH_at, ← hb]; rfl
      have hiff := flo_iff (br := (u hut).br) (row := (u hut).row) hS (by omega) b (by omega)
      rw [hcr] at c14
      have c14' : ConOK Tryd.prog 14 (CS1 rw st n cw cv (0 + m) (0 + m) tabC (spL n w) (spL n v) (huL m (updH u hut ⟨g i, (u hut).br, (u hut).row⟩)) hut (.tuple ⟨[I (surH st w v n (updH u hut ⟨g i, (u hut).br, (u hut).row⟩ hut) : Nat), I (hrS st w v (b : Int) (u hut).br (selP 70) (u hut).row n : Nat), I 0]⟩)) := by rw [Nat.zero_add]; exact c14
      have lu := huL_len m u
      refine ⟨T6b, _, rfl, (b6b rw st n cw cv m cu hut (floH st w v n (u hut)) (surH st w v n (updH u hut ⟨g i, (u hut).br, (u hut).row⟩ hut)) (hrS st w v (b : Int) (u hut).br (selP 70) (u hut).row n) i tabC w v u (updH u hut ⟨g i, (u hut).br, (u hut).row⟩) g R).mpr ⟨fun _ => ⟨⟨⟨by omega, by omega⟩, rfl⟩, ints_get g hi, tf (decide_eq_false hneg), ⟨⟨⟨by omega, by rw [lu]; omega⟩, atomH⟩, by omega, rfl, by omega, by omega⟩, ⟨⟨by omega, by omega⟩, rfl⟩, rowH hh, ⟨⟨by omega, by omega⟩, rfl⟩, ⟨by rw [copyH, lu]; omega, putH hh ⟨g i, (u hut).br, (u hut).row⟩⟩, c14', rfl, ?_⟩, fun h => absurd (by omega) (of_decide_eq_false h)⟩⟩
      have hge : (floH st w v n (u hut) ≤ b) ↔ g i ≥ (floH st w v n (u hut) : Nat) := by omega
      have hz : (((hrS st w v (b : Int) (u hut).br (selP 70) (u hut).row n : Nat) : Int) == 0) = true ↔ hrS st w v (b : Int) (u hut).br (selP 70) (u hut).row n = 0 := by
        simp only [beq_iff_eq]; omega
      rw [hw]
      refine ⟨fun h1 => ⟨fun h2 => hR, fun h2 => absurd (hge.1 (hiff.1 (hz.1 h1))) (of_decide_eq_false h2)⟩, fun h1 => ⟨fun h2 => ?_, fun h2 => hR⟩⟩
      have := hz.2 (hiff.2 (hge.2 (of_decide_eq_true h2)))
      rw [this] at h1; cases h1
  · exact ⟨T6b, _, rfl, (b6bneg rw st (u hut).fl (u hut).br n cw cv m cu hut (floH st w v n (u hut)) (u hut).row 3 tabC (spL n w) (spL n v) (huL m u) g R).mpr ⟨fun h => absurd (of_decide_eq_true h) (by omega), fun _ => hR⟩⟩
end
end Go.Ab
