/- package surf: SurfTrue's loop over hours. -/
import Derived.Test.YtoelpblmhmhglaaDoorPZ
set_option maxRecDepth 100000
namespace Go.Ab
open Go Go.RowKit Go.Proofs
theorem b30ptt (rw : Nat) (st l : Int) (n cw cv m cu hut x y fi i a : Nat) (w v : Nat → Sp) (u : Nat → Hut) (wt ro : Nat → Int) (fo : Nat → Bool) (gone : Bool) (tb : List Value) (R : Nat → AExit → Hw → Prop) : (vx.code none (.l p3o) (leafW [T3a, R3] R) (T3a.inst (h3a rw st n cw cv m cu hut x y fi l 0 tb (spL n w) (spL n v) (huL m u) wt ro fo gone i)) ((0, .val (.bool true)) :: (2, .val (.pointer (.some ⟨((11 : Nat)), ((0 : Nat) + i * (1 : Nat)), .none⟩))) :: (0, .val (.int .i64 (ro i))) :: (5, Hint.con (CS2 (↑rw : Int) st n cw cv m cu tb (spL n w) (spL n v) (huL m u) (↑hut : Int) (↑i : Int) (Value.tuple { toList := [I (↑a : Int), Value.bool true, I (0 : Int)] }))) :: (13, .val (.int .i64 ((↑a : Int) / (2 : Int) ^ rw))) :: (0, .val (.bool false)) :: (3, .val (.bool true)) :: (3, .val (.int .i64 ((↑a : Int) / (2 : Int) ^ (ro i).toNat))) :: (1, .val (.bool false)) :: (4, .val (.bool false)) :: (6, .val (.pointer (.some ⟨((12 : Nat)), ((0 : Nat) + i * (1 : Nat)), .none⟩))) :: (0, .val (.bool true)) :: (3, .val (.int .i64 ((↑y : Int) / (2 : Int) ^ i))) :: (1, .val (.bool false)) :: (3, .val (.bool false)) :: (5, .val (.pointer (.some ⟨((12 : Nat)), ((0 : Nat) + i * (1 : Nat)), .none⟩))) :: (0, .val (.bool true)) :: (10, .val (.int .i64 (IntKind.i64.wrap ((1 : Int) * (2 : Int) ^ fi)))) :: (2, .val (.bool false)) :: (3, .val (.int .i64 ((↑y : Int) / (2 : Int) ^ fi))) :: (1, .val (.bool false)) :: (5, .val (.bool false)) :: (4, Hint.loopW T3i (AExit.exit (2 : Nat)) T3i fun x_1 => h3i (↑rw : Int) st n cw cv m cu hut x y fi l (0 : Int) tb (spL n w) (spL n v) (huL m u) wt ro fo false i rw) :: [(2, .tm 0 [])])) =
(((((some (.bool (decide ((↑i : Int) < (↑n : Int)))) : Option Value) = some (.bool true))) ∧
((((((0 : Int) ≤ (↑i : Int))) ∧ (((↑i : Int) < (↑n : Int)))) ∧ (((.pointer (.some ⟨((11 : Nat)), ((0 : Nat) + i * (1 : Nat)), .none⟩)) : Value) = (.pointer (.some ⟨((11 : Nat)), ((0 : Nat) + i * (1 : Nat)), .none⟩)))) ∧
((((ints n ro)[(0 : Nat) + i * (1 : Nat)]? = some (.int .i64 (ro i)))) ∧
((ConOK Tryd.prog ((17 : Nat)) (CS2 (↑rw : Int) st n cw cv m cu tb (spL n w) (spL n v) (huL m u) (↑hut : Int) (↑i : Int) (Value.tuple { toList := [I (↑a : Int), Value.bool true, I (0 : Int)] }))) ∧ (Con.pre (CS2 (↑rw : Int) st n cw cv m cu tb (spL n w) (spL n v) (huL m u) (↑hut : Int) (↑i : Int) (Value.tuple { toList := [I (↑a : Int), Value.bool true, I (0 : Int)] })) ⟨⟨[(.int .i64 rw), (.int .i64 st), (.int .i64 hut), (.int .i64 i)], [⟨n, cw⟩, ⟨n, cv⟩, ⟨m, cu⟩]⟩, [(tb), (spL n w), (spL n v), (huL m u)]⟩) ∧
((((((0 : Int) ≤ (↑rw : Int))) ∧ (((↑rw : Int) ≤ (↑(64 : Nat) : Int)))) ∧ (((.int .i64 ((↑a : Int) / (2 : Int) ^ rw)) : Value) = (.int .i64 ((↑a : Int) / (2 : Int) ^ rw)))) ∧
((((some (.bool ((↑a : Int) / (2 : Int) ^ rw != (0 : Int))) : Option Value) = some (.bool false))) ∧
((((some (.bool (decide (ro i ≥ (0 : Int)))) : Option Value) = some (.bool true))) ∧
((((((0 : Int) ≤ ro i)) ∧ ((ro i ≤ (↑(64 : Nat) : Int)))) ∧ (((.int .i64 ((↑a : Int) / (2 : Int) ^ (ro i).toNat)) : Value) = (.int .i64 ((↑a : Int) / (2 : Int) ^ (ro i).toNat)))) ∧
((((some (.bool (bits BinOp.and IntKind.i64 ((↑a : Int) / (2 : Int) ^ (ro i).toNat) (1 : Int) == (0 : Int))) : Option Value) = some (.bool false))) ∧
((((some (.bool (decide (ro i < (0 : Int)))) : Option Value) = some (.bool false))) ∧
((((((0 : Int) ≤ (↑i : Int))) ∧ (((↑i : Int) < (↑n : Int)))) ∧ (((.pointer (.some ⟨((12 : Nat)), ((0 : Nat) + i * (1 : Nat)), .none⟩)) : Value) = (.pointer (.some ⟨((12 : Nat)), ((0 : Nat) + i * (1 : Nat)), .none⟩)))) ∧
((((boolsL n fo)[(0 : Nat) + i * (1 : Nat)]? = some (.bool true))) ∧
((((((0 : Int) ≤ (↑i : Int))) ∧ (((↑i : Int) ≤ (↑(64 : Nat) : Int)))) ∧ (((.int .i64 ((↑y : Int) / (2 : Int) ^ i)) : Value) = (.int .i64 ((↑y : Int) / (2 : Int) ^ i)))) ∧
((((some (.bool (bits BinOp.and IntKind.i64 ((↑y : Int) / (2 : Int) ^ i) (1 : Int) == (0 : Int))) : Option Value) = some (.bool false))) ∧
((((some (.bool (decide ((↑i : Int) < (↑fi : Int)))) : Option Value) = some (.bool false))) ∧
((((((0 : Int) ≤ (↑i : Int))) ∧ (((↑i : Int) < (↑n : Int)))) ∧ (((.pointer (.some ⟨((12 : Nat)), ((0 : Nat) + i * (1 : Nat)), .none⟩)) : Value) = (.pointer (.some ⟨((12 : Nat)), ((0 : Nat) + i * (1 : Nat)), .none⟩)))) ∧
((((boolsL n fo)[(0 : Nat) + i * (1 : Nat)]? = some (.bool true))) ∧
((((((0 : Int) ≤ (↑fi : Int))) ∧ (((↑fi : Int) ≤ (↑(64 : Nat) : Int)))) ∧ (((.int .i64 (IntKind.i64.wrap ((1 : Int) * (2 : Int) ^ fi))) : Value) = (.int .i64 (IntKind.i64.wrap ((1 : Int) * (2 : Int) ^ fi))))) ∧
((((some (.bool (bits BinOp.and IntKind.i64 (↑y : Int) (IntKind.i64.wrap (IntKind.i64.wrap ((1 : Int) * (2 : Int) ^ fi) - (1 : Int))) != (0 : Int))) : Option Value) = some (.bool false))) ∧
((((((0 : Int) ≤ (↑fi : Int))) ∧ (((↑fi : Int) ≤ (↑(64 : Nat) : Int)))) ∧ (((.int .i64 ((↑y : Int) / (2 : Int) ^ fi)) : Value) = (.int .i64 ((↑y : Int) / (2 : Int) ^ fi)))) ∧
((((some (.bool (bits BinOp.and IntKind.i64 ((↑y : Int) / (2 : Int) ^ fi) (1 : Int) == (0 : Int))) : Option Value) = some (.bool false))) ∧
((((some (.bool (decide (ro i < (0 : Int)))) : Option Value) = some (.bool false))) ∧
((ClW ⟨⟨[(.int .i64 hut), (.int .i64 x), (.int .i64 y), (.int .i64 l), (.int .i64 fi), (.int .i64 0), (.bool false), (.int .i64 i), (.int .i64 n), (.int .i64 i), (.int .i64 rw), (.int .i64 0), (.int .i64 rw), (.int .i64 st)], [⟨n, n⟩, ⟨n, n⟩, ⟨n, n⟩, ⟨n, cw⟩, ⟨n, cv⟩, ⟨m, cu⟩]⟩, [(tb), (spL n w), (spL n v), (huL m u), (ints n wt), (ints n ro), (boolsL n fo)], []⟩) ∧ (LoopOW Tryd.prog .none p3i (T3i) ⟨⟨[(.int .i64 hut), (.int .i64 x), (.int .i64 y), (.int .i64 l), (.int .i64 fi), (.int .i64 0), (.bool false), (.int .i64 i), (.int .i64 n), (.int .i64 i), (.int .i64 rw), (.int .i64 0), (.int .i64 rw), (.int .i64 st)], [⟨n, n⟩, ⟨n, n⟩, ⟨n, n⟩, ⟨n, cw⟩, ⟨n, cv⟩, ⟨m, cu⟩]⟩, [(tb), (spL n w), (spL n v), (huL m u), (ints n wt), (ints n ro), (boolsL n fo)], []⟩ (.exit ((2 : Nat))) (T3i) ⟨⟨[(.int .i64 hut), (.int .i64 x), (.int .i64 y), (.int .i64 l), (.int .i64 fi), (.int .i64 0), (.bool false), (.int .i64 i), (.int .i64 n), (.int .i64 i), (.int .i64 rw), (.int .i64 rw), (.int .i64 rw), (.int .i64 st)], [⟨n, n⟩, ⟨n, n⟩, ⟨n, n⟩, ⟨n, cw⟩, ⟨n, cv⟩, ⟨m, cu⟩]⟩, [(tb), (spL n w), (spL n v), (huL m u), (ints n wt), (ints n ro), (boolsL n fo)], []⟩) ∧
R 0 .normal ⟨⟨[(.int .i64 hut), (.int .i64 x), (.int .i64 y), (.int .i64 l), (.int .i64 fi), (.int .i64 0), (.bool false), (.int .i64 n), (.int .i64 (IntKind.i64.wrap ((↑i : Int) + (1 : Int)))), (.int .i64 rw), (.int .i64 st)], [⟨n, n⟩, ⟨n, n⟩, ⟨n, n⟩, ⟨n, cw⟩, ⟨n, cv⟩, ⟨m, cu⟩]⟩, [(tb), (spL n w), (spL n v), (huL m u), (ints n wt), (ints n ro), (boolsL n fo)], []⟩)))))))))))))))))))))))) := by kernel_rfl
theorem b30ptf (rw : Nat) (st l : Int) (n cw cv m cu hut x y fi i a : Nat) (w v : Nat → Sp) (u : Nat → Hut) (wt ro : Nat → Int) (fo : Nat → Bool) (gone : Bool) (tb : List Value) (R : Nat → AExit → Hw → Prop) : (vx.code none (.l p3o) (leafW [T3a, R3] R) (T3a.inst (h3a rw st n cw cv m cu hut x y fi l 0 tb (spL n w) (spL n v) (huL m u) wt ro fo gone i)) ((0, .val (.bool true)) :: (2, .val (.pointer (.some ⟨((11 : Nat)), ((0 : Nat) + i * (1 : Nat)), .none⟩))) :: (0, .val (.int .i64 (ro i))) :: (5, Hint.con (CS2 (↑rw : Int) st n cw cv m cu tb (spL n w) (spL n v) (huL m u) (↑hut : Int) (↑i : Int) (Value.tuple { toList := [I (↑a : Int), Value.bool true, I (0 : Int)] }))) :: (13, .val (.int .i64 ((↑a : Int) / (2 : Int) ^ rw))) :: (0, .val (.bool false)) :: (3, .val (.bool true)) :: (3, .val (.int .i64 ((↑a : Int) / (2 : Int) ^ (ro i).toNat))) :: (1, .val (.bool false)) :: (4, .val (.bool false)) :: (6, .val (.pointer (.some ⟨((12 : Nat)), ((0 : Nat) + i * (1 : Nat)), .none⟩))) :: (0, .val (.bool false)) :: (5, .val (.pointer (.some ⟨((12 : Nat)), ((0 : Nat) + i * (1 : Nat)), .none⟩))) :: (0, .val (.bool false)) :: (4, .val (.int .i64 ((↑x : Int) / (2 : Int) ^ i))) :: (1, .val (.bool false)) :: (8, .val (.int .i64 (IntKind.i64.wrap ((1 : Int) * (2 : Int) ^ fi)))) :: (2, .val (.bool false)) :: (3, .val (.int .i64 ((↑y : Int) / (2 : Int) ^ fi))) :: (1, .val (.bool false)) :: (5, .val (.bool false)) :: (4, Hint.loopW T3i (AExit.exit (2 : Nat)) T3i fun x_1 => h3i (↑rw : Int) st n cw cv m cu hut x y fi l (0 : Int) tb (spL n w) (spL n v) (huL m u) wt ro fo false i rw) :: [(2, .tm 0 [])])) =
(((((some (.bool (decide ((↑i : Int) < (↑n : Int)))) : Option Value) = some (.bool true))) ∧
((((((0 : Int) ≤ (↑i : Int))) ∧ (((↑i : Int) < (↑n : Int)))) ∧ (((.pointer (.some ⟨((11 : Nat)), ((0 : Nat) + i * (1 : Nat)), .none⟩)) : Value) = (.pointer (.some ⟨((11 : Nat)), ((0 : Nat) + i * (1 : Nat)), .none⟩)))) ∧
((((ints n ro)[(0 : Nat) + i * (1 : Nat)]? = some (.int .i64 (ro i)))) ∧
((ConOK Tryd.prog ((17 : Nat)) (CS2 (↑rw : Int) st n cw cv m cu tb (spL n w) (spL n v) (huL m u) (↑hut : Int) (↑i : Int) (Value.tuple { toList := [I (↑a : Int), Value.bool true, I (0 : Int)] }))) ∧ (Con.pre (CS2 (↑rw : Int) st n cw cv m cu tb (spL n w) (spL n v) (huL m u) (↑hut : Int) (↑i : Int) (Value.tuple { toList := [I (↑a : Int), Value.bool true, I (0 : Int)] })) ⟨⟨[(.int .i64 rw), (.int .i64 st), (.int .i64 hut), (.int .i64 i)], [⟨n, cw⟩, ⟨n, cv⟩, ⟨m, cu⟩]⟩, [(tb), (spL n w), (spL n v), (huL m u)]⟩) ∧
((((((0 : Int) ≤ (↑rw : Int))) ∧ (((↑rw : Int) ≤ (↑(64 : Nat) : Int)))) ∧ (((.int .i64 ((↑a : Int) / (2 : Int) ^ rw)) : Value) = (.int .i64 ((↑a : Int) / (2 : Int) ^ rw)))) ∧
((((some (.bool ((↑a : Int) / (2 : Int) ^ rw != (0 : Int))) : Option Value) = some (.bool false))) ∧
((((some (.bool (decide (ro i ≥ (0 : Int)))) : Option Value) = some (.bool true))) ∧
((((((0 : Int) ≤ ro i)) ∧ ((ro i ≤ (↑(64 : Nat) : Int)))) ∧ (((.int .i64 ((↑a : Int) / (2 : Int) ^ (ro i).toNat)) : Value) = (.int .i64 ((↑a : Int) / (2 : Int) ^ (ro i).toNat)))) ∧
((((some (.bool (bits BinOp.and IntKind.i64 ((↑a : Int) / (2 : Int) ^ (ro i).toNat) (1 : Int) == (0 : Int))) : Option Value) = some (.bool false))) ∧
((((some (.bool (decide (ro i < (0 : Int)))) : Option Value) = some (.bool false))) ∧
((((((0 : Int) ≤ (↑i : Int))) ∧ (((↑i : Int) < (↑n : Int)))) ∧ (((.pointer (.some ⟨((12 : Nat)), ((0 : Nat) + i * (1 : Nat)), .none⟩)) : Value) = (.pointer (.some ⟨((12 : Nat)), ((0 : Nat) + i * (1 : Nat)), .none⟩)))) ∧
((((boolsL n fo)[(0 : Nat) + i * (1 : Nat)]? = some (.bool false))) ∧
((((((0 : Int) ≤ (↑i : Int))) ∧ (((↑i : Int) < (↑n : Int)))) ∧ (((.pointer (.some ⟨((12 : Nat)), ((0 : Nat) + i * (1 : Nat)), .none⟩)) : Value) = (.pointer (.some ⟨((12 : Nat)), ((0 : Nat) + i * (1 : Nat)), .none⟩)))) ∧
((((boolsL n fo)[(0 : Nat) + i * (1 : Nat)]? = some (.bool false))) ∧
((((((0 : Int) ≤ (↑i : Int))) ∧ (((↑i : Int) ≤ (↑(64 : Nat) : Int)))) ∧ (((.int .i64 ((↑x : Int) / (2 : Int) ^ i)) : Value) = (.int .i64 ((↑x : Int) / (2 : Int) ^ i)))) ∧
((((some (.bool (bits BinOp.and IntKind.i64 ((↑x : Int) / (2 : Int) ^ i) (1 : Int) == (1 : Int))) : Option Value) = some (.bool false))) ∧
((((((0 : Int) ≤ (↑fi : Int))) ∧ (((↑fi : Int) ≤ (↑(64 : Nat) : Int)))) ∧ (((.int .i64 (IntKind.i64.wrap ((1 : Int) * (2 : Int) ^ fi))) : Value) = (.int .i64 (IntKind.i64.wrap ((1 : Int) * (2 : Int) ^ fi))))) ∧
((((some (.bool (bits BinOp.and IntKind.i64 (↑y : Int) (IntKind.i64.wrap (IntKind.i64.wrap ((1 : Int) * (2 : Int) ^ fi) - (1 : Int))) != (0 : Int))) : Option Value) = some (.bool false))) ∧
((((((0 : Int) ≤ (↑fi : Int))) ∧ (((↑fi : Int) ≤ (↑(64 : Nat) : Int)))) ∧ (((.int .i64 ((↑y : Int) / (2 : Int) ^ fi)) : Value) = (.int .i64 ((↑y : Int) / (2 : Int) ^ fi)))) ∧
((((some (.bool (bits BinOp.and IntKind.i64 ((↑y : Int) / (2 : Int) ^ fi) (1 : Int) == (0 : Int))) : Option Value) = some (.bool false))) ∧
((((some (.bool (decide (ro i < (0 : Int)))) : Option Value) = some (.bool false))) ∧
((ClW ⟨⟨[(.int .i64 hut), (.int .i64 x), (.int .i64 y), (.int .i64 l), (.int .i64 fi), (.int .i64 0), (.bool false), (.int .i64 i), (.int .i64 n), (.int .i64 i), (.int .i64 rw), (.int .i64 0), (.int .i64 rw), (.int .i64 st)], [⟨n, n⟩, ⟨n, n⟩, ⟨n, n⟩, ⟨n, cw⟩, ⟨n, cv⟩, ⟨m, cu⟩]⟩, [(tb), (spL n w), (spL n v), (huL m u), (ints n wt), (ints n ro), (boolsL n fo)], []⟩) ∧ (LoopOW Tryd.prog .none p3i (T3i) ⟨⟨[(.int .i64 hut), (.int .i64 x), (.int .i64 y), (.int .i64 l), (.int .i64 fi), (.int .i64 0), (.bool false), (.int .i64 i), (.int .i64 n), (.int .i64 i), (.int .i64 rw), (.int .i64 0), (.int .i64 rw), (.int .i64 st)], [⟨n, n⟩, ⟨n, n⟩, ⟨n, n⟩, ⟨n, cw⟩, ⟨n, cv⟩, ⟨m, cu⟩]⟩, [(tb), (spL n w), (spL n v), (huL m u), (ints n wt), (ints n ro), (boolsL n fo)], []⟩ (.exit ((2 : Nat))) (T3i) ⟨⟨[(.int .i64 hut), (.int .i64 x), (.int .i64 y), (.int .i64 l), (.int .i64 fi), (.int .i64 0), (.bool false), (.int .i64 i), (.int .i64 n), (.int .i64 i), (.int .i64 rw), (.int .i64 rw), (.int .i64 rw), (.int .i64 st)], [⟨n, n⟩, ⟨n, n⟩, ⟨n, n⟩, ⟨n, cw⟩, ⟨n, cv⟩, ⟨m, cu⟩]⟩, [(tb), (spL n w), (spL n v), (huL m u), (ints n wt), (ints n ro), (boolsL n fo)], []⟩) ∧
R 0 .normal ⟨⟨[(.int .i64 hut), (.int .i64 x), (.int .i64 y), (.int .i64 l), (.int .i64 fi), (.int .i64 0), (.bool false), (.int .i64 n), (.int .i64 (IntKind.i64.wrap ((↑i : Int) + (1 : Int)))), (.int .i64 rw), (.int .i64 st)], [⟨n, n⟩, ⟨n, n⟩, ⟨n, n⟩, ⟨n, cw⟩, ⟨n, cv⟩, ⟨m, cu⟩]⟩, [(tb), (spL n w), (spL n v), (huL m u), (ints n wt), (ints n ro), (boolsL n fo)], []⟩))))))))))))))))))))))) := by kernel_rfl
theorem b30pft (rw : Nat) (st l : Int) (n cw cv m cu hut x y fi i a : Nat) (w v : Nat → Sp) (u : Nat → Hut) (wt ro : Nat → Int) (fo : Nat → Bool) (gone : Bool) (tb : List Value) (R : Nat → AExit → Hw → Prop) : (vx.code none (.l p3o) (leafW [T3a, R3] R) (T3a.inst (h3a rw st n cw cv m cu hut x y fi l 0 tb (spL n w) (spL n v) (huL m u) wt ro fo gone i)) ((0, .val (.bool true)) :: (2, .val (.pointer (.some ⟨((11 : Nat)), ((0 : Nat) + i * (1 : Nat)), .none⟩))) :: (0, .val (.int .i64 (ro i))) :: (5, Hint.con (CS2 (↑rw : Int) st n cw cv m cu tb (spL n w) (spL n v) (huL m u) (↑hut : Int) (↑i : Int) (Value.tuple { toList := [I (↑a : Int), Value.bool false, I (0 : Int)] }))) :: (13, .val (.int .i64 ((↑a : Int) / (2 : Int) ^ rw))) :: (0, .val (.bool false)) :: (3, .val (.bool true)) :: (3, .val (.int .i64 ((↑a : Int) / (2 : Int) ^ (ro i).toNat))) :: (1, .val (.bool false)) :: (4, .val (.bool false)) :: (6, .val (.pointer (.some ⟨((12 : Nat)), ((0 : Nat) + i * (1 : Nat)), .none⟩))) :: (0, .val (.bool true)) :: (3, .val (.int .i64 ((↑y : Int) / (2 : Int) ^ i))) :: (1, .val (.bool false)) :: (3, .val (.bool false)) :: (5, .val (.pointer (.some ⟨((12 : Nat)), ((0 : Nat) + i * (1 : Nat)), .none⟩))) :: (0, .val (.bool true)) :: (10, .val (.int .i64 (IntKind.i64.wrap ((1 : Int) * (2 : Int) ^ fi)))) :: (2, .val (.bool false)) :: (3, .val (.int .i64 ((↑y : Int) / (2 : Int) ^ fi))) :: (1, .val (.bool false)) :: (5, .val (.bool false)) :: (4, Hint.loopW T3i (AExit.exit (2 : Nat)) T3i fun x_1 => h3i (↑rw : Int) st n cw cv m cu hut x y fi l (0 : Int) tb (spL n w) (spL n v) (huL m u) wt ro fo false i rw) :: [(2, .tm 0 [])])) =
(((((some (.bool (decide ((↑i : Int) < (↑n : Int)))) : Option Value) = some (.bool true))) ∧
((((((0 : Int) ≤ (↑i : Int))) ∧ (((↑i : Int) < (↑n : Int)))) ∧ (((.pointer (.some ⟨((11 : Nat)), ((0 : Nat) + i * (1 : Nat)), .none⟩)) : Value) = (.pointer (.some ⟨((11 : Nat)), ((0 : Nat) + i * (1 : Nat)), .none⟩)))) ∧
((((ints n ro)[(0 : Nat) + i * (1 : Nat)]? = some (.int .i64 (ro i)))) ∧
((ConOK Tryd.prog ((17 : Nat)) (CS2 (↑rw : Int) st n cw cv m cu tb (spL n w) (spL n v) (huL m u) (↑hut : Int) (↑i : Int) (Value.tuple { toList := [I (↑a : Int), Value.bool false, I (0 : Int)] }))) ∧ (Con.pre (CS2 (↑rw : Int) st n cw cv m cu tb (spL n w) (spL n v) (huL m u) (↑hut : Int) (↑i : Int) (Value.tuple { toList := [I (↑a : Int), Value.bool false, I (0 : Int)] })) ⟨⟨[(.int .i64 rw), (.int .i64 st), (.int .i64 hut), (.int .i64 i)], [⟨n, cw⟩, ⟨n, cv⟩, ⟨m, cu⟩]⟩, [(tb), (spL n w), (spL n v), (huL m u)]⟩) ∧
((((((0 : Int) ≤ (↑rw : Int))) ∧ (((↑rw : Int) ≤ (↑(64 : Nat) : Int)))) ∧ (((.int .i64 ((↑a : Int) / (2 : Int) ^ rw)) : Value) = (.int .i64 ((↑a : Int) / (2 : Int) ^ rw)))) ∧
((((some (.bool ((↑a : Int) / (2 : Int) ^ rw != (0 : Int))) : Option Value) = some (.bool false))) ∧
((((some (.bool (decide (ro i ≥ (0 : Int)))) : Option Value) = some (.bool true))) ∧
((((((0 : Int) ≤ ro i)) ∧ ((ro i ≤ (↑(64 : Nat) : Int)))) ∧ (((.int .i64 ((↑a : Int) / (2 : Int) ^ (ro i).toNat)) : Value) = (.int .i64 ((↑a : Int) / (2 : Int) ^ (ro i).toNat)))) ∧
((((some (.bool (bits BinOp.and IntKind.i64 ((↑a : Int) / (2 : Int) ^ (ro i).toNat) (1 : Int) == (0 : Int))) : Option Value) = some (.bool false))) ∧
((((some (.bool (decide (ro i < (0 : Int)))) : Option Value) = some (.bool false))) ∧
((((((0 : Int) ≤ (↑i : Int))) ∧ (((↑i : Int) < (↑n : Int)))) ∧ (((.pointer (.some ⟨((12 : Nat)), ((0 : Nat) + i * (1 : Nat)), .none⟩)) : Value) = (.pointer (.some ⟨((12 : Nat)), ((0 : Nat) + i * (1 : Nat)), .none⟩)))) ∧
((((boolsL n fo)[(0 : Nat) + i * (1 : Nat)]? = some (.bool true))) ∧
((((((0 : Int) ≤ (↑i : Int))) ∧ (((↑i : Int) ≤ (↑(64 : Nat) : Int)))) ∧ (((.int .i64 ((↑y : Int) / (2 : Int) ^ i)) : Value) = (.int .i64 ((↑y : Int) / (2 : Int) ^ i)))) ∧
((((some (.bool (bits BinOp.and IntKind.i64 ((↑y : Int) / (2 : Int) ^ i) (1 : Int) == (0 : Int))) : Option Value) = some (.bool false))) ∧
((((some (.bool (decide ((↑i : Int) < (↑fi : Int)))) : Option Value) = some (.bool false))) ∧
((((((0 : Int) ≤ (↑i : Int))) ∧ (((↑i : Int) < (↑n : Int)))) ∧ (((.pointer (.some ⟨((12 : Nat)), ((0 : Nat) + i * (1 : Nat)), .none⟩)) : Value) = (.pointer (.some ⟨((12 : Nat)), ((0 : Nat) + i * (1 : Nat)), .none⟩)))) ∧
((((boolsL n fo)[(0 : Nat) + i * (1 : Nat)]? = some (.bool true))) ∧
((((((0 : Int) ≤ (↑fi : Int))) ∧ (((↑fi : Int) ≤ (↑(64 : Nat) : Int)))) ∧ (((.int .i64 (IntKind.i64.wrap ((1 : Int) * (2 : Int) ^ fi))) : Value) = (.int .i64 (IntKind.i64.wrap ((1 : Int) * (2 : Int) ^ fi))))) ∧
((((some (.bool (bits BinOp.and IntKind.i64 (↑y : Int) (IntKind.i64.wrap (IntKind.i64.wrap ((1 : Int) * (2 : Int) ^ fi) - (1 : Int))) != (0 : Int))) : Option Value) = some (.bool false))) ∧
((((((0 : Int) ≤ (↑fi : Int))) ∧ (((↑fi : Int) ≤ (↑(64 : Nat) : Int)))) ∧ (((.int .i64 ((↑y : Int) / (2 : Int) ^ fi)) : Value) = (.int .i64 ((↑y : Int) / (2 : Int) ^ fi)))) ∧
((((some (.bool (bits BinOp.and IntKind.i64 ((↑y : Int) / (2 : Int) ^ fi) (1 : Int) == (0 : Int))) : Option Value) = some (.bool false))) ∧
((((some (.bool (decide (ro i < (0 : Int)))) : Option Value) = some (.bool false))) ∧
((ClW ⟨⟨[(.int .i64 hut), (.int .i64 x), (.int .i64 y), (.int .i64 l), (.int .i64 fi), (.int .i64 0), (.bool false), (.int .i64 i), (.int .i64 n), (.int .i64 i), (.int .i64 rw), (.int .i64 0), (.int .i64 rw), (.int .i64 st)], [⟨n, n⟩, ⟨n, n⟩, ⟨n, n⟩, ⟨n, cw⟩, ⟨n, cv⟩, ⟨m, cu⟩]⟩, [(tb), (spL n w), (spL n v), (huL m u), (ints n wt), (ints n ro), (boolsL n fo)], []⟩) ∧ (LoopOW Tryd.prog .none p3i (T3i) ⟨⟨[(.int .i64 hut), (.int .i64 x), (.int .i64 y), (.int .i64 l), (.int .i64 fi), (.int .i64 0), (.bool false), (.int .i64 i), (.int .i64 n), (.int .i64 i), (.int .i64 rw), (.int .i64 0), (.int .i64 rw), (.int .i64 st)], [⟨n, n⟩, ⟨n, n⟩, ⟨n, n⟩, ⟨n, cw⟩, ⟨n, cv⟩, ⟨m, cu⟩]⟩, [(tb), (spL n w), (spL n v), (huL m u), (ints n wt), (ints n ro), (boolsL n fo)], []⟩ (.exit ((2 : Nat))) (T3i) ⟨⟨[(.int .i64 hut), (.int .i64 x), (.int .i64 y), (.int .i64 l), (.int .i64 fi), (.int .i64 0), (.bool false), (.int .i64 i), (.int .i64 n), (.int .i64 i), (.int .i64 rw), (.int .i64 rw), (.int .i64 rw), (.int .i64 st)], [⟨n, n⟩, ⟨n, n⟩, ⟨n, n⟩, ⟨n, cw⟩, ⟨n, cv⟩, ⟨m, cu⟩]⟩, [(tb), (spL n w), (spL n v), (huL m u), (ints n wt), (ints n ro), (boolsL n fo)], []⟩) ∧
R 0 .normal ⟨⟨[(.int .i64 hut), (.int .i64 x), (.int .i64 y), (.int .i64 l), (.int .i64 fi), (.int .i64 0), (.bool false), (.int .i64 n), (.int .i64 (IntKind.i64.wrap ((↑i : Int) + (1 : Int)))), (.int .i64 rw), (.int .i64 st)], [⟨n, n⟩, ⟨n, n⟩, ⟨n, n⟩, ⟨n, cw⟩, ⟨n, cv⟩, ⟨m, cu⟩]⟩, [(tb), (spL n w), (spL n v), (huL m u), (ints n wt), (ints n ro), (boolsL n fo)], []⟩)))))))))))))))))))))))) := by kernel_rfl
theorem b30pff (rw : Nat) (st l : Int) (n cw cv m cu hut x y fi i a : Nat) (w v : Nat → Sp) (u : Nat → Hut) (wt ro : Nat → Int) (fo : Nat → Bool) (gone : Bool) (tb : List Value) (R : Nat → AExit → Hw → Prop) : (vx.code none (.l p3o) (leafW [T3a, R3] R) (T3a.inst (h3a rw st n cw cv m cu hut x y fi l 0 tb (spL n w) (spL n v) (huL m u) wt ro fo gone i)) ((0, .val (.bool true)) :: (2, .val (.pointer (.some ⟨((11 : Nat)), ((0 : Nat) + i * (1 : Nat)), .none⟩))) :: (0, .val (.int .i64 (ro i))) :: (5, Hint.con (CS2 (↑rw : Int) st n cw cv m cu tb (spL n w) (spL n v) (huL m u) (↑hut : Int) (↑i : Int) (Value.tuple { toList := [I (↑a : Int), Value.bool false, I (0 : Int)] }))) :: (13, .val (.int .i64 ((↑a : Int) / (2 : Int) ^ rw))) :: (0, .val (.bool false)) :: (3, .val (.bool true)) :: (3, .val (.int .i64 ((↑a : Int) / (2 : Int) ^ (ro i).toNat))) :: (1, .val (.bool false)) :: (4, .val (.bool false)) :: (6, .val (.pointer (.some ⟨((12 : Nat)), ((0 : Nat) + i * (1 : Nat)), .none⟩))) :: (0, .val (.bool false)) :: (5, .val (.pointer (.some ⟨((12 : Nat)), ((0 : Nat) + i * (1 : Nat)), .none⟩))) :: (0, .val (.bool false)) :: (4, .val (.int .i64 ((↑x : Int) / (2 : Int) ^ i))) :: (1, .val (.bool false)) :: (8, .val (.int .i64 (IntKind.i64.wrap ((1 : Int) * (2 : Int) ^ fi)))) :: (2, .val (.bool false)) :: (3, .val (.int .i64 ((↑y : Int) / (2 : Int) ^ fi))) :: (1, .val (.bool false)) :: (5, .val (.bool false)) :: (4, Hint.loopW T3i (AExit.exit (2 : Nat)) T3i fun x_1 => h3i (↑rw : Int) st n cw cv m cu hut x y fi l (0 : Int) tb (spL n w) (spL n v) (huL m u) wt ro fo false i rw) :: [(2, .tm 0 [])])) =
(((((some (.bool (decide ((↑i : Int) < (↑n : Int)))) : Option Value) = some (.bool true))) ∧
((((((0 : Int) ≤ (↑i : Int))) ∧ (((↑i : Int) < (↑n : Int)))) ∧ (((.pointer (.some ⟨((11 : Nat)), ((0 : Nat) + i * (1 : Nat)), .none⟩)) : Value) = (.pointer (.some ⟨((11 : Nat)), ((0 : Nat) + i * (1 : Nat)), .none⟩)))) ∧
((((ints n ro)[(0 : Nat) + i * (1 : Nat)]? = some (.int .i64 (ro i)))) ∧
((ConOK Tryd.prog ((17 : Nat)) (CS2 (↑rw : Int) st n cw cv m cu tb (spL n w) (spL n v) (huL m u) (↑hut : Int) (↑i : Int) (Value.tuple { toList := [I (↑a : Int), Value.bool false, I (0 : Int)] }))) ∧ (Con.pre (CS2 (↑rw : Int) st n cw cv m cu tb (spL n w) (spL n v) (huL m u) (↑hut : Int) (↑i : Int) (Value.tuple { toList := [I (↑a : Int), Value.bool false, I (0 : Int)] })) ⟨⟨[(.int .i64 rw), (.int .i64 st), (.int .i64 hut), (.int .i64 i)], [⟨n, cw⟩, ⟨n, cv⟩, ⟨m, cu⟩]⟩, [(tb), (spL n w), (spL n v), (huL m u)]⟩) ∧
((((((0 : Int) ≤ (↑rw : Int))) ∧ (((↑rw : Int) ≤ (↑(64 : Nat) : Int)))) ∧ (((.int .i64 ((↑a : Int) / (2 : Int) ^ rw)) : Value) = (.int .i64 ((↑a : Int) / (2 : Int) ^ rw)))) ∧
((((some (.bool ((↑a : Int) / (2 : Int) ^ rw != (0 : Int))) : Option Value) = some (.bool false))) ∧
((((some (.bool (decide (ro i ≥ (0 : Int)))) : Option Value) = some (.bool true))) ∧
((((((0 : Int) ≤ ro i)) ∧ ((ro i ≤ (↑(64 : Nat) : Int)))) ∧ (((.int .i64 ((↑a : Int) / (2 : Int) ^ (ro i).toNat)) : Value) = (.int .i64 ((↑a : Int) / (2 : Int) ^ (ro i).toNat)))) ∧
((((some (.bool (bits BinOp.and IntKind.i64 ((↑a : Int) / (2 : Int) ^ (ro i).toNat) (1 : Int) == (0 : Int))) : Option Value) = some (.bool false))) ∧
((((some (.bool (decide (ro i < (0 : Int)))) : Option Value) = some (.bool false))) ∧
((((((0 : Int) ≤ (↑i : Int))) ∧ (((↑i : Int) < (↑n : Int)))) ∧ (((.pointer (.some ⟨((12 : Nat)), ((0 : Nat) + i * (1 : Nat)), .none⟩)) : Value) = (.pointer (.some ⟨((12 : Nat)), ((0 : Nat) + i * (1 : Nat)), .none⟩)))) ∧
((((boolsL n fo)[(0 : Nat) + i * (1 : Nat)]? = some (.bool false))) ∧
((((((0 : Int) ≤ (↑i : Int))) ∧ (((↑i : Int) < (↑n : Int)))) ∧ (((.pointer (.some ⟨((12 : Nat)), ((0 : Nat) + i * (1 : Nat)), .none⟩)) : Value) = (.pointer (.some ⟨((12 : Nat)), ((0 : Nat) + i * (1 : Nat)), .none⟩)))) ∧
((((boolsL n fo)[(0 : Nat) + i * (1 : Nat)]? = some (.bool false))) ∧
((((((0 : Int) ≤ (↑i : Int))) ∧ (((↑i : Int) ≤ (↑(64 : Nat) : Int)))) ∧ (((.int .i64 ((↑x : Int) / (2 : Int) ^ i)) : Value) = (.int .i64 ((↑x : Int) / (2 : Int) ^ i)))) ∧
((((some (.bool (bits BinOp.and IntKind.i64 ((↑x : Int) / (2 : Int) ^ i) (1 : Int) == (1 : Int))) : Option Value) = some (.bool false))) ∧
((((((0 : Int) ≤ (↑fi : Int))) ∧ (((↑fi : Int) ≤ (↑(64 : Nat) : Int)))) ∧ (((.int .i64 (IntKind.i64.wrap ((1 : Int) * (2 : Int) ^ fi))) : Value) = (.int .i64 (IntKind.i64.wrap ((1 : Int) * (2 : Int) ^ fi))))) ∧
((((some (.bool (bits BinOp.and IntKind.i64 (↑y : Int) (IntKind.i64.wrap (IntKind.i64.wrap ((1 : Int) * (2 : Int) ^ fi) - (1 : Int))) != (0 : Int))) : Option Value) = some (.bool false))) ∧
((((((0 : Int) ≤ (↑fi : Int))) ∧ (((↑fi : Int) ≤ (↑(64 : Nat) : Int)))) ∧ (((.int .i64 ((↑y : Int) / (2 : Int) ^ fi)) : Value) = (.int .i64 ((↑y : Int) / (2 : Int) ^ fi)))) ∧
((((some (.bool (bits BinOp.and IntKind.i64 ((↑y : Int) / (2 : Int) ^ fi) (1 : Int) == (0 : Int))) : Option Value) = some (.bool false))) ∧
((((some (.bool (decide (ro i < (0 : Int)))) : Option Value) = some (.bool false))) ∧
((ClW ⟨⟨[(.int .i64 hut), (.int .i64 x), (.int .i64 y), (.int .i64 l), (.int .i64 fi), (.int .i64 0), (.bool false), (.int .i64 i), (.int .i64 n), (.int .i64 i), (.int .i64 rw), (.int .i64 0), (.int .i64 rw), (.int .i64 st)], [⟨n, n⟩, ⟨n, n⟩, ⟨n, n⟩, ⟨n, cw⟩, ⟨n, cv⟩, ⟨m, cu⟩]⟩, [(tb), (spL n w), (spL n v), (huL m u), (ints n wt), (ints n ro), (boolsL n fo)], []⟩) ∧ (LoopOW Tryd.prog .none p3i (T3i) ⟨⟨[(.int .i64 hut), (.int .i64 x), (.int .i64 y), (.int .i64 l), (.int .i64 fi), (.int .i64 0), (.bool false), (.int .i64 i), (.int .i64 n), (.int .i64 i), (.int .i64 rw), (.int .i64 0), (.int .i64 rw), (.int .i64 st)], [⟨n, n⟩, ⟨n, n⟩, ⟨n, n⟩, ⟨n, cw⟩, ⟨n, cv⟩, ⟨m, cu⟩]⟩, [(tb), (spL n w), (spL n v), (huL m u), (ints n wt), (ints n ro), (boolsL n fo)], []⟩ (.exit ((2 : Nat))) (T3i) ⟨⟨[(.int .i64 hut), (.int .i64 x), (.int .i64 y), (.int .i64 l), (.int .i64 fi), (.int .i64 0), (.bool false), (.int .i64 i), (.int .i64 n), (.int .i64 i), (.int .i64 rw), (.int .i64 rw), (.int .i64 rw), (.int .i64 st)], [⟨n, n⟩, ⟨n, n⟩, ⟨n, n⟩, ⟨n, cw⟩, ⟨n, cv⟩, ⟨m, cu⟩]⟩, [(tb), (spL n w), (spL n v), (huL m u), (ints n wt), (ints n ro), (boolsL n fo)], []⟩) ∧
R 0 .normal ⟨⟨[(.int .i64 hut), (.int .i64 x), (.int .i64 y), (.int .i64 l), (.int .i64 fi), (.int .i64 0), (.bool false), (.int .i64 n), (.int .i64 (IntKind.i64.wrap ((↑i : Int) + (1 : Int)))), (.int .i64 rw), (.int .i64 st)], [⟨n, n⟩, ⟨n, n⟩, ⟨n, n⟩, ⟨n, cw⟩, ⟨n, cv⟩, ⟨m, cu⟩]⟩, [(tb), (spL n w), (spL n v), (huL m u), (ints n wt), (ints n ro), (boolsL n fo)], []⟩))))))))))))))))))))))) := by kernel_rfl
theorem b30ntt (rw : Nat) (st l : Int) (n cw cv m cu hut x y fi i a : Nat) (w v : Nat → Sp) (u : Nat → Hut) (wt ro : Nat → Int) (fo : Nat → Bool) (gone : Bool) (tb : List Value) (R : Nat → AExit → Hw → Prop) : (vx.code none (.l p3o) (leafW [T3a, R3] R) (T3a.inst (h3a rw st n cw cv m cu hut x y fi l 0 tb (spL n w) (spL n v) (huL m u) wt ro fo gone i)) ((0, .val (.bool true)) :: (2, .val (.pointer (.some ⟨((11 : Nat)), ((0 : Nat) + i * (1 : Nat)), .none⟩))) :: (0, .val (.int .i64 (ro i))) :: (5, Hint.con (CS2 (↑rw : Int) st n cw cv m cu tb (spL n w) (spL n v) (huL m u) (↑hut : Int) (↑i : Int) (Value.tuple { toList := [I (↑a : Int), Value.bool true, I (0 : Int)] }))) :: (13, .val (.int .i64 ((↑a : Int) / (2 : Int) ^ rw))) :: (0, .val (.bool false)) :: (3, .val (.bool false)) :: (5, .val (.bool true)) :: (8, .val (.pointer (.some ⟨((12 : Nat)), ((0 : Nat) + i * (1 : Nat)), .none⟩))) :: (0, .val (.bool true)) :: (3, .val (.int .i64 ((↑y : Int) / (2 : Int) ^ i))) :: (1, .val (.bool false)) :: (3, .val (.bool false)) :: (5, .val (.pointer (.some ⟨((12 : Nat)), ((0 : Nat) + i * (1 : Nat)), .none⟩))) :: (0, .val (.bool true)) :: (10, .val (.int .i64 (IntKind.i64.wrap ((1 : Int) * (2 : Int) ^ fi)))) :: (2, .val (.bool false)) :: (3, .val (.int .i64 ((↑y : Int) / (2 : Int) ^ fi))) :: (1, .val (.bool false)) :: (5, .val (.bool true)) :: (4, Hint.loopW T3i (AExit.exit (2 : Nat)) T3i fun x_1 => h3i (↑rw : Int) st n cw cv m cu hut x y fi l (0 : Int) tb (spL n w) (spL n v) (huL m u) wt ro fo true i rw) :: [(2, .tm 0 [])])) =
(((((some (.bool (decide ((↑i : Int) < (↑n : Int)))) : Option Value) = some (.bool true))) ∧
((((((0 : Int) ≤ (↑i : Int))) ∧ (((↑i : Int) < (↑n : Int)))) ∧ (((.pointer (.some ⟨((11 : Nat)), ((0 : Nat) + i * (1 : Nat)), .none⟩)) : Value) = (.pointer (.some ⟨((11 : Nat)), ((0 : Nat) + i * (1 : Nat)), .none⟩)))) ∧
((((ints n ro)[(0 : Nat) + i * (1 : Nat)]? = some (.int .i64 (ro i)))) ∧
((ConOK Tryd.prog ((17 : Nat)) (CS2 (↑rw : Int) st n cw cv m cu tb (spL n w) (spL n v) (huL m u) (↑hut : Int) (↑i : Int) (Value.tuple { toList := [I (↑a : Int), Value.bool true, I (0 : Int)] }))) ∧ (Con.pre (CS2 (↑rw : Int) st n cw cv m cu tb (spL n w) (spL n v) (huL m u) (↑hut : Int) (↑i : Int) (Value.tuple { toList := [I (↑a : Int), Value.bool true, I (0 : Int)] })) ⟨⟨[(.int .i64 rw), (.int .i64 st), (.int .i64 hut), (.int .i64 i)], [⟨n, cw⟩, ⟨n, cv⟩, ⟨m, cu⟩]⟩, [(tb), (spL n w), (spL n v), (huL m u)]⟩) ∧
((((((0 : Int) ≤ (↑rw : Int))) ∧ (((↑rw : Int) ≤ (↑(64 : Nat) : Int)))) ∧ (((.int .i64 ((↑a : Int) / (2 : Int) ^ rw)) : Value) = (.int .i64 ((↑a : Int) / (2 : Int) ^ rw)))) ∧
((((some (.bool ((↑a : Int) / (2 : Int) ^ rw != (0 : Int))) : Option Value) = some (.bool false))) ∧
((((some (.bool (decide (ro i ≥ (0 : Int)))) : Option Value) = some (.bool false))) ∧
((((some (.bool (decide (ro i < (0 : Int)))) : Option Value) = some (.bool true))) ∧
((((((0 : Int) ≤ (↑i : Int))) ∧ (((↑i : Int) < (↑n : Int)))) ∧ (((.pointer (.some ⟨((12 : Nat)), ((0 : Nat) + i * (1 : Nat)), .none⟩)) : Value) = (.pointer (.some ⟨((12 : Nat)), ((0 : Nat) + i * (1 : Nat)), .none⟩)))) ∧
((((boolsL n fo)[(0 : Nat) + i * (1 : Nat)]? = some (.bool true))) ∧
((((((0 : Int) ≤ (↑i : Int))) ∧ (((↑i : Int) ≤ (↑(64 : Nat) : Int)))) ∧ (((.int .i64 ((↑y : Int) / (2 : Int) ^ i)) : Value) = (.int .i64 ((↑y : Int) / (2 : Int) ^ i)))) ∧
((((some (.bool (bits BinOp.and IntKind.i64 ((↑y : Int) / (2 : Int) ^ i) (1 : Int) == (0 : Int))) : Option Value) = some (.bool false))) ∧
((((some (.bool (decide ((↑i : Int) < (↑fi : Int)))) : Option Value) = some (.bool false))) ∧
((((((0 : Int) ≤ (↑i : Int))) ∧ (((↑i : Int) < (↑n : Int)))) ∧ (((.pointer (.some ⟨((12 : Nat)), ((0 : Nat) + i * (1 : Nat)), .none⟩)) : Value) = (.pointer (.some ⟨((12 : Nat)), ((0 : Nat) + i * (1 : Nat)), .none⟩)))) ∧
((((boolsL n fo)[(0 : Nat) + i * (1 : Nat)]? = some (.bool true))) ∧
((((((0 : Int) ≤ (↑fi : Int))) ∧ (((↑fi : Int) ≤ (↑(64 : Nat) : Int)))) ∧ (((.int .i64 (IntKind.i64.wrap ((1 : Int) * (2 : Int) ^ fi))) : Value) = (.int .i64 (IntKind.i64.wrap ((1 : Int) * (2 : Int) ^ fi))))) ∧
((((some (.bool (bits BinOp.and IntKind.i64 (↑y : Int) (IntKind.i64.wrap (IntKind.i64.wrap ((1 : Int) * (2 : Int) ^ fi) - (1 : Int))) != (0 : Int))) : Option Value) = some (.bool false))) ∧
((((((0 : Int) ≤ (↑fi : Int))) ∧ (((↑fi : Int) ≤ (↑(64 : Nat) : Int)))) ∧ (((.int .i64 ((↑y : Int) / (2 : Int) ^ fi)) : Value) = (.int .i64 ((↑y : Int) / (2 : Int) ^ fi)))) ∧
((((some (.bool (bits BinOp.and IntKind.i64 ((↑y : Int) / (2 : Int) ^ fi) (1 : Int) == (0 : Int))) : Option Value) = some (.bool false))) ∧
((((some (.bool (decide (ro i < (0 : Int)))) : Option Value) = some (.bool true))) ∧
((ClW ⟨⟨[(.int .i64 hut), (.int .i64 x), (.int .i64 y), (.int .i64 l), (.int .i64 fi), (.int .i64 0), (.bool true), (.int .i64 i), (.int .i64 n), (.int .i64 i), (.int .i64 rw), (.int .i64 0), (.int .i64 rw), (.int .i64 st)], [⟨n, n⟩, ⟨n, n⟩, ⟨n, n⟩, ⟨n, cw⟩, ⟨n, cv⟩, ⟨m, cu⟩]⟩, [(tb), (spL n w), (spL n v), (huL m u), (ints n wt), (ints n ro), (boolsL n fo)], []⟩) ∧ (LoopOW Tryd.prog .none p3i (T3i) ⟨⟨[(.int .i64 hut), (.int .i64 x), (.int .i64 y), (.int .i64 l), (.int .i64 fi), (.int .i64 0), (.bool true), (.int .i64 i), (.int .i64 n), (.int .i64 i), (.int .i64 rw), (.int .i64 0), (.int .i64 rw), (.int .i64 st)], [⟨n, n⟩, ⟨n, n⟩, ⟨n, n⟩, ⟨n, cw⟩, ⟨n, cv⟩, ⟨m, cu⟩]⟩, [(tb), (spL n w), (spL n v), (huL m u), (ints n wt), (ints n ro), (boolsL n fo)], []⟩ (.exit ((2 : Nat))) (T3i) ⟨⟨[(.int .i64 hut), (.int .i64 x), (.int .i64 y), (.int .i64 l), (.int .i64 fi), (.int .i64 0), (.bool true), (.int .i64 i), (.int .i64 n), (.int .i64 i), (.int .i64 rw), (.int .i64 rw), (.int .i64 rw), (.int .i64 st)], [⟨n, n⟩, ⟨n, n⟩, ⟨n, n⟩, ⟨n, cw⟩, ⟨n, cv⟩, ⟨m, cu⟩]⟩, [(tb), (spL n w), (spL n v), (huL m u), (ints n wt), (ints n ro), (boolsL n fo)], []⟩) ∧
R 0 .normal ⟨⟨[(.int .i64 hut), (.int .i64 x), (.int .i64 y), (.int .i64 l), (.int .i64 fi), (.int .i64 0), (.bool true), (.int .i64 n), (.int .i64 (IntKind.i64.wrap ((↑i : Int) + (1 : Int)))), (.int .i64 rw), (.int .i64 st)], [⟨n, n⟩, ⟨n, n⟩, ⟨n, n⟩, ⟨n, cw⟩, ⟨n, cv⟩, ⟨m, cu⟩]⟩, [(tb), (spL n w), (spL n v), (huL m u), (ints n wt), (ints n ro), (boolsL n fo)], []⟩)))))))))))))))))))))) := by kernel_rfl
theorem b30ntf (rw : Nat) (st l : Int) (n cw cv m cu hut x y fi i a : Nat) (w v : Nat → Sp) (u : Nat → Hut) (wt ro : Nat → Int) (fo : Nat → Bool) (gone : Bool) (tb : List Value) (R : Nat → AExit → Hw → Prop) : (vx.code none (.l p3o) (leafW [T3a, R3] R) (T3a.inst (h3a rw st n cw cv m cu hut x y fi l 0 tb (spL n w) (spL n v) (huL m u) wt ro fo gone i)) ((0, .val (.bool true)) :: (2, .val (.pointer (.some ⟨((11 : Nat)), ((0 : Nat) + i * (1 : Nat)), .none⟩))) :: (0, .val (.int .i64 (ro i))) :: (5, Hint.con (CS2 (↑rw : Int) st n cw cv m cu tb (spL n w) (spL n v) (huL m u) (↑hut : Int) (↑i : Int) (Value.tuple { toList := [I (↑a : Int), Value.bool true, I (0 : Int)] }))) :: (13, .val (.int .i64 ((↑a : Int) / (2 : Int) ^ rw))) :: (0, .val (.bool false)) :: (3, .val (.bool false)) :: (5, .val (.bool true)) :: (8, .val (.pointer (.some ⟨((12 : Nat)), ((0 : Nat) + i * (1 : Nat)), .none⟩))) :: (0, .val (.bool false)) :: (5, .val (.pointer (.some ⟨((12 : Nat)), ((0 : Nat) + i * (1 : Nat)), .none⟩))) :: (0, .val (.bool false)) :: (4, .val (.int .i64 ((↑x : Int) / (2 : Int) ^ i))) :: (1, .val (.bool false)) :: (8, .val (.int .i64 (IntKind.i64.wrap ((1 : Int) * (2 : Int) ^ fi)))) :: (2, .val (.bool false)) :: (3, .val (.int .i64 ((↑y : Int) / (2 : Int) ^ fi))) :: (1, .val (.bool false)) :: (5, .val (.bool true)) :: (4, Hint.loopW T3i (AExit.exit (2 : Nat)) T3i fun x_1 => h3i (↑rw : Int) st n cw cv m cu hut x y fi l (0 : Int) tb (spL n w) (spL n v) (huL m u) wt ro fo true i rw) :: [(2, .tm 0 [])])) =
(((((some (.bool (decide ((↑i : Int) < (↑n : Int)))) : Option Value) = some (.bool true))) ∧
((((((0 : Int) ≤ (↑i : Int))) ∧ (((↑i : Int) < (↑n : Int)))) ∧ (((.pointer (.some ⟨((11 : Nat)), ((0 : Nat) + i * (1 : Nat)), .none⟩)) : Value) = (.pointer (.some ⟨((11 : Nat)), ((0 : Nat) + i * (1 : Nat)), .none⟩)))) ∧
((((ints n ro)[(0 : Nat) + i * (1 : Nat)]? = some (.int .i64 (ro i)))) ∧
((ConOK Tryd.prog ((17 : Nat)) (CS2 (↑rw : Int) st n cw cv m cu tb (spL n w) (spL n v) (huL m u) (↑hut : Int) (↑i : Int) (Value.tuple { toList := [I (↑a : Int), Value.bool true, I (0 : Int)] }))) ∧ (Con.pre (CS2 (↑rw : Int) st n cw cv m cu tb (spL n w) (spL n v) (huL m u) (↑hut : Int) (↑i : Int) (Value.tuple { toList := [I (↑a : Int), Value.bool true, I (0 : Int)] })) ⟨⟨[(.int .i64 rw), (.int .i64 st), (.int .i64 hut), (.int .i64 i)], [⟨n, cw⟩, ⟨n, cv⟩, ⟨m, cu⟩]⟩, [(tb), (spL n w), (spL n v), (huL m u)]⟩) ∧
((((((0 : Int) ≤ (↑rw : Int))) ∧ (((↑rw : Int) ≤ (↑(64 : Nat) : Int)))) ∧ (((.int .i64 ((↑a : Int) / (2 : Int) ^ rw)) : Value) = (.int .i64 ((↑a : Int) / (2 : Int) ^ rw)))) ∧
((((some (.bool ((↑a : Int) / (2 : Int) ^ rw != (0 : Int))) : Option Value) = some (.bool false))) ∧
((((some (.bool (decide (ro i ≥ (0 : Int)))) : Option Value) = some (.bool false))) ∧
((((some (.bool (decide (ro i < (0 : Int)))) : Option Value) = some (.bool true))) ∧
((((((0 : Int) ≤ (↑i : Int))) ∧ (((↑i : Int) < (↑n : Int)))) ∧ (((.pointer (.some ⟨((12 : Nat)), ((0 : Nat) + i * (1 : Nat)), .none⟩)) : Value) = (.pointer (.some ⟨((12 : Nat)), ((0 : Nat) + i * (1 : Nat)), .none⟩)))) ∧
((((boolsL n fo)[(0 : Nat) + i * (1 : Nat)]? = some (.bool false))) ∧
((((((0 : Int) ≤ (↑i : Int))) ∧ (((↑i : Int) < (↑n : Int)))) ∧ (((.pointer (.some ⟨((12 : Nat)), ((0 : Nat) + i * (1 : Nat)), .none⟩)) : Value) = (.pointer (.some ⟨((12 : Nat)), ((0 : Nat) + i * (1 : Nat)), .none⟩)))) ∧
((((boolsL n fo)[(0 : Nat) + i * (1 : Nat)]? = some (.bool false))) ∧
((((((0 : Int) ≤ (↑i : Int))) ∧ (((↑i : Int) ≤ (↑(64 : Nat) : Int)))) ∧ (((.int .i64 ((↑x : Int) / (2 : Int) ^ i)) : Value) = (.int .i64 ((↑x : Int) / (2 : Int) ^ i)))) ∧
((((some (.bool (bits BinOp.and IntKind.i64 ((↑x : Int) / (2 : Int) ^ i) (1 : Int) == (1 : Int))) : Option Value) = some (.bool false))) ∧
((((((0 : Int) ≤ (↑fi : Int))) ∧ (((↑fi : Int) ≤ (↑(64 : Nat) : Int)))) ∧ (((.int .i64 (IntKind.i64.wrap ((1 : Int) * (2 : Int) ^ fi))) : Value) = (.int .i64 (IntKind.i64.wrap ((1 : Int) * (2 : Int) ^ fi))))) ∧
((((some (.bool (bits BinOp.and IntKind.i64 (↑y : Int) (IntKind.i64.wrap (IntKind.i64.wrap ((1 : Int) * (2 : Int) ^ fi) - (1 : Int))) != (0 : Int))) : Option Value) = some (.bool false))) ∧
((((((0 : Int) ≤ (↑fi : Int))) ∧ (((↑fi : Int) ≤ (↑(64 : Nat) : Int)))) ∧ (((.int .i64 ((↑y : Int) / (2 : Int) ^ fi)) : Value) = (.int .i64 ((↑y : Int) / (2 : Int) ^ fi)))) ∧
((((some (.bool (bits BinOp.and IntKind.i64 ((↑y : Int) / (2 : Int) ^ fi) (1 : Int) == (0 : Int))) : Option Value) = some (.bool false))) ∧
((((some (.bool (decide (ro i < (0 : Int)))) : Option Value) = some (.bool true))) ∧
((ClW ⟨⟨[(.int .i64 hut), (.int .i64 x), (.int .i64 y), (.int .i64 l), (.int .i64 fi), (.int .i64 0), (.bool true), (.int .i64 i), (.int .i64 n), (.int .i64 i), (.int .i64 rw), (.int .i64 0), (.int .i64 rw), (.int .i64 st)], [⟨n, n⟩, ⟨n, n⟩, ⟨n, n⟩, ⟨n, cw⟩, ⟨n, cv⟩, ⟨m, cu⟩]⟩, [(tb), (spL n w), (spL n v), (huL m u), (ints n wt), (ints n ro), (boolsL n fo)], []⟩) ∧ (LoopOW Tryd.prog .none p3i (T3i) ⟨⟨[(.int .i64 hut), (.int .i64 x), (.int .i64 y), (.int .i64 l), (.int .i64 fi), (.int .i64 0), (.bool true), (.int .i64 i), (.int .i64 n), (.int .i64 i), (.int .i64 rw), (.int .i64 0), (.int .i64 rw), (.int .i64 st)], [⟨n, n⟩, ⟨n, n⟩, ⟨n, n⟩, ⟨n, cw⟩, ⟨n, cv⟩, ⟨m, cu⟩]⟩, [(tb), (spL n w), (spL n v), (huL m u), (ints n wt), (ints n ro), (boolsL n fo)], []⟩ (.exit ((2 : Nat))) (T3i) ⟨⟨[(.int .i64 hut), (.int .i64 x), (.int .i64 y), (.int .i64 l), (.int .i64 fi), (.int .i64 0), (.bool true), (.int .i64 i), (.int .i64 n), (.int .i64 i), (.int .i64 rw), (.int .i64 rw), (.int .i64 rw), (.int .i64 st)], [⟨n, n⟩, ⟨n, n⟩, ⟨n, n⟩, ⟨n, cw⟩, ⟨n, cv⟩, ⟨m, cu⟩]⟩, [(tb), (spL n w), (spL n v), (huL m u), (ints n wt), (ints n ro), (boolsL n fo)], []⟩) ∧
R 0 .normal ⟨⟨[(.int .i64 hut), (.int .i64 x), (.int .i64 y), (.int .i64 l), (.int .i64 fi), (.int .i64 0), (.bool true), (.int .i64 n), (.int .i64 (IntKind.i64.wrap ((↑i : Int) + (1 : Int)))), (.int .i64 rw), (.int .i64 st)], [⟨n, n⟩, ⟨n, n⟩, ⟨n, n⟩, ⟨n, cw⟩, ⟨n, cv⟩, ⟨m, cu⟩]⟩, [(tb), (spL n w), (spL n v), (huL m u), (ints n wt), (ints n ro), (boolsL n fo)], []⟩))))))))))))))))))))) := by kernel_rfl
theorem b34ptf (rw : Nat) (st l : Int) (n cw cv m cu hut x y fi i a : Nat) (w v : Nat → Sp) (u : Nat → Hut) (wt ro : Nat → Int) (fo : Nat → Bool) (gone : Bool) (tb : List Value) (R : Nat → AExit → Hw → Prop) : (vx.code none (.l p3o) (leafW [T3a, R3] R) (T3a.inst (h3a rw st n cw cv m cu hut x y fi l 4 tb (spL n w) (spL n v) (huL m u) wt ro fo gone i)) ((0, .val (.bool true)) :: (2, .val (.pointer (.some ⟨((11 : Nat)), ((0 : Nat) + i * (1 : Nat)), .none⟩))) :: (0, .val (.int .i64 (ro i))) :: (5, Hint.con (CS2 (↑rw : Int) st n cw cv m cu tb (spL n w) (spL n v) (huL m u) (↑hut : Int) (↑i : Int) (Value.tuple { toList := [I (↑a : Int), Value.bool true, I (0 : Int)] }))) :: (13, .val (.int .i64 ((↑a : Int) / (2 : Int) ^ rw))) :: (0, .val (.bool false)) :: (3, .val (.bool true)) :: (3, .val (.int .i64 ((↑a : Int) / (2 : Int) ^ (ro i).toNat))) :: (1, .val (.bool false)) :: (4, .val (.bool false)) :: (6, .val (.pointer (.some ⟨((12 : Nat)), ((0 : Nat) + i * (1 : Nat)), .none⟩))) :: (0, .val (.bool false)) :: (5, .val (.pointer (.some ⟨((12 : Nat)), ((0 : Nat) + i * (1 : Nat)), .none⟩))) :: (0, .val (.bool false)) :: (4, .val (.int .i64 ((↑x : Int) / (2 : Int) ^ i))) :: (1, .val (.bool false)) :: (10, .val (.bool false)) :: (4, Hint.loopW T3i (AExit.exit (2 : Nat)) T3i fun x_1 => h3i (↑rw : Int) st n cw cv m cu hut x y fi l (4 : Int) tb (spL n w) (spL n v) (huL m u) wt ro fo false i rw) :: [(2, .tm 0 [])])) =
(((((some (.bool (decide ((↑i : Int) < (↑n : Int)))) : Option Value) = some (.bool true))) ∧
((((((0 : Int) ≤ (↑i : Int))) ∧ (((↑i : Int) < (↑n : Int)))) ∧ (((.pointer (.some ⟨((11 : Nat)), ((0 : Nat) + i * (1 : Nat)), .none⟩)) : Value) = (.pointer (.some ⟨((11 : Nat)), ((0 : Nat) + i * (1 : Nat)), .none⟩)))) ∧
((((ints n ro)[(0 : Nat) + i * (1 : Nat)]? = some (.int .i64 (ro i)))) ∧
((ConOK Tryd.prog ((17 : Nat)) (CS2 (↑rw : Int) st n cw cv m cu tb (spL n w) (spL n v) (huL m u) (↑hut : Int) (↑i : Int) (Value.tuple { toList := [I (↑a : Int), Value.bool true, I (0 : Int)] }))) ∧ (Con.pre (CS2 (↑rw : Int) st n cw cv m cu tb (spL n w) (spL n v) (huL m u) (↑hut : Int) (↑i : Int) (Value.tuple { toList := [I (↑a : Int), Value.bool true, I (0 : Int)] })) ⟨⟨[(.int .i64 rw), (.int .i64 st), (.int .i64 hut), (.int .i64 i)], [⟨n, cw⟩, ⟨n, cv⟩, ⟨m, cu⟩]⟩, [(tb), (spL n w), (spL n v), (huL m u)]⟩) ∧
((((((0 : Int) ≤ (↑rw : Int))) ∧ (((↑rw : Int) ≤ (↑(64 : Nat) : Int)))) ∧ (((.int .i64 ((↑a : Int) / (2 : Int) ^ rw)) : Value) = (.int .i64 ((↑a : Int) / (2 : Int) ^ rw)))) ∧
((((some (.bool ((↑a : Int) / (2 : Int) ^ rw != (0 : Int))) : Option Value) = some (.bool false))) ∧
((((some (.bool (decide (ro i ≥ (0 : Int)))) : Option Value) = some (.bool true))) ∧
((((((0 : Int) ≤ ro i)) ∧ ((ro i ≤ (↑(64 : Nat) : Int)))) ∧ (((.int .i64 ((↑a : Int) / (2 : Int) ^ (ro i).toNat)) : Value) = (.int .i64 ((↑a : Int) / (2 : Int) ^ (ro i).toNat)))) ∧
((((some (.bool (bits BinOp.and IntKind.i64 ((↑a : Int) / (2 : Int) ^ (ro i).toNat) (1 : Int) == (0 : Int))) : Option Value) = some (.bool false))) ∧
((((some (.bool (decide (ro i < (0 : Int)))) : Option Value) = some (.bool false))) ∧
((((((0 : Int) ≤ (↑i : Int))) ∧ (((↑i : Int) < (↑n : Int)))) ∧ (((.pointer (.some ⟨((12 : Nat)), ((0 : Nat) + i * (1 : Nat)), .none⟩)) : Value) = (.pointer (.some ⟨((12 : Nat)), ((0 : Nat) + i * (1 : Nat)), .none⟩)))) ∧
((((boolsL n fo)[(0 : Nat) + i * (1 : Nat)]? = some (.bool false))) ∧
((((((0 : Int) ≤ (↑i : Int))) ∧ (((↑i : Int) < (↑n : Int)))) ∧ (((.pointer (.some ⟨((12 : Nat)), ((0 : Nat) + i * (1 : Nat)), .none⟩)) : Value) = (.pointer (.some ⟨((12 : Nat)), ((0 : Nat) + i * (1 : Nat)), .none⟩)))) ∧
((((boolsL n fo)[(0 : Nat) + i * (1 : Nat)]? = some (.bool false))) ∧
((((((0 : Int) ≤ (↑i : Int))) ∧ (((↑i : Int) ≤ (↑(64 : Nat) : Int)))) ∧ (((.int .i64 ((↑x : Int) / (2 : Int) ^ i)) : Value) = (.int .i64 ((↑x : Int) / (2 : Int) ^ i)))) ∧
((((some (.bool (bits BinOp.and IntKind.i64 ((↑x : Int) / (2 : Int) ^ i) (1 : Int) == (1 : Int))) : Option Value) = some (.bool false))) ∧
((((some (.bool (decide (ro i < (0 : Int)))) : Option Value) = some (.bool false))) ∧
((ClW ⟨⟨[(.int .i64 hut), (.int .i64 x), (.int .i64 y), (.int .i64 l), (.int .i64 fi), (.int .i64 4), (.bool false), (.int .i64 i), (.int .i64 n), (.int .i64 i), (.int .i64 rw), (.int .i64 0), (.int .i64 rw), (.int .i64 st)], [⟨n, n⟩, ⟨n, n⟩, ⟨n, n⟩, ⟨n, cw⟩, ⟨n, cv⟩, ⟨m, cu⟩]⟩, [(tb), (spL n w), (spL n v), (huL m u), (ints n wt), (ints n ro), (boolsL n fo)], []⟩) ∧ (LoopOW Tryd.prog .none p3i (T3i) ⟨⟨[(.int .i64 hut), (.int .i64 x), (.int .i64 y), (.int .i64 l), (.int .i64 fi), (.int .i64 4), (.bool false), (.int .i64 i), (.int .i64 n), (.int .i64 i), (.int .i64 rw), (.int .i64 0), (.int .i64 rw), (.int .i64 st)], [⟨n, n⟩, ⟨n, n⟩, ⟨n, n⟩, ⟨n, cw⟩, ⟨n, cv⟩, ⟨m, cu⟩]⟩, [(tb), (spL n w), (spL n v), (huL m u), (ints n wt), (ints n ro), (boolsL n fo)], []⟩ (.exit ((2 : Nat))) (T3i) ⟨⟨[(.int .i64 hut), (.int .i64 x), (.int .i64 y), (.int .i64 l), (.int .i64 fi), (.int .i64 4), (.bool false), (.int .i64 i), (.int .i64 n), (.int .i64 i), (.int .i64 rw), (.int .i64 rw), (.int .i64 rw), (.int .i64 st)], [⟨n, n⟩, ⟨n, n⟩, ⟨n, n⟩, ⟨n, cw⟩, ⟨n, cv⟩, ⟨m, cu⟩]⟩, [(tb), (spL n w), (spL n v), (huL m u), (ints n wt), (ints n ro), (boolsL n fo)], []⟩) ∧
R 0 .normal ⟨⟨[(.int .i64 hut), (.int .i64 x), (.int .i64 y), (.int .i64 l), (.int .i64 fi), (.int .i64 4), (.bool false), (.int .i64 n), (.int .i64 (IntKind.i64.wrap ((↑i : Int) + (1 : Int)))), (.int .i64 rw), (.int .i64 st)], [⟨n, n⟩, ⟨n, n⟩, ⟨n, n⟩, ⟨n, cw⟩, ⟨n, cv⟩, ⟨m, cu⟩]⟩, [(tb), (spL n w), (spL n v), (huL m u), (ints n wt), (ints n ro), (boolsL n fo)], []⟩))))))))))))))))))) := by kernel_rfl
theorem b34pff (rw : Nat) (st l : Int) (n cw cv m cu hut x y fi i a : Nat) (w v : Nat → Sp) (u : Nat → Hut) (wt ro : Nat → Int) (fo : Nat → Bool) (gone : Bool) (tb : List Value) (R : Nat → AExit → Hw → Prop) : (vx.code none (.l p3o) (leafW [T3a, R3] R) (T3a.inst (h3a rw st n cw cv m cu hut x y fi l 4 tb (spL n w) (spL n v) (huL m u) wt ro fo gone i)) ((0, .val (.bool true)) :: (2, .val (.pointer (.some ⟨((11 : Nat)), ((0 : Nat) + i * (1 : Nat)), .none⟩))) :: (0, .val (.int .i64 (ro i))) :: (5, Hint.con (CS2 (↑rw : Int) st n cw cv m cu tb (spL n w) (spL n v) (huL m u) (↑hut : Int) (↑i : Int) (Value.tuple { toList := [I (↑a : Int), Value.bool false, I (0 : Int)] }))) :: (13, .val (.int .i64 ((↑a : Int) / (2 : Int) ^ rw))) :: (0, .val (.bool false)) :: (3, .val (.bool true)) :: (3, .val (.int .i64 ((↑a : Int) / (2 : Int) ^ (ro i).toNat))) :: (1, .val (.bool false)) :: (4, .val (.bool false)) :: (6, .val (.pointer (.some ⟨((12 : Nat)), ((0 : Nat) + i * (1 : Nat)), .none⟩))) :: (0, .val (.bool false)) :: (5, .val (.pointer (.some ⟨((12 : Nat)), ((0 : Nat) + i * (1 : Nat)), .none⟩))) :: (0, .val (.bool false)) :: (4, .val (.int .i64 ((↑x : Int) / (2 : Int) ^ i))) :: (1, .val (.bool false)) :: (10, .val (.bool false)) :: (4, Hint.loopW T3i (AExit.exit (2 : Nat)) T3i fun x_1 => h3i (↑rw : Int) st n cw cv m cu hut x y fi l (4 : Int) tb (spL n w) (spL n v) (huL m u) wt ro fo false i rw) :: [(2, .tm 0 [])])) =
(((((some (.bool (decide ((↑i : Int) < (↑n : Int)))) : Option Value) = some (.bool true))) ∧
((((((0 : Int) ≤ (↑i : Int))) ∧ (((↑i : Int) < (↑n : Int)))) ∧ (((.pointer (.some ⟨((11 : Nat)), ((0 : Nat) + i * (1 : Nat)), .none⟩)) : Value) = (.pointer (.some ⟨((11 : Nat)), ((0 : Nat) + i * (1 : Nat)), .none⟩)))) ∧
((((ints n ro)[(0 : Nat) + i * (1 : Nat)]? = some (.int .i64 (ro i)))) ∧
((ConOK Tryd.prog ((17 : Nat)) (CS2 (↑rw : Int) st n cw cv m cu tb (spL n w) (spL n v) (huL m u) (↑hut : Int) (↑i : Int) (Value.tuple { toList := [I (↑a : Int), Value.bool false, I (0 : Int)] }))) ∧ (Con.pre (CS2 (↑rw : Int) st n cw cv m cu tb (spL n w) (spL n v) (huL m u) (↑hut : Int) (↑i : Int) (Value.tuple { toList := [I (↑a : Int), Value.bool false, I (0 : Int)] })) ⟨⟨[(.int .i64 rw), (.int .i64 st), (.int .i64 hut), (.int .i64 i)], [⟨n, cw⟩, ⟨n, cv⟩, ⟨m, cu⟩]⟩, [(tb), (spL n w), (spL n v), (huL m u)]⟩) ∧
((((((0 : Int) ≤ (↑rw : Int))) ∧ (((↑rw : Int) ≤ (↑(64 : Nat) : Int)))) ∧ (((.int .i64 ((↑a : Int) / (2 : Int) ^ rw)) : Value) = (.int .i64 ((↑a : Int) / (2 : Int) ^ rw)))) ∧
((((some (.bool ((↑a : Int) / (2 : Int) ^ rw != (0 : Int))) : Option Value) = some (.bool false))) ∧
((((some (.bool (decide (ro i ≥ (0 : Int)))) : Option Value) = some (.bool true))) ∧
((((((0 : Int) ≤ ro i)) ∧ ((ro i ≤ (↑(64 : Nat) : Int)))) ∧ (((.int .i64 ((↑a : Int) / (2 : Int) ^ (ro i).toNat)) : Value) = (.int .i64 ((↑a : Int) / (2 : Int) ^ (ro i).toNat)))) ∧
((((some (.bool (bits BinOp.and IntKind.i64 ((↑a : Int) / (2 : Int) ^ (ro i).toNat) (1 : Int) == (0 : Int))) : Option Value) = some (.bool false))) ∧
((((some (.bool (decide (ro i < (0 : Int)))) : Option Value) = some (.bool false))) ∧
((((((0 : Int) ≤ (↑i : Int))) ∧ (((↑i : Int) < (↑n : Int)))) ∧ (((.pointer (.some ⟨((12 : Nat)), ((0 : Nat) + i * (1 : Nat)), .none⟩)) : Value) = (.pointer (.some ⟨((12 : Nat)), ((0 : Nat) + i * (1 : Nat)), .none⟩)))) ∧
((((boolsL n fo)[(0 : Nat) + i * (1 : Nat)]? = some (.bool false))) ∧
((((((0 : Int) ≤ (↑i : Int))) ∧ (((↑i : Int) < (↑n : Int)))) ∧ (((.pointer (.some ⟨((12 : Nat)), ((0 : Nat) + i * (1 : Nat)), .none⟩)) : Value) = (.pointer (.some ⟨((12 : Nat)), ((0 : Nat) + i * (1 : Nat)), .none⟩)))) ∧
((((boolsL n fo)[(0 : Nat) + i * (1 : Nat)]? = some (.bool false))) ∧
((((((0 : Int) ≤ (↑i : Int))) ∧ (((↑i : Int) ≤ (↑(64 : Nat) : Int)))) ∧ (((.int .i64 ((↑x : Int) / (2 : Int) ^ i)) : Value) = (.int .i64 ((↑x : Int) / (2 : Int) ^ i)))) ∧
((((some (.bool (bits BinOp.and IntKind.i64 ((↑x : Int) / (2 : Int) ^ i) (1 : Int) == (1 : Int))) : Option Value) = some (.bool false))) ∧
((((some (.bool (decide (ro i < (0 : Int)))) : Option Value) = some (.bool false))) ∧
((ClW ⟨⟨[(.int .i64 hut), (.int .i64 x), (.int .i64 y), (.int .i64 l), (.int .i64 fi), (.int .i64 4), (.bool false), (.int .i64 i), (.int .i64 n), (.int .i64 i), (.int .i64 rw), (.int .i64 0), (.int .i64 rw), (.int .i64 st)], [⟨n, n⟩, ⟨n, n⟩, ⟨n, n⟩, ⟨n, cw⟩, ⟨n, cv⟩, ⟨m, cu⟩]⟩, [(tb), (spL n w), (spL n v), (huL m u), (ints n wt), (ints n ro), (boolsL n fo)], []⟩) ∧ (LoopOW Tryd.prog .none p3i (T3i) ⟨⟨[(.int .i64 hut), (.int .i64 x), (.int .i64 y), (.int .i64 l), (.int .i64 fi), (.int .i64 4), (.bool false), (.int .i64 i), (.int .i64 n), (.int .i64 i), (.int .i64 rw), (.int .i64 0), (.int .i64 rw), (.int .i64 st)], [⟨n, n⟩, ⟨n, n⟩, ⟨n, n⟩, ⟨n, cw⟩, ⟨n, cv⟩, ⟨m, cu⟩]⟩, [(tb), (spL n w), (spL n v), (huL m u), (ints n wt), (ints n ro), (boolsL n fo)], []⟩ (.exit ((2 : Nat))) (T3i) ⟨⟨[(.int .i64 hut), (.int .i64 x), (.int .i64 y), (.int .i64 l), (.int .i64 fi), (.int .i64 4), (.bool false), (.int .i64 i), (.int .i64 n), (.int .i64 i), (.int .i64 rw), (.int .i64 rw), (.int .i64 rw), (.int .i64 st)], [⟨n, n⟩, ⟨n, n⟩, ⟨n, n⟩, ⟨n, cw⟩, ⟨n, cv⟩, ⟨m, cu⟩]⟩, [(tb), (spL n w), (spL n v), (huL m u), (ints n wt), (ints n ro), (boolsL n fo)], []⟩) ∧
R 0 .normal ⟨⟨[(.int .i64 hut), (.int .i64 x), (.int .i64 y), (.int .i64 l), (.int .i64 fi), (.int .i64 4), (.bool false), (.int .i64 n), (.int .i64 (IntKind.i64.wrap ((↑i : Int) + (1 : Int)))), (.int .i64 rw), (.int .i64 st)], [⟨n, n⟩, ⟨n, n⟩, ⟨n, n⟩, ⟨n, cw⟩, ⟨n, cv⟩, ⟨m, cu⟩]⟩, [(tb), (spL n w), (spL n v), (huL m u), (ints n wt), (ints n ro), (boolsL n fo)], []⟩))))))))))))))))))) := by kernel_rfl
theorem b34ntf (rw : Nat) (st l : Int) (n cw cv m cu hut x y fi i a : Nat) (w v : Nat → Sp) (u : Nat → Hut) (wt ro : Nat → Int) (fo : Nat → Bool) (gone : Bool) (tb : List Value) (R : Nat → AExit → Hw → Prop) : (vx.code none (.l p3o) (leafW [T3a, R3] R) (T3a.inst (h3a rw st n cw cv m cu hut x y fi l 4 tb (spL n w) (spL n v) (huL m u) wt ro fo gone i)) ((0, .val (.bool true)) :: (2, .val (.pointer (.some ⟨((11 : Nat)), ((0 : Nat) + i * (1 : Nat)), .none⟩))) :: (0, .val (.int .i64 (ro i))) :: (5, Hint.con (CS2 (↑rw : Int) st n cw cv m cu tb (spL n w) (spL n v) (huL m u) (↑hut : Int) (↑i : Int) (Value.tuple { toList := [I (↑a : Int), Value.bool true, I (0 : Int)] }))) :: (13, .val (.int .i64 ((↑a : Int) / (2 : Int) ^ rw))) :: (0, .val (.bool false)) :: (3, .val (.bool false)) :: (5, .val (.bool true)) :: (8, .val (.pointer (.some ⟨((12 : Nat)), ((0 : Nat) + i * (1 : Nat)), .none⟩))) :: (0, .val (.bool false)) :: (5, .val (.pointer (.some ⟨((12 : Nat)), ((0 : Nat) + i * (1 : Nat)), .none⟩))) :: (0, .val (.bool false)) :: (4, .val (.int .i64 ((↑x : Int) / (2 : Int) ^ i))) :: (1, .val (.bool false)) :: (10, .val (.bool true)) :: (4, Hint.loopW T3i (AExit.exit (2 : Nat)) T3i fun x_1 => h3i (↑rw : Int) st n cw cv m cu hut x y fi l (4 : Int) tb (spL n w) (spL n v) (huL m u) wt ro fo true i rw) :: [(2, .tm 0 [])])) =
(((((some (.bool (decide ((↑i : Int) < (↑n : Int)))) : Option Value) = some (.bool true))) ∧
((((((0 : Int) ≤ (↑i : Int))) ∧ (((↑i : Int) < (↑n : Int)))) ∧ (((.pointer (.some ⟨((11 : Nat)), ((0 : Nat) + i * (1 : Nat)), .none⟩)) : Value) = (.pointer (.some ⟨((11 : Nat)), ((0 : Nat) + i * (1 : Nat)), .none⟩)))) ∧
((((ints n ro)[(0 : Nat) + i * (1 : Nat)]? = some (.int .i64 (ro i)))) ∧
((ConOK Tryd.prog ((17 : Nat)) (CS2 (↑rw : Int) st n cw cv m cu tb (spL n w) (spL n v) (huL m u) (↑hut : Int) (↑i : Int) (Value.tuple { toList := [I (↑a : Int), Value.bool true, I (0 : Int)] }))) ∧ (Con.pre (CS2 (↑rw : Int) st n cw cv m cu tb (spL n w) (spL n v) (huL m u) (↑hut : Int) (↑i : Int) (Value.tuple { toList := [I (↑a : Int), Value.bool true, I (0 : Int)] })) ⟨⟨[(.int .i64 rw), (.int .i64 st), (.int .i64 hut), (.int .i64 i)], [⟨n, cw⟩, ⟨n, cv⟩, ⟨m, cu⟩]⟩, [(tb), (spL n w), (spL n v), (huL m u)]⟩) ∧
((((((0 : Int) ≤ (↑rw : Int))) ∧ (((↑rw : Int) ≤ (↑(64 : Nat) : Int)))) ∧ (((.int .i64 ((↑a : Int) / (2 : Int) ^ rw)) : Value) = (.int .i64 ((↑a : Int) / (2 : Int) ^ rw)))) ∧
((((some (.bool ((↑a : Int) / (2 : Int) ^ rw != (0 : Int))) : Option Value) = some (.bool false))) ∧
((((some (.bool (decide (ro i ≥ (0 : Int)))) : Option Value) = some (.bool false))) ∧
((((some (.bool (decide (ro i < (0 : Int)))) : Option Value) = some (.bool true))) ∧
((((((0 : Int) ≤ (↑i : Int))) ∧ (((↑i : Int) < (↑n : Int)))) ∧ (((.pointer (.some ⟨((12 : Nat)), ((0 : Nat) + i * (1 : Nat)), .none⟩)) : Value) = (.pointer (.some ⟨((12 : Nat)), ((0 : Nat) + i * (1 : Nat)), .none⟩)))) ∧
((((boolsL n fo)[(0 : Nat) + i * (1 : Nat)]? = some (.bool false))) ∧
((((((0 : Int) ≤ (↑i : Int))) ∧ (((↑i : Int) < (↑n : Int)))) ∧ (((.pointer (.some ⟨((12 : Nat)), ((0 : Nat) + i * (1 : Nat)), .none⟩)) : Value) = (.pointer (.some ⟨((12 : Nat)), ((0 : Nat) + i * (1 : Nat)), .none⟩)))) ∧
((((boolsL n fo)[(0 : Nat) + i * (1 : Nat)]? = some (.bool false))) ∧
((((((0 : Int) ≤ (↑i : Int))) ∧ (((↑i : Int) ≤ (↑(64 : Nat) : Int)))) ∧ (((.int .i64 ((↑x : Int) / (2 : Int) ^ i)) : Value) = (.int .i64 ((↑x : Int) / (2 : Int) ^ i)))) ∧
((((some (.bool (bits BinOp.and IntKind.i64 ((↑x : Int) / (2 : Int) ^ i) (1 : Int) == (1 : Int))) : Option Value) = some (.bool false))) ∧
((((some (.bool (decide (ro i < (0 : Int)))) : Option Value) = some (.bool true))) ∧
((ClW ⟨⟨[(.int .i64 hut), (.int .i64 x), (.int .i64 y), (.int .i64 l), (.int .i64 fi), (.int .i64 4), (.bool true), (.int .i64 i), (.int .i64 n), (.int .i64 i), (.int .i64 rw), (.int .i64 0), (.int .i64 rw), (.int .i64 st)], [⟨n, n⟩, ⟨n, n⟩, ⟨n, n⟩, ⟨n, cw⟩, ⟨n, cv⟩, ⟨m, cu⟩]⟩, [(tb), (spL n w), (spL n v), (huL m u), (ints n wt), (ints n ro), (boolsL n fo)], []⟩) ∧ (LoopOW Tryd.prog .none p3i (T3i) ⟨⟨[(.int .i64 hut), (.int .i64 x), (.int .i64 y), (.int .i64 l), (.int .i64 fi), (.int .i64 4), (.bool true), (.int .i64 i), (.int .i64 n), (.int .i64 i), (.int .i64 rw), (.int .i64 0), (.int .i64 rw), (.int .i64 st)], [⟨n, n⟩, ⟨n, n⟩, ⟨n, n⟩, ⟨n, cw⟩, ⟨n, cv⟩, ⟨m, cu⟩]⟩, [(tb), (spL n w), (spL n v), (huL m u), (ints n wt), (ints n ro), (boolsL n fo)], []⟩ (.exit ((2 : Nat))) (T3i) ⟨⟨[(.int .i64 hut), (.int .i64 x), (.int .i64 y), (.int .i64 l), (.int .i64 fi), (.int .i64 4), (.bool true), (.int .i64 i), (.int .i64 n), (.int .i64 i), (.int .i64 rw), (.int .i64 rw), (.int .i64 rw), (.int .i64 st)], [⟨n, n⟩, ⟨n, n⟩, ⟨n, n⟩, ⟨n, cw⟩, ⟨n, cv⟩, ⟨m, cu⟩]⟩, [(tb), (spL n w), (spL n v), (huL m u), (ints n wt), (ints n ro), (boolsL n fo)], []⟩) ∧
R 0 .normal ⟨⟨[(.int .i64 hut), (.int .i64 x), (.int .i64 y), (.int .i64 l), (.int .i64 fi), (.int .i64 4), (.bool true), (.int .i64 n), (.int .i64 (IntKind.i64.wrap ((↑i : Int) + (1 : Int)))), (.int .i64 rw), (.int .i64 st)], [⟨n, n⟩, ⟨n, n⟩, ⟨n, n⟩, ⟨n, cw⟩, ⟨n, cv⟩, ⟨m, cu⟩]⟩, [(tb), (spL n w), (spL n v), (huL m u), (ints n wt), (ints n ro), (boolsL n fo)], []⟩))))))))))))))))) := by kernel_rfl
theorem b3e0 (rw : Nat) (st l : Int) (n cw cv m cu hut x y fi i : Nat) (w v : Nat → Sp) (u : Nat → Hut) (wt ro : Nat → Int) (fo : Nat → Bool) (gone : Bool) (tb : List Value) (R : Nat → AExit → Hw → Prop) : (vx.code none (.l p3o) (leafW [T3a, R3] R) (T3a.inst (h3a rw st n cw cv m cu hut x y fi l 0 tb (spL n w) (spL n v) (huL m u) wt ro fo gone i)) ((0, .val (.bool false)) :: [(1, .tm 0 [])])) =
(((((some (.bool (decide ((↑i : Int) < (↑n : Int)))) : Option Value) = some (.bool false))) ∧
R 0 (.exit ((0 : Nat))) ⟨⟨[(.int .i64 hut), (.int .i64 x), (.int .i64 y), (.int .i64 l), (.int .i64 fi), (.int .i64 0), (.bool gone), (.int .i64 n), (.int .i64 i), (.int .i64 rw), (.int .i64 st)], [⟨n, n⟩, ⟨n, n⟩, ⟨n, n⟩, ⟨n, cw⟩, ⟨n, cv⟩, ⟨m, cu⟩]⟩, [(tb), (spL n w), (spL n v), (huL m u), (ints n wt), (ints n ro), (boolsL n fo)], []⟩)) := by kernel_rfl
theorem b3e4 (rw : Nat) (st l : Int) (n cw cv m cu hut x y fi i : Nat) (w v : Nat → Sp) (u : Nat → Hut) (wt ro : Nat → Int) (fo : Nat → Bool) (gone : Bool) (tb : List Value) (R : Nat → AExit → Hw → Prop) : (vx.code none (.l p3o) (leafW [T3a, R3] R) (T3a.inst (h3a rw st n cw cv m cu hut x y fi l 4 tb (spL n w) (spL n v) (huL m u) wt ro fo gone i)) ((0, .val (.bool false)) :: [(1, .tm 0 [])])) =
(((((some (.bool (decide ((↑i : Int) < (↑n : Int)))) : Option Value) = some (.bool false))) ∧
R 0 (.exit ((0 : Nat))) ⟨⟨[(.int .i64 hut), (.int .i64 x), (.int .i64 y), (.int .i64 l), (.int .i64 fi), (.int .i64 4), (.bool gone), (.int .i64 n), (.int .i64 i), (.int .i64 rw), (.int .i64 st)], [⟨n, n⟩, ⟨n, n⟩, ⟨n, n⟩, ⟨n, cw⟩, ⟨n, cv⟩, ⟨m, cu⟩]⟩, [(tb), (spL n w), (spL n v), (huL m u), (ints n wt), (ints n ro), (boolsL n fo)], []⟩)) := by kernel_rfl
theorem boolsL_get {n i : Nat} (b : Nat → Bool) (h : i < n) : (boolsL n b)[0 + i * 1]? = some (.bool (b i)) := by
  rw [Nat.zero_add]
  have := flatC_get (n := n) (k := 1) (g := fun i => [Value.bool (b i)]) (fun i _ => rfl) h (j := 0) (by omega)
  simpa [boolsL] using this
def goF (ro : Nat → Int) : Nat → Bool
  | 0 => false
  | i + 1 => decide (ro i < 0)
section
variable {rw : Nat} {st : Int} {n cw cv m cu hut : Nat} {w v : Nat → Sp} {u : Nat → Hut} {wt vt : Nat → Int}
def roF (st : Int) (x : Hut) (wt vt : Nat → Int) (i : Nat) : Int := rowF st x.fl x.br x.row wt vt (i + 1)
def foF (st : Int) (x : Hut) (wt vt : Nat → Int) : Nat → Bool := floF st x.fl x.br x.row wt vt
noncomputable def s3 (rw : Nat) (st : Int) (n cw cv m cu hut : Nat) (w v : Nat → Sp) (u : Nat → Hut) (wt vt : Nat → Int) (fi : Nat) (g : Int) (i : Nat) : Hw :=
  h3a rw st n cw cv m cu hut (surH st w v n (u hut)) (perH st w v n (u hut)) fi (losN (crH st w v (u hut) n) : Nat) g tabC (spL n w) (spL n v) (huL m u) wt (roF st (u hut) wt vt) (foF st (u hut) wt vt) (goF (roF st (u hut) wt vt) i) i
theorem loop3a0 (hS : SOK rw st n w v) (hU : HUK rw m u) (hh : hut < m) (ht : TrOK w v n wt vt) (h0 : perH st w v n (u hut) ≠ 0) :
    LoopOW Tryd.prog none p3o T3a (s3 rw st n cw cv m cu hut w v u wt vt (tzN (perH st w v n (u hut))) 0 0) (.exit 0) T3a (s3 rw st n cw cv m cu hut w v u wt vt (tzN (perH st w v n (u hut))) 0 n) := by
  have h8 := hS.n8
  have h6 := hS.rw6
  have h5 := hU.m5
  obtain ⟨u0, u1, u2, u3, u4⟩ := hU.u hut hh
  have hr6 : (u hut).row < 6 := by omega
  have hlt := perH_lt (st := st) (w := w) (v := v) h8 (u hut)
  have hlx := surH_lt (st := st) (w := w) (v := v) (x := u hut) h8
  refine loop_forW (Ts := [T3a, R3]) (k := 13) (n := n) (e := .exit 0) (st := fun i => (0, s3 rw st n cw cv m cu hut w v u wt vt (tzN (perH st w v n (u hut))) 0 i)) rfl vx_sound ?_ (by rw [nglob]; omega) ⟨by simp, trivial⟩ (fun i _ => clL3) (fun i hi R hR => ?_) (fun R hR => ?_) rfl (Nat.le_of_ble_eq_true rfl) (by decide) rfl
  · intro T hT; simp only [List.mem_cons, List.not_mem_nil, or_false] at hT; rcases hT with rfl | rfl <;> rfl
  · have hw : IntKind.i64.wrap ((i : Int) + 1) = ((i + 1 : Nat) : Int) := wrapI (by omega) (by omega)
    have hC := C17_ok (cw := cw) (cv := cv) (cu := cu) hS hU hh hi
    obtain ⟨c1, c2, c3⟩ := course_true (rw := 0) (st := st) (fl := (u hut).fl) (br := (u hut).br) hr6 ht (i + 1) (by omega)
    have c4 := crs_lt (st := st) (w := w) (v := v) (fl := (u hut).fl) (br := (u hut).br) (row := (u hut).row) (by omega) (i + 1)
    have c2 : -1 ≤ roF st (u hut) wt vt i := c2
    have c3 : roF st (u hut) wt vt i ≤ (u hut).row := c3
    have c1 : (crH st w v (u hut) (i + 1)).testBit (rowN (roF st (u hut) wt vt i)) = true := c1
    have c4 : crH st w v (u hut) (i + 1) < 128 := c4
    have ha : crH st w v (u hut) (i + 1) &&& (2 ^ rw - 1) ≤ 2 ^ rw - 1 := Nat.and_le_right
    have hp : 0 < 2 ^ rw := Nat.two_pow_pos rw
    have ha2 : crH st w v (u hut) (i + 1) &&& (2 ^ rw - 1) ≤ crH st w v (u hut) (i + 1) := Nat.and_le_left
    have hT1 := div_pow (a := crH st w v (u hut) (i + 1) &&& (2 ^ rw - 1)) (r := rw) (by omega)
    have hfo := boolsL_get (foF st (u hut) wt vt) hi
    rw [show ((rw : Int)).toNat = rw from rfl] at hC
    have hR : R 0 .normal (h3a rw st n cw cv m cu hut (surH st w v n (u hut)) (perH st w v n (u hut)) (tzN (perH st w v n (u hut))) (losN (crH st w v (u hut) n) : Nat) 0 tabC (spL n w) (spL n v) (huL m u) wt (roF st (u hut) wt vt) (foF st (u hut) wt vt) (decide (roF st (u hut) wt vt i < 0)) (i + 1)) := hR
    unfold h3a at hR
    rw [← hw] at hR
    obtain ⟨hz1, z2, z3, z4⟩ := tz_eq hlt h0
    have hz2 := bt1 hlt (show tzN (perH st w v n (u hut)) < 9 by omega) z2
    by_cases hge : roF st (u hut) wt vt i ≥ 0
    · rw [decide_eq_false (show ¬ roF st (u hut) wt vt i < 0 by omega)] at hR
      have hrn : rowN (roF st (u hut) wt vt i) = (roF st (u hut) wt vt i).toNat := if_neg (by omega)
      rw [hrn] at c1
      have hab : (crH st w v (u hut) (i + 1) &&& (2 ^ rw - 1)).testBit (roF st (u hut) wt vt i).toNat = true := by
        rw [Nat.testBit_and, c1, Nat.testBit_two_pow_sub_one, decide_eq_true (show (roF st (u hut) wt vt i).toNat < rw by omega)]; rfl
      have hT2 := bt1 (show crH st w v (u hut) (i + 1) &&& (2 ^ rw - 1) < 256 by omega) (show (roF st (u hut) wt vt i).toNat < 9 by omega) hab
      cases hl : (crH st w v (u hut) (i + 1)).testBit 6 with
      | true =>
        rw [hl] at hC
        cases hf : foF st (u hut) wt vt i with
        | true =>
          have hb : (boolsL n (foF st (u hut) wt vt))[0 + i * 1]? = some (.bool true) := by rw [hfo, hf]
          have hpb := perH_has hr6 h8 ht hi hf
          have hT4 := bt1 hlt (show i < 9 by omega) hpb
          have hT5 : decide ((i : Int) < ((tzN (perH st w v n (u hut))) : Nat)) = false := decide_eq_false (by have := z4 i (by omega) hpb; omega)
          exact ⟨T3a, _, rfl, (b30ptt rw st (losN (crH st w v (u hut) n) : Nat) n cw cv m cu hut (surH st w v n (u hut)) (perH st w v n (u hut)) (tzN (perH st w v n (u hut))) i (crH st w v (u hut) (i + 1) &&& (2 ^ rw - 1)) w v u wt (roF st (u hut) wt vt) (foF st (u hut) wt vt) (goF (roF st (u hut) wt vt) i) tabC R).mpr ⟨tt (decide_eq_true (by omega)), ⟨⟨by omega, by omega⟩, rfl⟩, ints_get _ hi, hC, rfl, ⟨⟨by omega, by omega⟩, rfl⟩, tf hT1, tt (decide_eq_true hge), ⟨⟨hge, by omega⟩, rfl⟩, tf hT2, tf (decide_eq_false (by omega)), ⟨⟨by omega, by omega⟩, rfl⟩, hb, ⟨⟨by omega, by omega⟩, rfl⟩, tf hT4, tf hT5, ⟨⟨by omega, by omega⟩, rfl⟩, hb, ⟨⟨by omega, by omega⟩, rfl⟩, tf hz1, ⟨⟨by omega, by omega⟩, rfl⟩, tf hz2, tf (decide_eq_false (by omega)), clL3, loop3i hS hU ht hi, hR⟩⟩
        | false =>
          have hb : (boolsL n (foF st (u hut) wt vt))[0 + i * 1]? = some (.bool false) := by rw [hfo, hf]
          have hT4 := bt0 hlx (show i < 9 by omega) (surH_not hr6 h8 ht hi hf)
          exact ⟨T3a, _, rfl, (b30ptf rw st (losN (crH st w v (u hut) n) : Nat) n cw cv m cu hut (surH st w v n (u hut)) (perH st w v n (u hut)) (tzN (perH st w v n (u hut))) i (crH st w v (u hut) (i + 1) &&& (2 ^ rw - 1)) w v u wt (roF st (u hut) wt vt) (foF st (u hut) wt vt) (goF (roF st (u hut) wt vt) i) tabC R).mpr ⟨tt (decide_eq_true (by omega)), ⟨⟨by omega, by omega⟩, rfl⟩, ints_get _ hi, hC, rfl, ⟨⟨by omega, by omega⟩, rfl⟩, tf hT1, tt (decide_eq_true hge), ⟨⟨hge, by omega⟩, rfl⟩, tf hT2, tf (decide_eq_false (by omega)), ⟨⟨by omega, by omega⟩, rfl⟩, hb, ⟨⟨by omega, by omega⟩, rfl⟩, hb, ⟨⟨by omega, by omega⟩, rfl⟩, tf hT4, ⟨⟨by omega, by omega⟩, rfl⟩, tf hz1, ⟨⟨by omega, by omega⟩, rfl⟩, tf hz2, tf (decide_eq_false (by omega)), clL3, loop3i hS hU ht hi, hR⟩⟩
      | false =>
        rw [hl] at hC
        cases hf : foF st (u hut) wt vt i with
        | true =>
          have hb : (boolsL n (foF st (u hut) wt vt))[0 + i * 1]? = some (.bool true) := by rw [hfo, hf]
          have hpb := perH_has hr6 h8 ht hi hf
          have hT4 := bt1 hlt (show i < 9 by omega) hpb
          have hT5 : decide ((i : Int) < ((tzN (perH st w v n (u hut))) : Nat)) = false := decide_eq_false (by have := z4 i (by omega) hpb; omega)
          exact ⟨T3a, _, rfl, (b30pft rw st (losN (crH st w v (u hut) n) : Nat) n cw cv m cu hut (surH st w v n (u hut)) (perH st w v n (u hut)) (tzN (perH st w v n (u hut))) i (crH st w v (u hut) (i + 1) &&& (2 ^ rw - 1)) w v u wt (roF st (u hut) wt vt) (foF st (u hut) wt vt) (goF (roF st (u hut) wt vt) i) tabC R).mpr ⟨tt (decide_eq_true (by omega)), ⟨⟨by omega, by omega⟩, rfl⟩, ints_get _ hi, hC, rfl, ⟨⟨by omega, by omega⟩, rfl⟩, tf hT1, tt (decide_eq_true hge), ⟨⟨hge, by omega⟩, rfl⟩, tf hT2, tf (decide_eq_false (by omega)), ⟨⟨by omega, by omega⟩, rfl⟩, hb, ⟨⟨by omega, by omega⟩, rfl⟩, tf hT4, tf hT5, ⟨⟨by omega, by omega⟩, rfl⟩, hb, ⟨⟨by omega, by omega⟩, rfl⟩, tf hz1, ⟨⟨by omega, by omega⟩, rfl⟩, tf hz2, tf (decide_eq_false (by omega)), clL3, loop3i hS hU ht hi, hR⟩⟩
        | false =>
          have hb : (boolsL n (foF st (u hut) wt vt))[0 + i * 1]? = some (.bool false) := by rw [hfo, hf]
          have hT4 := bt0 hlx (show i < 9 by omega) (surH_not hr6 h8 ht hi hf)
          exact ⟨T3a, _, rfl, (b30pff rw st (losN (crH st w v (u hut) n) : Nat) n cw cv m cu hut (surH st w v n (u hut)) (perH st w v n (u hut)) (tzN (perH st w v n (u hut))) i (crH st w v (u hut) (i + 1) &&& (2 ^ rw - 1)) w v u wt (roF st (u hut) wt vt) (foF st (u hut) wt vt) (goF (roF st (u hut) wt vt) i) tabC R).mpr ⟨tt (decide_eq_true (by omega)), ⟨⟨by omega, by omega⟩, rfl⟩, ints_get _ hi, hC, rfl, ⟨⟨by omega, by omega⟩, rfl⟩, tf hT1, tt (decide_eq_true hge), ⟨⟨hge, by omega⟩, rfl⟩, tf hT2, tf (decide_eq_false (by omega)), ⟨⟨by omega, by omega⟩, rfl⟩, hb, ⟨⟨by omega, by omega⟩, rfl⟩, hb, ⟨⟨by omega, by omega⟩, rfl⟩, tf hT4, ⟨⟨by omega, by omega⟩, rfl⟩, tf hz1, ⟨⟨by omega, by omega⟩, rfl⟩, tf hz2, tf (decide_eq_false (by omega)), clL3, loop3i hS hU ht hi, hR⟩⟩
    · rw [decide_eq_true (show roF st (u hut) wt vt i < 0 by omega)] at hR
      have hrn : rowN (roF st (u hut) wt vt i) = 6 := if_pos (by omega)
      rw [hrn] at c1
      rw [c1] at hC
      cases hf : foF st (u hut) wt vt i with
      | true =>
        have hb : (boolsL n (foF st (u hut) wt vt))[0 + i * 1]? = some (.bool true) := by rw [hfo, hf]
        have hpb := perH_has hr6 h8 ht hi hf
        have hT4 := bt1 hlt (show i < 9 by omega) hpb
        have hT5 : decide ((i : Int) < ((tzN (perH st w v n (u hut))) : Nat)) = false := decide_eq_false (by have := z4 i (by omega) hpb; omega)
        exact ⟨T3a, _, rfl, (b30ntt rw st (losN (crH st w v (u hut) n) : Nat) n cw cv m cu hut (surH st w v n (u hut)) (perH st w v n (u hut)) (tzN (perH st w v n (u hut))) i (crH st w v (u hut) (i + 1) &&& (2 ^ rw - 1)) w v u wt (roF st (u hut) wt vt) (foF st (u hut) wt vt) (goF (roF st (u hut) wt vt) i) tabC R).mpr ⟨tt (decide_eq_true (by omega)), ⟨⟨by omega, by omega⟩, rfl⟩, ints_get _ hi, hC, rfl, ⟨⟨by omega, by omega⟩, rfl⟩, tf hT1, tf (decide_eq_false hge), tt (decide_eq_true (by omega)), ⟨⟨by omega, by omega⟩, rfl⟩, hb, ⟨⟨by omega, by omega⟩, rfl⟩, tf hT4, tf hT5, ⟨⟨by omega, by omega⟩, rfl⟩, hb, ⟨⟨by omega, by omega⟩, rfl⟩, tf hz1, ⟨⟨by omega, by omega⟩, rfl⟩, tf hz2, tt (decide_eq_true (by omega)), clL3, loop3i hS hU ht hi, hR⟩⟩
      | false =>
        have hb : (boolsL n (foF st (u hut) wt vt))[0 + i * 1]? = some (.bool false) := by rw [hfo, hf]
        have hT4 := bt0 hlx (show i < 9 by omega) (surH_not hr6 h8 ht hi hf)
        exact ⟨T3a, _, rfl, (b30ntf rw st (losN (crH st w v (u hut) n) : Nat) n cw cv m cu hut (surH st w v n (u hut)) (perH st w v n (u hut)) (tzN (perH st w v n (u hut))) i (crH st w v (u hut) (i + 1) &&& (2 ^ rw - 1)) w v u wt (roF st (u hut) wt vt) (foF st (u hut) wt vt) (goF (roF st (u hut) wt vt) i) tabC R).mpr ⟨tt (decide_eq_true (by omega)), ⟨⟨by omega, by omega⟩, rfl⟩, ints_get _ hi, hC, rfl, ⟨⟨by omega, by omega⟩, rfl⟩, tf hT1, tf (decide_eq_false hge), tt (decide_eq_true (by omega)), ⟨⟨by omega, by omega⟩, rfl⟩, hb, ⟨⟨by omega, by omega⟩, rfl⟩, hb, ⟨⟨by omega, by omega⟩, rfl⟩, tf hT4, ⟨⟨by omega, by omega⟩, rfl⟩, tf hz1, ⟨⟨by omega, by omega⟩, rfl⟩, tf hz2, tt (decide_eq_true (by omega)), clL3, loop3i hS hU ht hi, hR⟩⟩
  · exact ⟨T3a, _, rfl, (b3e0 rw st (losN (crH st w v (u hut) n) : Nat) n cw cv m cu hut (surH st w v n (u hut)) (perH st w v n (u hut)) (tzN (perH st w v n (u hut))) n w v u wt (roF st (u hut) wt vt) (foF st (u hut) wt vt) (goF (roF st (u hut) wt vt) n) tabC R).mpr ⟨tf (decide_eq_false (by omega)), hR⟩⟩
theorem loop3a4 (hS : SOK rw st n w v) (hU : HUK rw m u) (hh : hut < m) (ht : TrOK w v n wt vt) (h0 : perH st w v n (u hut) = 0) :
    LoopOW Tryd.prog none p3o T3a (s3 rw st n cw cv m cu hut w v u wt vt 0 4 0) (.exit 0) T3a (s3 rw st n cw cv m cu hut w v u wt vt 0 4 n) := by
  have h8 := hS.n8
  have h6 := hS.rw6
  have h5 := hU.m5
  obtain ⟨u0, u1, u2, u3, u4⟩ := hU.u hut hh
  have hr6 : (u hut).row < 6 := by omega
  have hlt := perH_lt (st := st) (w := w) (v := v) h8 (u hut)
  have hlx := surH_lt (st := st) (w := w) (v := v) (x := u hut) h8
  refine loop_forW (Ts := [T3a, R3]) (k := 13) (n := n) (e := .exit 0) (st := fun i => (0, s3 rw st n cw cv m cu hut w v u wt vt 0 4 i)) rfl vx_sound ?_ (by rw [nglob]; omega) ⟨by simp, trivial⟩ (fun i _ => clL3) (fun i hi R hR => ?_) (fun R hR => ?_) rfl (Nat.le_of_ble_eq_true rfl) (by decide) rfl
  · intro T hT; simp only [List.mem_cons, List.not_mem_nil, or_false] at hT; rcases hT with rfl | rfl <;> rfl
  · have hw : IntKind.i64.wrap ((i : Int) + 1) = ((i + 1 : Nat) : Int) := wrapI (by omega) (by omega)
    have hC := C17_ok (cw := cw) (cv := cv) (cu := cu) hS hU hh hi
    obtain ⟨c1, c2, c3⟩ := course_true (rw := 0) (st := st) (fl := (u hut).fl) (br := (u hut).br) hr6 ht (i + 1) (by omega)
    have c4 := crs_lt (st := st) (w := w) (v := v) (fl := (u hut).fl) (br := (u hut).br) (row := (u hut).row) (by omega) (i + 1)
    have c2 : -1 ≤ roF st (u hut) wt vt i := c2
    have c3 : roF st (u hut) wt vt i ≤ (u hut).row := c3
    have c1 : (crH st w v (u hut) (i + 1)).testBit (rowN (roF st (u hut) wt vt i)) = true := c1
    have c4 : crH st w v (u hut) (i + 1) < 128 := c4
    have ha : crH st w v (u hut) (i + 1) &&& (2 ^ rw - 1) ≤ 2 ^ rw - 1 := Nat.and_le_right
    have hp : 0 < 2 ^ rw := Nat.two_pow_pos rw
    have ha2 : crH st w v (u hut) (i + 1) &&& (2 ^ rw - 1) ≤ crH st w v (u hut) (i + 1) := Nat.and_le_left
    have hT1 := div_pow (a := crH st w v (u hut) (i + 1) &&& (2 ^ rw - 1)) (r := rw) (by omega)
    have hfo := boolsL_get (foF st (u hut) wt vt) hi
    rw [show ((rw : Int)).toNat = rw from rfl] at hC
    have hR : R 0 .normal (h3a rw st n cw cv m cu hut (surH st w v n (u hut)) (perH st w v n (u hut)) 0 (losN (crH st w v (u hut) n) : Nat) 4 tabC (spL n w) (spL n v) (huL m u) wt (roF st (u hut) wt vt) (foF st (u hut) wt vt) (decide (roF st (u hut) wt vt i < 0)) (i + 1)) := hR
    unfold h3a at hR
    rw [← hw] at hR
    by_cases hge : roF st (u hut) wt vt i ≥ 0
    · rw [decide_eq_false (show ¬ roF st (u hut) wt vt i < 0 by omega)] at hR
      have hrn : rowN (roF st (u hut) wt vt i) = (roF st (u hut) wt vt i).toNat := if_neg (by omega)
      rw [hrn] at c1
      have hab : (crH st w v (u hut) (i + 1) &&& (2 ^ rw - 1)).testBit (roF st (u hut) wt vt i).toNat = true := by
        rw [Nat.testBit_and, c1, Nat.testBit_two_pow_sub_one, decide_eq_true (show (roF st (u hut) wt vt i).toNat < rw by omega)]; rfl
      have hT2 := bt1 (show crH st w v (u hut) (i + 1) &&& (2 ^ rw - 1) < 256 by omega) (show (roF st (u hut) wt vt i).toNat < 9 by omega) hab
      cases hl : (crH st w v (u hut) (i + 1)).testBit 6 with
      | true =>
        rw [hl] at hC
        cases hf : foF st (u hut) wt vt i with
        | true =>
          have hT4 := perH_has hr6 h8 ht hi hf
          rw [h0, Nat.zero_testBit] at hT4
          cases hT4
        | false =>
          have hb : (boolsL n (foF st (u hut) wt vt))[0 + i * 1]? = some (.bool false) := by rw [hfo, hf]
          have hT4 := bt0 hlx (show i < 9 by omega) (surH_not hr6 h8 ht hi hf)
          exact ⟨T3a, _, rfl, (b34ptf rw st (losN (crH st w v (u hut) n) : Nat) n cw cv m cu hut (surH st w v n (u hut)) (perH st w v n (u hut)) 0 i (crH st w v (u hut) (i + 1) &&& (2 ^ rw - 1)) w v u wt (roF st (u hut) wt vt) (foF st (u hut) wt vt) (goF (roF st (u hut) wt vt) i) tabC R).mpr ⟨tt (decide_eq_true (by omega)), ⟨⟨by omega, by omega⟩, rfl⟩, ints_get _ hi, hC, rfl, ⟨⟨by omega, by omega⟩, rfl⟩, tf hT1, tt (decide_eq_true hge), ⟨⟨hge, by omega⟩, rfl⟩, tf hT2, tf (decide_eq_false (by omega)), ⟨⟨by omega, by omega⟩, rfl⟩, hb, ⟨⟨by omega, by omega⟩, rfl⟩, hb, ⟨⟨by omega, by omega⟩, rfl⟩, tf hT4, tf (decide_eq_false (by omega)), clL3, loop3i hS hU ht hi, hR⟩⟩
      | false =>
        rw [hl] at hC
        cases hf : foF st (u hut) wt vt i with
        | true =>
          have hT4 := perH_has hr6 h8 ht hi hf
          rw [h0, Nat.zero_testBit] at hT4
          cases hT4
        | false =>
          have hb : (boolsL n (foF st (u hut) wt vt))[0 + i * 1]? = some (.bool false) := by rw [hfo, hf]
          have hT4 := bt0 hlx (show i < 9 by omega) (surH_not hr6 h8 ht hi hf)
          exact ⟨T3a, _, rfl, (b34pff rw st (losN (crH st w v (u hut) n) : Nat) n cw cv m cu hut (surH st w v n (u hut)) (perH st w v n (u hut)) 0 i (crH st w v (u hut) (i + 1) &&& (2 ^ rw - 1)) w v u wt (roF st (u hut) wt vt) (foF st (u hut) wt vt) (goF (roF st (u hut) wt vt) i) tabC R).mpr ⟨tt (decide_eq_true (by omega)), ⟨⟨by omega, by omega⟩, rfl⟩, ints_get _ hi, hC, rfl, ⟨⟨by omega, by omega⟩, rfl⟩, tf hT1, tt (decide_eq_true hge), ⟨⟨hge, by omega⟩, rfl⟩, tf hT2, tf (decide_eq_false (by omega)), ⟨⟨by omega, by omega⟩, rfl⟩, hb, ⟨⟨by omega, by omega⟩, rfl⟩, hb, ⟨⟨by omega, by omega⟩, rfl⟩, tf hT4, tf (decide_eq_false (by omega)), clL3, loop3i hS hU ht hi, hR⟩⟩
    · rw [decide_eq_true (show roF st (u hut) wt vt i < 0 by omega)] at hR
      have hrn : rowN (roF st (u hut) wt vt i) = 6 := if_pos (by omega)
      rw [hrn] at c1
      rw [c1] at hC
      cases hf : foF st (u hut) wt vt i with
      | true =>
        have hT4 := perH_has hr6 h8 ht hi hf
        rw [h0, Nat.zero_testBit] at hT4
        cases hT4
      | false =>
        have hb : (boolsL n (foF st (u hut) wt vt))[0 + i * 1]? = some (.bool false) := by rw [hfo, hf]
        have hT4 := bt0 hlx (show i < 9 by omega) (surH_not hr6 h8 ht hi hf)
        exact ⟨T3a, _, rfl, (b34ntf rw st (losN (crH st w v (u hut) n) : Nat) n cw cv m cu hut (surH st w v n (u hut)) (perH st w v n (u hut)) 0 i (crH st w v (u hut) (i + 1) &&& (2 ^ rw - 1)) w v u wt (roF st (u hut) wt vt) (foF st (u hut) wt vt) (goF (roF st (u hut) wt vt) i) tabC R).mpr ⟨tt (decide_eq_true (by omega)), ⟨⟨by omega, by omega⟩, rfl⟩, ints_get _ hi, hC, rfl, ⟨⟨by omega, by omega⟩, rfl⟩, tf hT1, tf (decide_eq_false hge), tt (decide_eq_true (by omega)), ⟨⟨by omega, by omega⟩, rfl⟩, hb, ⟨⟨by omega, by omega⟩, rfl⟩, hb, ⟨⟨by omega, by omega⟩, rfl⟩, tf hT4, tt (decide_eq_true (by omega)), clL3, loop3i hS hU ht hi, hR⟩⟩
  · exact ⟨T3a, _, rfl, (b3e4 rw st (losN (crH st w v (u hut) n) : Nat) n cw cv m cu hut (surH st w v n (u hut)) (perH st w v n (u hut)) 0 n w v u wt (roF st (u hut) wt vt) (foF st (u hut) wt vt) (goF (roF st (u hut) wt vt) n) tabC R).mpr ⟨tf (decide_eq_false (by omega)), hR⟩⟩
end
end Go.Ab
