/- package surf: SurfKnown's loops. -/
import Derived.Test.YtoelpblmhmhglaaDoorNJ
import Derived.Test.YtoelpblmhmhglaaDoorNM
set_option maxRecDepth 100000
namespace Go.Ab
open Go Go.RowKit Go.Proofs
theorem b22a (rw st : Int) (n cw cv m cu i : Nat) (tb : List Value) (w v : Nat → Sp) (u : Nat → Hut) (wt vt : Nat → Int) (R : Nat → AExit → Hw → Prop) : (vx.code none (.l p22) (leafW [T22a, T22b] R) (T22a.inst (h22a rw st n cw cv m cu tb (spL n w) (spL n v) (huL m u) wt vt i)) ((0, .val (.bool true)) :: (7, .val (.pointer (some ⟨10, 0 + i * 1, none⟩))) :: (0, .val (I (wt i))) :: (2, .val (.pointer (some ⟨10, 0 + i * 1, none⟩))) :: (0, .val (I (wt i))) :: (4, .val (.pointer (some ⟨11, 0 + i * 1, none⟩))) :: (0, .val (I (vt i))) :: (2, .val (.pointer (some ⟨11, 0 + i * 1, none⟩))) :: (0, .val (I (vt i))) :: (6, .again) :: (1, .again) :: [(14, .tm 1 [((15 : Nat), (17 : Nat)), ((16 : Nat), (20 : Nat))])])) =
(((((some (.bool (decide ((i : Int) < n))) : Option Value) = some (.bool true))) ∧
((((((0 : Int) ≤ i)) ∧ (((i : Int) < n))) ∧ (((.pointer (some ⟨10, 0 + i * 1, none⟩)) : Value) = (.pointer (some ⟨10, 0 + i * 1, none⟩)))) ∧
((((ints n wt)[0 + i * 1]? = some (I (wt i)))) ∧
((((((0 : Int) ≤ i)) ∧ (((i : Int) < n))) ∧ (((.pointer (some ⟨10, 0 + i * 1, none⟩)) : Value) = (.pointer (some ⟨10, 0 + i * 1, none⟩)))) ∧
((((ints n wt)[0 + i * 1]? = some (I (wt i)))) ∧
((((((0 : Int) ≤ i)) ∧ (((i : Int) < n))) ∧ (((.pointer (some ⟨11, 0 + i * 1, none⟩)) : Value) = (.pointer (some ⟨11, 0 + i * 1, none⟩)))) ∧
((((ints n vt)[0 + i * 1]? = some (I (vt i)))) ∧
((((((0 : Int) ≤ i)) ∧ (((i : Int) < n))) ∧ (((.pointer (some ⟨11, 0 + i * 1, none⟩)) : Value) = (.pointer (some ⟨11, 0 + i * 1, none⟩)))) ∧
((((ints n vt)[0 + i * 1]? = some (I (vt i)))) ∧
(((((ints n vt)[0 + i * 1]? = some (I (vt i)))) ∧ ((((ints n vt)[0 + i * 1]? = some (I (vt i)))) ∧ ((((some (.slice .none ((0 : Nat)) ((0 : Nat))) : Option Value) = some (.slice .none ((0 : Nat)) ((0 : Nat))))) ∧ ((((some (.slice .none ((0 : Nat)) ((0 : Nat))) : Option Value) = some (.slice .none ((0 : Nat)) ((0 : Nat))))) ∧ (True))))) ∧
(((((ints n vt)[0 + i * 1]? = some (I (vt i)))) ∧ ((((ints n vt)[0 + i * 1]? = some (I (vt i)))) ∧ ((((some (.slice .none ((0 : Nat)) ((0 : Nat))) : Option Value) = some (.slice .none ((0 : Nat)) ((0 : Nat))))) ∧ (True)))) ∧
R 1 .normal ⟨⟨[(I n), (I (IntKind.i64.wrap ((i : Int) + (1 : Int)))), (I rw), (I st), (I 0), (I 0), (I rw), (I st)], [⟨n, n⟩, ⟨n, n⟩, ⟨n, cw⟩, ⟨n, cv⟩, ⟨m, cu⟩, ⟨((1 : Nat)), ((1 : Nat))⟩, ⟨((1 : Nat)), ((1 : Nat))⟩, ⟨m, cu⟩]⟩, [(tb), (spL n w), (spL n v), (huL m u), (ints n wt), (ints n vt), [(I (wt i)), (I (wt i))], [(I (vt i)), (I (vt i))]], []⟩)))))))))))) := by kernel_rfl
theorem b22b (rw st : Int) (n cw cv m cu i : Nat) (tb : List Value) (w v : Nat → Sp) (u : Nat → Hut) (wt vt : Nat → Int) (R : Nat → AExit → Hw → Prop) : (vx.code none (.l p22) (leafW [T22a, T22b] R) (T22b.inst (h22b rw st n cw cv m cu tb (spL n w) (spL n v) (huL m u) wt vt (spL i (ptS wt)) (spL i (ptS vt)) i)) ((0, .val (.bool true)) :: (7, .val (.pointer (some ⟨10, 0 + i * 1, none⟩))) :: (0, .val (I (wt i))) :: (2, .val (.pointer (some ⟨10, 0 + i * 1, none⟩))) :: (0, .val (I (wt i))) :: (4, .val (.pointer (some ⟨11, 0 + i * 1, none⟩))) :: (0, .val (I (vt i))) :: (2, .val (.pointer (some ⟨11, 0 + i * 1, none⟩))) :: (0, .val (I (vt i))) :: (6, .again) :: (0, .grow) :: (0, .again) :: (7, .again) :: (0, .grow) :: [(5, .tm 1 [((15 : Nat), (19 : Nat)), ((16 : Nat), (22 : Nat))])])) =
(((((some (.bool (decide ((i : Int) < n))) : Option Value) = some (.bool true))) ∧
((((((0 : Int) ≤ i)) ∧ (((i : Int) < n))) ∧ (((.pointer (some ⟨10, 0 + i * 1, none⟩)) : Value) = (.pointer (some ⟨10, 0 + i * 1, none⟩)))) ∧
((((ints n wt)[0 + i * 1]? = some (I (wt i)))) ∧
((((((0 : Int) ≤ i)) ∧ (((i : Int) < n))) ∧ (((.pointer (some ⟨10, 0 + i * 1, none⟩)) : Value) = (.pointer (some ⟨10, 0 + i * 1, none⟩)))) ∧
((((ints n wt)[0 + i * 1]? = some (I (wt i)))) ∧
((((((0 : Int) ≤ i)) ∧ (((i : Int) < n))) ∧ (((.pointer (some ⟨11, 0 + i * 1, none⟩)) : Value) = (.pointer (some ⟨11, 0 + i * 1, none⟩)))) ∧
((((ints n vt)[0 + i * 1]? = some (I (vt i)))) ∧
((((((0 : Int) ≤ i)) ∧ (((i : Int) < n))) ∧ (((.pointer (some ⟨11, 0 + i * 1, none⟩)) : Value) = (.pointer (some ⟨11, 0 + i * 1, none⟩)))) ∧
((((ints n vt)[0 + i * 1]? = some (I (vt i)))) ∧
(((((ints n vt)[0 + i * 1]? = some (I (vt i)))) ∧ ((((ints n vt)[0 + i * 1]? = some (I (vt i)))) ∧ ((((some (.slice (.some ⟨16, 0, .none⟩) (i) (i)) : Option Value) = some (.slice (.some ⟨16, 0, .none⟩) (i) (i)))) ∧ ((((some (.slice (.some ⟨15, 0, .none⟩) (i) (i)) : Option Value) = some (.slice (.some ⟨15, 0, .none⟩) (i) (i)))) ∧ (True))))) ∧
((((¬i + (1 : Nat) ≤ i)) ∧ (((i * (2 : Nat) = (spL i (ptS wt)).length)) ∧ ((((i + (1 : Nat)) * (16 : Nat) ≤ (140737488355328 : Nat))) ∧ ((i + (1 : Nat) ≤ (4611686018427387904 : Nat)))))) ∧
(((((ints n vt)[0 + i * 1]? = some (I (vt i)))) ∧ ((((ints n vt)[0 + i * 1]? = some (I (vt i)))) ∧ ((((some (.slice (.some ⟨16, 0, .none⟩) (i) (i)) : Option Value) = some (.slice (.some ⟨16, 0, .none⟩) (i) (i)))) ∧ (True)))) ∧
(((((some (.slice (.some ⟨16, 0, .none⟩) (i) (i)) : Option Value) = some (.slice (.some ⟨16, 0, .none⟩) (i) (i)))) ∧ (True)) ∧
((((¬i + (1 : Nat) ≤ i)) ∧ (((i * (2 : Nat) = (spL i (ptS vt)).length)) ∧ ((((i + (1 : Nat)) * (16 : Nat) ≤ (140737488355328 : Nat))) ∧ ((i + (1 : Nat) ≤ (4611686018427387904 : Nat)))))) ∧
R 1 .normal ⟨⟨[(I n), (I (IntKind.i64.wrap ((i : Int) + (1 : Int)))), (I rw), (I st), (I 0), (I 0), (I rw), (I st)], [⟨n, n⟩, ⟨n, n⟩, ⟨n, cw⟩, ⟨n, cv⟩, ⟨m, cu⟩, ⟨(i + (1 : Nat)), (i + (1 : Nat))⟩, ⟨(i + (1 : Nat)), (i + (1 : Nat))⟩, ⟨m, cu⟩]⟩, [(tb), (spL n w), (spL n v), (huL m u), (ints n wt), (ints n vt), ((List.take (i * (2 : Nat)) (spL i (ptS wt))) ++ [(I (wt i)), (I (wt i))]), ((List.take (i * (2 : Nat)) (spL i (ptS vt))) ++ [(I (vt i)), (I (vt i))])], []⟩))))))))))))))) := by kernel_rfl
theorem b22c (rw st : Int) (n cw cv m cu i : Nat) (tb : List Value) (w v : Nat → Sp) (u : Nat → Hut) (wt vt : Nat → Int) (R : Nat → AExit → Hw → Prop) : (vx.code none (.l p22) (leafW [T22a, T22b] R) (T22b.inst (h22b rw st n cw cv m cu tb (spL n w) (spL n v) (huL m u) wt vt (spL i (ptS wt)) (spL i (ptS vt)) i)) ((0, .val (.bool false)) :: [(1, .tm 1 [((15 : Nat), (15 : Nat)), ((16 : Nat), (16 : Nat))])])) =
(((((some (.bool (decide ((i : Int) < n))) : Option Value) = some (.bool false))) ∧
R 1 (.exit 0) ⟨⟨[(I n), (I i), (I rw), (I st), (I 0), (I 0), (I rw), (I st)], [⟨n, n⟩, ⟨n, n⟩, ⟨n, cw⟩, ⟨n, cv⟩, ⟨m, cu⟩, ⟨i, i⟩, ⟨i, i⟩, ⟨m, cu⟩]⟩, [(tb), (spL n w), (spL n v), (huL m u), (ints n wt), (ints n vt), (spL i (ptS wt)), (spL i (ptS vt))], []⟩)) := by kernel_rfl
theorem b4p_t (rw : Nat) (st : Int) (n cw cv m cu hut : Nat) (w v : Nat → Sp) (u : Nat → Hut) (wt vt ro : Nat → Int) (fo : Nat → Bool) (tb : List Value) (want fst : Int) (gone : Bool) (i : Nat) (a c : Nat) (d : Bool) (R : Nat → AExit → Hw → Prop) : (vx.code none (.l p4) (leafW [T4, R4] R) (T4.inst (h4 rw st n cw cv m cu hut tb (spL n w) (spL n v) (huL m u) (spL n (ptS wt)) (spL n (ptS vt)) ro fo want gone fst i)) ((0, .val (.bool true)) :: (2, .val (.pointer (some ⟨18, 0 + i * 1, none⟩))) :: (0, .val (I (ro i))) :: (5, .con (CS2 rw st n n n m cu tb (spL n (ptS wt)) (spL n (ptS vt)) (huL m u) hut i (.tuple ⟨[I a, .bool false, I 0]⟩))) :: (10, .con (CS2 rw st n cw cv m cu tb (spL n w) (spL n v) (huL m u) hut i (.tuple ⟨[I c, .bool d, I 0]⟩))) :: [(2, .split ((13, .val (.bool false)) :: (4, .val (.bool true)) :: (3, .val (I (IntKind.i64.wrap ((1 : Int) * (2 : Int) ^ (ro i).toNat)))) :: (0, .val (.bool false)) :: (4, .val (.bool false)) :: (7, .val (.bool false)) :: (9, .val (.pointer (some ⟨19, 0 + i * 1, none⟩))) :: (0, .val (.bool true)) :: (3, .val (I (IntKind.i64.wrap ((1 : Int) * (2 : Int) ^ i)))) :: [(3, .split ((4, .val (.bool false)) :: [(3, .tm 0 [])]) ((2, .val (.bool false)) :: [(3, .tm 0 [])]))]) ((13, .val (.bool false)) :: (4, .val (.bool true)) :: (3, .val (I (IntKind.i64.wrap ((1 : Int) * (2 : Int) ^ (ro i).toNat)))) :: (0, .val (.bool false)) :: (4, .val (.bool false)) :: (7, .val (.bool false)) :: (9, .val (.pointer (some ⟨19, 0 + i * 1, none⟩))) :: (0, .val (.bool true)) :: (3, .val (I (IntKind.i64.wrap ((1 : Int) * (2 : Int) ^ i)))) :: [(3, .split ((4, .val (.bool false)) :: [(3, .tm 0 [])]) ((2, .val (.bool false)) :: [(3, .tm 0 [])]))]))])) =
(((((some (.bool (decide ((i : Int) < n))) : Option Value) = some (.bool true))) ∧
((((((0 : Int) ≤ i)) ∧ (((i : Int) < n))) ∧ (((.pointer (some ⟨18, 0 + i * 1, none⟩)) : Value) = (.pointer (some ⟨18, 0 + i * 1, none⟩)))) ∧
((((ints n ro)[0 + i * 1]? = some (I (ro i)))) ∧
((ConOK Tryd.prog 17 (CS2 rw st n n n m cu tb (spL n (ptS wt)) (spL n (ptS vt)) (huL m u) hut i (.tuple ⟨[I a, .bool false, I 0]⟩))) ∧ (Con.pre (CS2 rw st n n n m cu tb (spL n (ptS wt)) (spL n (ptS vt)) (huL m u) hut i (.tuple ⟨[I a, .bool false, I 0]⟩)) ⟨⟨[(I rw), (I st), (I hut), (I i)], [⟨n, n⟩, ⟨n, n⟩, ⟨m, cu⟩]⟩, [(tb), (spL n (ptS wt)), (spL n (ptS vt)), (huL m u)]⟩) ∧
((ConOK Tryd.prog 17 (CS2 rw st n cw cv m cu tb (spL n w) (spL n v) (huL m u) hut i (.tuple ⟨[I c, .bool d, I 0]⟩))) ∧ (Con.pre (CS2 rw st n cw cv m cu tb (spL n w) (spL n v) (huL m u) hut i (.tuple ⟨[I c, .bool d, I 0]⟩)) ⟨⟨[(I rw), (I st), (I hut), (I i)], [⟨n, cw⟩, ⟨n, cv⟩, ⟨m, cu⟩]⟩, [(tb), (spL n w), (spL n v), (huL m u)]⟩) ∧
(((d) = true → ((((some (.bool (decide (ro i < (0 : Int)))) : Option Value) = some (.bool false))) ∧
((((some (.bool (decide (ro i ≥ (0 : Int)))) : Option Value) = some (.bool true))) ∧
((((((0 : Int) ≤ ro i)) ∧ ((ro i ≤ (↑(64 : Nat) : Int)))) ∧ (((I (IntKind.i64.wrap ((1 : Int) * (2 : Int) ^ (ro i).toNat))) : Value) = (I (IntKind.i64.wrap ((1 : Int) * (2 : Int) ^ (ro i).toNat))))) ∧
((((some (.bool ((a : Int) != IntKind.i64.wrap ((1 : Int) * (2 : Int) ^ (ro i).toNat))) : Option Value) = some (.bool false))) ∧
((((some (.bool (decide (ro i < (0 : Int)))) : Option Value) = some (.bool false))) ∧
((((some (.bool (bits BinOp.andNot IntKind.i64 (a : Int) (c : Int) != 0)) : Option Value) = some (.bool false))) ∧
((((((0 : Int) ≤ i)) ∧ (((i : Int) < n))) ∧ (((.pointer (some ⟨19, 0 + i * 1, none⟩)) : Value) = (.pointer (some ⟨19, 0 + i * 1, none⟩)))) ∧
((((boolsL n fo)[0 + i * 1]? = some (.bool true))) ∧
((((((0 : Int) ≤ i)) ∧ (((i : Int) ≤ (↑(64 : Nat) : Int)))) ∧ (((I (IntKind.i64.wrap ((1 : Int) * (2 : Int) ^ i))) : Value) = (I (IntKind.i64.wrap ((1 : Int) * (2 : Int) ^ i))))) ∧
(((decide (fst < (0 : Int))) = true → ((((some (.bool (decide (ro i < (0 : Int)))) : Option Value) = some (.bool false))) ∧
R 0 .normal ⟨⟨[(I hut), (I (bits BinOp.or IntKind.i64 want (IntKind.i64.wrap ((1 : Int) * (2 : Int) ^ i)))), (.bool false), (I i), (I n), (I (IntKind.i64.wrap ((i : Int) + (1 : Int)))), (I rw), (I st), (I rw), (I st)], [⟨n, n⟩, ⟨n, n⟩, ⟨n, cw⟩, ⟨n, cv⟩, ⟨m, cu⟩, ⟨n, n⟩, ⟨n, n⟩, ⟨m, cu⟩]⟩, [(tb), (spL n w), (spL n v), (huL m u), (spL n (ptS wt)), (spL n (ptS vt)), (ints n ro), (boolsL n fo)], []⟩)) ∧
((decide (fst < (0 : Int))) = false → ((((some (.bool (decide (ro i < (0 : Int)))) : Option Value) = some (.bool false))) ∧
R 0 .normal ⟨⟨[(I hut), (I (bits BinOp.or IntKind.i64 want (IntKind.i64.wrap ((1 : Int) * (2 : Int) ^ i)))), (.bool false), (I fst), (I n), (I (IntKind.i64.wrap ((i : Int) + (1 : Int)))), (I rw), (I st), (I rw), (I st)], [⟨n, n⟩, ⟨n, n⟩, ⟨n, cw⟩, ⟨n, cv⟩, ⟨m, cu⟩, ⟨n, n⟩, ⟨n, n⟩, ⟨m, cu⟩]⟩, [(tb), (spL n w), (spL n v), (huL m u), (spL n (ptS wt)), (spL n (ptS vt)), (ints n ro), (boolsL n fo)], []⟩))))))))))))) ∧
((d) = false → ((((some (.bool (decide (ro i < (0 : Int)))) : Option Value) = some (.bool false))) ∧
((((some (.bool (decide (ro i ≥ (0 : Int)))) : Option Value) = some (.bool true))) ∧
((((((0 : Int) ≤ ro i)) ∧ ((ro i ≤ (↑(64 : Nat) : Int)))) ∧ (((I (IntKind.i64.wrap ((1 : Int) * (2 : Int) ^ (ro i).toNat))) : Value) = (I (IntKind.i64.wrap ((1 : Int) * (2 : Int) ^ (ro i).toNat))))) ∧
((((some (.bool ((a : Int) != IntKind.i64.wrap ((1 : Int) * (2 : Int) ^ (ro i).toNat))) : Option Value) = some (.bool false))) ∧
((((some (.bool (decide (ro i < (0 : Int)))) : Option Value) = some (.bool false))) ∧
((((some (.bool (bits BinOp.andNot IntKind.i64 (a : Int) (c : Int) != 0)) : Option Value) = some (.bool false))) ∧
((((((0 : Int) ≤ i)) ∧ (((i : Int) < n))) ∧ (((.pointer (some ⟨19, 0 + i * 1, none⟩)) : Value) = (.pointer (some ⟨19, 0 + i * 1, none⟩)))) ∧
((((boolsL n fo)[0 + i * 1]? = some (.bool true))) ∧
((((((0 : Int) ≤ i)) ∧ (((i : Int) ≤ (↑(64 : Nat) : Int)))) ∧ (((I (IntKind.i64.wrap ((1 : Int) * (2 : Int) ^ i))) : Value) = (I (IntKind.i64.wrap ((1 : Int) * (2 : Int) ^ i))))) ∧
(((decide (fst < (0 : Int))) = true → ((((some (.bool (decide (ro i < (0 : Int)))) : Option Value) = some (.bool false))) ∧
R 0 .normal ⟨⟨[(I hut), (I (bits BinOp.or IntKind.i64 want (IntKind.i64.wrap ((1 : Int) * (2 : Int) ^ i)))), (.bool false), (I i), (I n), (I (IntKind.i64.wrap ((i : Int) + (1 : Int)))), (I rw), (I st), (I rw), (I st)], [⟨n, n⟩, ⟨n, n⟩, ⟨n, cw⟩, ⟨n, cv⟩, ⟨m, cu⟩, ⟨n, n⟩, ⟨n, n⟩, ⟨m, cu⟩]⟩, [(tb), (spL n w), (spL n v), (huL m u), (spL n (ptS wt)), (spL n (ptS vt)), (ints n ro), (boolsL n fo)], []⟩)) ∧
((decide (fst < (0 : Int))) = false → ((((some (.bool (decide (ro i < (0 : Int)))) : Option Value) = some (.bool false))) ∧
R 0 .normal ⟨⟨[(I hut), (I (bits BinOp.or IntKind.i64 want (IntKind.i64.wrap ((1 : Int) * (2 : Int) ^ i)))), (.bool false), (I fst), (I n), (I (IntKind.i64.wrap ((i : Int) + (1 : Int)))), (I rw), (I st), (I rw), (I st)], [⟨n, n⟩, ⟨n, n⟩, ⟨n, cw⟩, ⟨n, cv⟩, ⟨m, cu⟩, ⟨n, n⟩, ⟨n, n⟩, ⟨m, cu⟩]⟩, [(tb), (spL n w), (spL n v), (huL m u), (spL n (ptS wt)), (spL n (ptS vt)), (ints n ro), (boolsL n fo)], []⟩)))))))))))))))))))) := by kernel_rfl
theorem b4p_f (rw : Nat) (st : Int) (n cw cv m cu hut : Nat) (w v : Nat → Sp) (u : Nat → Hut) (wt vt ro : Nat → Int) (fo : Nat → Bool) (tb : List Value) (want fst : Int) (gone : Bool) (i : Nat) (a c : Nat) (d : Bool) (R : Nat → AExit → Hw → Prop) : (vx.code none (.l p4) (leafW [T4, R4] R) (T4.inst (h4 rw st n cw cv m cu hut tb (spL n w) (spL n v) (huL m u) (spL n (ptS wt)) (spL n (ptS vt)) ro fo want gone fst i)) ((0, .val (.bool true)) :: (2, .val (.pointer (some ⟨18, 0 + i * 1, none⟩))) :: (0, .val (I (ro i))) :: (5, .con (CS2 rw st n n n m cu tb (spL n (ptS wt)) (spL n (ptS vt)) (huL m u) hut i (.tuple ⟨[I a, .bool false, I 0]⟩))) :: (10, .con (CS2 rw st n cw cv m cu tb (spL n w) (spL n v) (huL m u) hut i (.tuple ⟨[I c, .bool d, I 0]⟩))) :: [(2, .split ((13, .val (.bool false)) :: (4, .val (.bool true)) :: (3, .val (I (IntKind.i64.wrap ((1 : Int) * (2 : Int) ^ (ro i).toNat)))) :: (0, .val (.bool false)) :: (4, .val (.bool false)) :: (7, .val (.bool false)) :: (9, .val (.pointer (some ⟨19, 0 + i * 1, none⟩))) :: (0, .val (.bool false)) :: (2, .val (.bool false)) :: [(3, .tm 0 [])]) ((13, .val (.bool false)) :: (4, .val (.bool true)) :: (3, .val (I (IntKind.i64.wrap ((1 : Int) * (2 : Int) ^ (ro i).toNat)))) :: (0, .val (.bool false)) :: (4, .val (.bool false)) :: (7, .val (.bool false)) :: (9, .val (.pointer (some ⟨19, 0 + i * 1, none⟩))) :: (0, .val (.bool false)) :: (2, .val (.bool false)) :: [(3, .tm 0 [])]))])) =
(((((some (.bool (decide ((i : Int) < n))) : Option Value) = some (.bool true))) ∧
((((((0 : Int) ≤ i)) ∧ (((i : Int) < n))) ∧ (((.pointer (some ⟨18, 0 + i * 1, none⟩)) : Value) = (.pointer (some ⟨18, 0 + i * 1, none⟩)))) ∧
((((ints n ro)[0 + i * 1]? = some (I (ro i)))) ∧
((ConOK Tryd.prog 17 (CS2 rw st n n n m cu tb (spL n (ptS wt)) (spL n (ptS vt)) (huL m u) hut i (.tuple ⟨[I a, .bool false, I 0]⟩))) ∧ (Con.pre (CS2 rw st n n n m cu tb (spL n (ptS wt)) (spL n (ptS vt)) (huL m u) hut i (.tuple ⟨[I a, .bool false, I 0]⟩)) ⟨⟨[(I rw), (I st), (I hut), (I i)], [⟨n, n⟩, ⟨n, n⟩, ⟨m, cu⟩]⟩, [(tb), (spL n (ptS wt)), (spL n (ptS vt)), (huL m u)]⟩) ∧
((ConOK Tryd.prog 17 (CS2 rw st n cw cv m cu tb (spL n w) (spL n v) (huL m u) hut i (.tuple ⟨[I c, .bool d, I 0]⟩))) ∧ (Con.pre (CS2 rw st n cw cv m cu tb (spL n w) (spL n v) (huL m u) hut i (.tuple ⟨[I c, .bool d, I 0]⟩)) ⟨⟨[(I rw), (I st), (I hut), (I i)], [⟨n, cw⟩, ⟨n, cv⟩, ⟨m, cu⟩]⟩, [(tb), (spL n w), (spL n v), (huL m u)]⟩) ∧
(((d) = true → ((((some (.bool (decide (ro i < (0 : Int)))) : Option Value) = some (.bool false))) ∧
((((some (.bool (decide (ro i ≥ (0 : Int)))) : Option Value) = some (.bool true))) ∧
((((((0 : Int) ≤ ro i)) ∧ ((ro i ≤ (↑(64 : Nat) : Int)))) ∧ (((I (IntKind.i64.wrap ((1 : Int) * (2 : Int) ^ (ro i).toNat))) : Value) = (I (IntKind.i64.wrap ((1 : Int) * (2 : Int) ^ (ro i).toNat))))) ∧
((((some (.bool ((a : Int) != IntKind.i64.wrap ((1 : Int) * (2 : Int) ^ (ro i).toNat))) : Option Value) = some (.bool false))) ∧
((((some (.bool (decide (ro i < (0 : Int)))) : Option Value) = some (.bool false))) ∧
((((some (.bool (bits BinOp.andNot IntKind.i64 (a : Int) (c : Int) != 0)) : Option Value) = some (.bool false))) ∧
((((((0 : Int) ≤ i)) ∧ (((i : Int) < n))) ∧ (((.pointer (some ⟨19, 0 + i * 1, none⟩)) : Value) = (.pointer (some ⟨19, 0 + i * 1, none⟩)))) ∧
((((boolsL n fo)[0 + i * 1]? = some (.bool false))) ∧
((((some (.bool (decide (ro i < (0 : Int)))) : Option Value) = some (.bool false))) ∧
R 0 .normal ⟨⟨[(I hut), (I want), (.bool false), (I fst), (I n), (I (IntKind.i64.wrap ((i : Int) + (1 : Int)))), (I rw), (I st), (I rw), (I st)], [⟨n, n⟩, ⟨n, n⟩, ⟨n, cw⟩, ⟨n, cv⟩, ⟨m, cu⟩, ⟨n, n⟩, ⟨n, n⟩, ⟨m, cu⟩]⟩, [(tb), (spL n w), (spL n v), (huL m u), (spL n (ptS wt)), (spL n (ptS vt)), (ints n ro), (boolsL n fo)], []⟩)))))))))) ∧
((d) = false → ((((some (.bool (decide (ro i < (0 : Int)))) : Option Value) = some (.bool false))) ∧
((((some (.bool (decide (ro i ≥ (0 : Int)))) : Option Value) = some (.bool true))) ∧
((((((0 : Int) ≤ ro i)) ∧ ((ro i ≤ (↑(64 : Nat) : Int)))) ∧ (((I (IntKind.i64.wrap ((1 : Int) * (2 : Int) ^ (ro i).toNat))) : Value) = (I (IntKind.i64.wrap ((1 : Int) * (2 : Int) ^ (ro i).toNat))))) ∧
((((some (.bool ((a : Int) != IntKind.i64.wrap ((1 : Int) * (2 : Int) ^ (ro i).toNat))) : Option Value) = some (.bool false))) ∧
((((some (.bool (decide (ro i < (0 : Int)))) : Option Value) = some (.bool false))) ∧
((((some (.bool (bits BinOp.andNot IntKind.i64 (a : Int) (c : Int) != 0)) : Option Value) = some (.bool false))) ∧
((((((0 : Int) ≤ i)) ∧ (((i : Int) < n))) ∧ (((.pointer (some ⟨19, 0 + i * 1, none⟩)) : Value) = (.pointer (some ⟨19, 0 + i * 1, none⟩)))) ∧
((((boolsL n fo)[0 + i * 1]? = some (.bool false))) ∧
((((some (.bool (decide (ro i < (0 : Int)))) : Option Value) = some (.bool false))) ∧
R 0 .normal ⟨⟨[(I hut), (I want), (.bool false), (I fst), (I n), (I (IntKind.i64.wrap ((i : Int) + (1 : Int)))), (I rw), (I st), (I rw), (I st)], [⟨n, n⟩, ⟨n, n⟩, ⟨n, cw⟩, ⟨n, cv⟩, ⟨m, cu⟩, ⟨n, n⟩, ⟨n, n⟩, ⟨m, cu⟩]⟩, [(tb), (spL n w), (spL n v), (huL m u), (spL n (ptS wt)), (spL n (ptS vt)), (ints n ro), (boolsL n fo)], []⟩))))))))))))))))) := by kernel_rfl
theorem b4n_t (rw : Nat) (st : Int) (n cw cv m cu hut : Nat) (w v : Nat → Sp) (u : Nat → Hut) (wt vt ro : Nat → Int) (fo : Nat → Bool) (tb : List Value) (want fst : Int) (gone : Bool) (i : Nat) (a c : Nat) (R : Nat → AExit → Hw → Prop) : (vx.code none (.l p4) (leafW [T4, R4] R) (T4.inst (h4 rw st n cw cv m cu hut tb (spL n w) (spL n v) (huL m u) (spL n (ptS wt)) (spL n (ptS vt)) ro fo want gone fst i)) ((0, .val (.bool true)) :: (2, .val (.pointer (some ⟨18, 0 + i * 1, none⟩))) :: (0, .val (I (ro i))) :: (5, .con (CS2 rw st n n n m cu tb (spL n (ptS wt)) (spL n (ptS vt)) (huL m u) hut i (.tuple ⟨[I 0, .bool true, I 0]⟩))) :: (10, .con (CS2 rw st n cw cv m cu tb (spL n w) (spL n v) (huL m u) hut i (.tuple ⟨[I c, .bool true, I 0]⟩))) :: (16, .val (.bool true)) :: (4, .val (.bool false)) :: (5, .val (.bool true)) :: (21, .val (.pointer (some ⟨19, 0 + i * 1, none⟩))) :: (0, .val (.bool true)) :: (3, .val (I (IntKind.i64.wrap ((1 : Int) * (2 : Int) ^ i)))) :: [(3, .split ((4, .val (.bool true)) :: [(3, .tm 0 [])]) ((2, .val (.bool true)) :: [(3, .tm 0 [])]))])) =
(((((some (.bool (decide ((i : Int) < n))) : Option Value) = some (.bool true))) ∧
((((((0 : Int) ≤ i)) ∧ (((i : Int) < n))) ∧ (((.pointer (some ⟨18, 0 + i * 1, none⟩)) : Value) = (.pointer (some ⟨18, 0 + i * 1, none⟩)))) ∧
((((ints n ro)[0 + i * 1]? = some (I (ro i)))) ∧
((ConOK Tryd.prog 17 (CS2 rw st n n n m cu tb (spL n (ptS wt)) (spL n (ptS vt)) (huL m u) hut i (.tuple ⟨[I 0, .bool true, I 0]⟩))) ∧ (Con.pre (CS2 rw st n n n m cu tb (spL n (ptS wt)) (spL n (ptS vt)) (huL m u) hut i (.tuple ⟨[I 0, .bool true, I 0]⟩)) ⟨⟨[(I rw), (I st), (I hut), (I i)], [⟨n, n⟩, ⟨n, n⟩, ⟨m, cu⟩]⟩, [(tb), (spL n (ptS wt)), (spL n (ptS vt)), (huL m u)]⟩) ∧
((ConOK Tryd.prog 17 (CS2 rw st n cw cv m cu tb (spL n w) (spL n v) (huL m u) hut i (.tuple ⟨[I c, .bool true, I 0]⟩))) ∧ (Con.pre (CS2 rw st n cw cv m cu tb (spL n w) (spL n v) (huL m u) hut i (.tuple ⟨[I c, .bool true, I 0]⟩)) ⟨⟨[(I rw), (I st), (I hut), (I i)], [⟨n, cw⟩, ⟨n, cv⟩, ⟨m, cu⟩]⟩, [(tb), (spL n w), (spL n v), (huL m u)]⟩) ∧
((((some (.bool (decide (ro i < (0 : Int)))) : Option Value) = some (.bool true))) ∧
((((some (.bool (decide (ro i ≥ (0 : Int)))) : Option Value) = some (.bool false))) ∧
((((some (.bool (decide (ro i < (0 : Int)))) : Option Value) = some (.bool true))) ∧
((((((0 : Int) ≤ i)) ∧ (((i : Int) < n))) ∧ (((.pointer (some ⟨19, 0 + i * 1, none⟩)) : Value) = (.pointer (some ⟨19, 0 + i * 1, none⟩)))) ∧
((((boolsL n fo)[0 + i * 1]? = some (.bool true))) ∧
((((((0 : Int) ≤ i)) ∧ (((i : Int) ≤ (↑(64 : Nat) : Int)))) ∧ (((I (IntKind.i64.wrap ((1 : Int) * (2 : Int) ^ i))) : Value) = (I (IntKind.i64.wrap ((1 : Int) * (2 : Int) ^ i))))) ∧
(((decide (fst < (0 : Int))) = true → ((((some (.bool (decide (ro i < (0 : Int)))) : Option Value) = some (.bool true))) ∧
R 0 .normal ⟨⟨[(I hut), (I (bits BinOp.or IntKind.i64 want (IntKind.i64.wrap ((1 : Int) * (2 : Int) ^ i)))), (.bool true), (I i), (I n), (I (IntKind.i64.wrap ((i : Int) + (1 : Int)))), (I rw), (I st), (I rw), (I st)], [⟨n, n⟩, ⟨n, n⟩, ⟨n, cw⟩, ⟨n, cv⟩, ⟨m, cu⟩, ⟨n, n⟩, ⟨n, n⟩, ⟨m, cu⟩]⟩, [(tb), (spL n w), (spL n v), (huL m u), (spL n (ptS wt)), (spL n (ptS vt)), (ints n ro), (boolsL n fo)], []⟩)) ∧
((decide (fst < (0 : Int))) = false → ((((some (.bool (decide (ro i < (0 : Int)))) : Option Value) = some (.bool true))) ∧
R 0 .normal ⟨⟨[(I hut), (I (bits BinOp.or IntKind.i64 want (IntKind.i64.wrap ((1 : Int) * (2 : Int) ^ i)))), (.bool true), (I fst), (I n), (I (IntKind.i64.wrap ((i : Int) + (1 : Int)))), (I rw), (I st), (I rw), (I st)], [⟨n, n⟩, ⟨n, n⟩, ⟨n, cw⟩, ⟨n, cv⟩, ⟨m, cu⟩, ⟨n, n⟩, ⟨n, n⟩, ⟨m, cu⟩]⟩, [(tb), (spL n w), (spL n v), (huL m u), (spL n (ptS wt)), (spL n (ptS vt)), (ints n ro), (boolsL n fo)], []⟩))))))))))))))) := by kernel_rfl
theorem b4ntf (rw : Nat) (st : Int) (n cw cv m cu hut : Nat) (w v : Nat → Sp) (u : Nat → Hut) (wt vt ro : Nat → Int) (fo : Nat → Bool) (tb : List Value) (want fst : Int) (gone : Bool) (i : Nat) (a c : Nat) (R : Nat → AExit → Hw → Prop) : (vx.code none (.l p4) (leafW [T4, R4] R) (T4.inst (h4 rw st n cw cv m cu hut tb (spL n w) (spL n v) (huL m u) (spL n (ptS wt)) (spL n (ptS vt)) ro fo want gone fst i)) ((0, .val (.bool true)) :: (2, .val (.pointer (some ⟨18, 0 + i * 1, none⟩))) :: (0, .val (I (ro i))) :: (5, .con (CS2 rw st n n n m cu tb (spL n (ptS wt)) (spL n (ptS vt)) (huL m u) hut i (.tuple ⟨[I 0, .bool true, I 0]⟩))) :: (10, .con (CS2 rw st n cw cv m cu tb (spL n w) (spL n v) (huL m u) hut i (.tuple ⟨[I c, .bool true, I 0]⟩))) :: (16, .val (.bool true)) :: (4, .val (.bool false)) :: (5, .val (.bool true)) :: (21, .val (.pointer (some ⟨19, 0 + i * 1, none⟩))) :: (0, .val (.bool false)) :: (2, .val (.bool true)) :: [(3, .tm 0 [])])) =
(((((some (.bool (decide ((i : Int) < n))) : Option Value) = some (.bool true))) ∧
((((((0 : Int) ≤ i)) ∧ (((i : Int) < n))) ∧ (((.pointer (some ⟨18, 0 + i * 1, none⟩)) : Value) = (.pointer (some ⟨18, 0 + i * 1, none⟩)))) ∧
((((ints n ro)[0 + i * 1]? = some (I (ro i)))) ∧
((ConOK Tryd.prog 17 (CS2 rw st n n n m cu tb (spL n (ptS wt)) (spL n (ptS vt)) (huL m u) hut i (.tuple ⟨[I 0, .bool true, I 0]⟩))) ∧ (Con.pre (CS2 rw st n n n m cu tb (spL n (ptS wt)) (spL n (ptS vt)) (huL m u) hut i (.tuple ⟨[I 0, .bool true, I 0]⟩)) ⟨⟨[(I rw), (I st), (I hut), (I i)], [⟨n, n⟩, ⟨n, n⟩, ⟨m, cu⟩]⟩, [(tb), (spL n (ptS wt)), (spL n (ptS vt)), (huL m u)]⟩) ∧
((ConOK Tryd.prog 17 (CS2 rw st n cw cv m cu tb (spL n w) (spL n v) (huL m u) hut i (.tuple ⟨[I c, .bool true, I 0]⟩))) ∧ (Con.pre (CS2 rw st n cw cv m cu tb (spL n w) (spL n v) (huL m u) hut i (.tuple ⟨[I c, .bool true, I 0]⟩)) ⟨⟨[(I rw), (I st), (I hut), (I i)], [⟨n, cw⟩, ⟨n, cv⟩, ⟨m, cu⟩]⟩, [(tb), (spL n w), (spL n v), (huL m u)]⟩) ∧
((((some (.bool (decide (ro i < (0 : Int)))) : Option Value) = some (.bool true))) ∧
((((some (.bool (decide (ro i ≥ (0 : Int)))) : Option Value) = some (.bool false))) ∧
((((some (.bool (decide (ro i < (0 : Int)))) : Option Value) = some (.bool true))) ∧
((((((0 : Int) ≤ i)) ∧ (((i : Int) < n))) ∧ (((.pointer (some ⟨19, 0 + i * 1, none⟩)) : Value) = (.pointer (some ⟨19, 0 + i * 1, none⟩)))) ∧
((((boolsL n fo)[0 + i * 1]? = some (.bool false))) ∧
((((some (.bool (decide (ro i < (0 : Int)))) : Option Value) = some (.bool true))) ∧
R 0 .normal ⟨⟨[(I hut), (I want), (.bool true), (I fst), (I n), (I (IntKind.i64.wrap ((i : Int) + (1 : Int)))), (I rw), (I st), (I rw), (I st)], [⟨n, n⟩, ⟨n, n⟩, ⟨n, cw⟩, ⟨n, cv⟩, ⟨m, cu⟩, ⟨n, n⟩, ⟨n, n⟩, ⟨m, cu⟩]⟩, [(tb), (spL n w), (spL n v), (huL m u), (spL n (ptS wt)), (spL n (ptS vt)), (ints n ro), (boolsL n fo)], []⟩)))))))))))) := by kernel_rfl
theorem b4e (rw : Nat) (st : Int) (n cw cv m cu hut : Nat) (w v : Nat → Sp) (u : Nat → Hut) (wt vt ro : Nat → Int) (fo : Nat → Bool) (tb : List Value) (want fst : Int) (gone : Bool) (i : Nat) (R : Nat → AExit → Hw → Prop) : (vx.code none (.l p4) (leafW [T4, R4] R) (T4.inst (h4 rw st n cw cv m cu hut tb (spL n w) (spL n v) (huL m u) (spL n (ptS wt)) (spL n (ptS vt)) ro fo want gone fst i)) ((0, .val (.bool false)) :: [(1, .tm 0 [])])) =
(((((some (.bool (decide ((i : Int) < n))) : Option Value) = some (.bool false))) ∧
R 0 (.exit 0) ⟨⟨[(I hut), (I want), (.bool gone), (I fst), (I n), (I i), (I rw), (I st), (I rw), (I st)], [⟨n, n⟩, ⟨n, n⟩, ⟨n, cw⟩, ⟨n, cv⟩, ⟨m, cu⟩, ⟨n, n⟩, ⟨n, n⟩, ⟨m, cu⟩]⟩, [(tb), (spL n w), (spL n v), (huL m u), (spL n (ptS wt)), (spL n (ptS vt)), (ints n ro), (boolsL n fo)], []⟩)) := by kernel_rfl
theorem or_tab8 : ((List.range 256).all fun a => (List.range 8).all fun j => bits BinOp.or IntKind.i64 (a : Int) (IntKind.i64.wrap ((1 : Int) * (2 : Int) ^ j)) == ((a ||| 2 ^ j : Nat) : Int)) = true := by kernel_rfl
theorem or_one {a j : Nat} (ha : a < 256) (hj : j < 8) : bits BinOp.or IntKind.i64 (a : Int) (IntKind.i64.wrap ((1 : Int) * (2 : Int) ^ j)) = ((a ||| 2 ^ j : Nat) : Int) :=
 beq_iff_eq.1 (List.all_eq_true.1 (List.all_eq_true.1 or_tab8 a (List.mem_range.2 ha)) j (List.mem_range.2 hj))
theorem take_spL (n : Nat) (o : Nat → Sp) : List.take (n * 2) (spL n o) = spL n o := by rw [← spL_len n o, List.take_length]
section
variable {rw : Nat} {st : Int} {n cw cv m cu hut : Nat} {w v : Nat → Sp} {u : Nat → Hut} {wt vt : Nat → Int}
noncomputable def st22 (rw st : Int) (n cw cv m cu : Nat) (w v : Nat → Sp) (u : Nat → Hut) (wt vt : Nat → Int) : Nat → Nat × Hw
 | 0 => (0, h22a rw st n cw cv m cu tabC (spL n w) (spL n v) (huL m u) wt vt 0)
 | i + 1 => (1, h22b rw st n cw cv m cu tabC (spL n w) (spL n v) (huL m u) wt vt (spL (i + 1) (ptS wt)) (spL (i + 1) (ptS vt)) (i + 1))
theorem cl22 (i : Nat) : ClW (st22 rw st n cw cv m cu w v u wt vt i).2 := by
 cases i with
 | zero =>
  refine ⟨fun cs hc => ?_, fun es hc => (by cases hc)⟩
  simp only [st22, h22a, List.mem_cons, List.not_mem_nil, or_false] at hc
  rcases hc with rfl | rfl | rfl | rfl | rfl | rfl
  · exact tabC_at
  · exact spL_at _ _
  · exact spL_at _ _
  · exact huL_at _ _
  · exact ints_at _ _
  · exact ints_at _ _
 | succ i =>
  refine ⟨fun cs hc => ?_, fun es hc => (by cases hc)⟩
  simp only [st22, h22b, List.mem_cons, List.not_mem_nil, or_false] at hc
  rcases hc with rfl | rfl | rfl | rfl | rfl | rfl | rfl | rfl
  · exact tabC_at
  · exact spL_at _ _
  · exact spL_at _ _
  · exact huL_at _ _
  · exact ints_at _ _
  · exact ints_at _ _
  · exact spL_at _ _
  · exact spL_at _ _
theorem loop22 (h0 : 0 < n) (h8 : n ≤ 8) : LoopOW Tryd.prog none p22 T22a (h22a rw st n cw cv m cu tabC (spL n w) (spL n v) (huL m u) wt vt 0) (.exit 0) T22b (h22b rw st n cw cv m cu tabC (spL n w) (spL n v) (huL m u) wt vt (spL n (ptS wt)) (spL n (ptS vt)) n) := by
 have hst : st22 rw st n cw cv m cu w v u wt vt n = (1, h22b rw st n cw cv m cu tabC (spL n w) (spL n v) (huL m u) wt vt (spL n (ptS wt)) (spL n (ptS vt)) n) := by
  obtain ⟨j, rfl⟩ : ∃ j, n = j + 1 := ⟨n - 1, by omega⟩
  rfl
 have main := loop_forW (P := Tryd.prog) (ro := none) (p := p22) (Ts := [T22a, T22b]) (k := 15) (n := n) (e := .exit 0) (st := st22 rw st n cw cv m cu w v u wt vt) rfl vx_sound (by
  intro T hT
  simp only [List.mem_cons, List.not_mem_nil, or_false] at hT
  rcases hT with rfl | rfl <;> rfl) (by rw [nglob]; omega) ⟨by simp, trivial⟩ (fun i _ => cl22 i) (fun i hi R hR => by
  have hw : IntKind.i64.wrap ((i : Int) + 1) = ((i + 1 : Nat) : Int) := wrapI (by omega) (by omega)
  have sw : spL (i + 1) (ptS wt) = spL i (ptS wt) ++ [I (wt i), I (wt i)] := flatC_succ
  have sv : spL (i + 1) (ptS vt) = spL i (ptS vt) ++ [I (vt i), I (vt i)] := flatC_succ
  cases i with
  | zero =>
   refine ⟨T22a, _, rfl, (b22a rw st n cw cv m cu 0 tabC w v u wt vt R).mpr ?_⟩
   rw [hw]
   repeat' (first | with_reducible apply And.intro | with_reducible intro)
   all_goals first
    | exact tt (decide_eq_true (by omega))
    | exact ints_get _ hi
    | exact hR
    | trivial
    | rfl
    | omega
  | succ i =>
   have hR : R 1 .normal (h22b rw st n cw cv m cu tabC (spL n w) (spL n v) (huL m u) wt vt (spL (i + 1 + 1) (ptS wt)) (spL (i + 1 + 1) (ptS vt)) (i + 1 + 1)) := hR
   rw [sw, sv] at hR
   refine ⟨T22b, _, rfl, (b22b rw st n cw cv m cu (i + 1) tabC w v u wt vt R).mpr ?_⟩
   rw [hw, take_spL, take_spL]
   repeat' (first | with_reducible apply And.intro | with_reducible intro)
   all_goals first
    | exact tt (decide_eq_true (by omega))
    | exact ints_get _ hi
    | exact hR
    | trivial
    | rfl
    | omega
    | (rw [spL_len])) (fun R hR => by
  rw [hst] at hR ⊢
  exact ⟨T22b, _, rfl, (b22c rw st n cw cv m cu n tabC w v u wt vt R).mpr ⟨tf (decide_eq_false (by omega)), hR⟩⟩) (T0 := T22a) (T1 := T22b) rfl (Nat.le_of_ble_eq_true rfl) (by decide) (by rw [hst]; rfl)
 rw [hst] at main
 exact main
theorem boolsL_get2 {n i : Nat} (b : Nat → Bool) (h : i < n) : (boolsL n b)[0 + i * 1]? = some (.bool (b i)) := boolsL_get b h
theorem cl4 {a : List Value} {b : List (Nat × Nat)} {x y : Nat → Sp} {ro : Nat → Int} {fo : Nat → Bool} : ClW ⟨⟨a, b⟩, [tabC, spL n w, spL n v, huL m u, spL n x, spL n y, ints n ro, boolsL n fo], []⟩ := by
 refine ⟨fun cs hc => ?_, fun e hc => (by cases hc)⟩
 simp only [List.mem_cons, List.not_mem_nil, or_false] at hc
 rcases hc with rfl | rfl | rfl | rfl | rfl | rfl | rfl | rfl
 · exact tabC_at
 · exact spL_at _ _
 · exact spL_at _ _
 · exact huL_at _ _
 · exact spL_at _ _
 · exact spL_at _ _
 · exact ints_at _ _
 · exact boolsL_at _ _
noncomputable def s4 (rw : Nat) (st : Int) (n cw cv m cu hut : Nat) (w v : Nat → Sp) (u : Nat → Hut) (wt vt : Nat → Int) (i : Nat) : Hw :=
 h4 rw st n cw cv m cu hut tabC (spL n w) (spL n v) (huL m u) (spL n (ptS wt)) (spL n (ptS vt)) (roF st (u hut) wt vt) (foF st (u hut) wt vt) (fobits (foF st (u hut) wt vt) i : Nat) (goF (roF st (u hut) wt vt) i) (ffst (foF st (u hut) wt vt) i) i
theorem and_pow {q r : Nat} (h : q < r) : 2 ^ q &&& (2 ^ r - 1) = 2 ^ q := by
 rw [Nat.and_two_pow_sub_one_eq_mod]
 exact Nat.mod_eq_of_lt (Nat.pow_lt_pow_right (by omega) h)
theorem and_pow6 {r : Nat} (h : r ≤ 6) : 2 ^ 6 &&& (2 ^ r - 1) = 0 := by
 rw [Nat.and_two_pow_sub_one_eq_mod]
 exact Nat.mod_eq_zero_of_dvd (Nat.pow_dvd_pow 2 h)
theorem loop4 (hS : SOK rw st n w v) (hU : HUK rw m u) (hh : hut < m) (ht : TrOK w v n wt vt) :
    LoopOW Tryd.prog none p4 T4 (s4 rw st n cw cv m cu hut w v u wt vt 0) (.exit 0) T4 (s4 rw st n cw cv m cu hut w v u wt vt n) := by
 have h8 := hS.n8
 have h6 := hS.rw6
 have h5 := hU.m5
 obtain ⟨u0, u1, u2, u3, u4⟩ := hU.u hut hh
 have hr6 : (u hut).row < 6 := by omega
 refine loop_forW (Ts := [T4, R4]) (k := 20) (n := n) (e := .exit 0) (st := fun i => (0, s4 rw st n cw cv m cu hut w v u wt vt i)) rfl vx_sound ?_ (by rw [nglob]; omega) ⟨by simp, trivial⟩ (fun i _ => cl4) (fun i hi R hR => ?_) (fun R hR => ?_) rfl (Nat.le_of_ble_eq_true rfl) (by decide) rfl
 · intro T hT; simp only [List.mem_cons, List.not_mem_nil, or_false] at hT; rcases hT with rfl | rfl <;> rfl
 · have hw : IntKind.i64.wrap ((i : Int) + 1) = ((i + 1 : Nat) : Int) := wrapI (by omega) (by omega)
   have hX := C17_ok (cw := n) (cv := n) (cu := cu) (SOK_pt hS ht) hU hh hi
   have hC := C17_ok (cw := cw) (cv := cv) (cu := cu) hS hU hh hi
   obtain ⟨c1, c2, c3⟩ := course_true (rw := 0) (st := st) (fl := (u hut).fl) (br := (u hut).br) hr6 ht (i + 1) (by omega)
   have c4 := crs_lt (st := st) (w := w) (v := v) (fl := (u hut).fl) (br := (u hut).br) (row := (u hut).row) (by omega) (i + 1)
   have c2 : -1 ≤ roF st (u hut) wt vt i := c2
   have c3 : roF st (u hut) wt vt i ≤ (u hut).row := c3
   have c1 : (crH st w v (u hut) (i + 1)).testBit (rowN (roF st (u hut) wt vt i)) = true := c1
   have c4 : crH st w v (u hut) (i + 1) < 128 := c4
   have ha2 : crH st w v (u hut) (i + 1) &&& (2 ^ rw - 1) ≤ crH st w v (u hut) (i + 1) := Nat.and_le_left
   rw [show ((rw : Int)).toNat = rw from rfl] at hC hX
   rw [show crH st (ptS wt) (ptS vt) (u hut) (i + 1) = 2 ^ rowN (roF st (u hut) wt vt i) from crH_pt (n := n) hr6 (by omega)] at hX
   have hfo := boolsL_get2 (foF st (u hut) wt vt) hi
   have hro := ints_get (n := n) (roF st (u hut) wt vt) hi
   have hor := or_one (fobits_256 (fo := foF st (u hut) wt vt) (n := i) (by omega)) (show i < 8 by omega)
   obtain ⟨g1, g2⟩ := ffst_ge (foF st (u hut) wt vt) i
   have hR : R 0 .normal (h4 rw st n cw cv m cu hut tabC (spL n w) (spL n v) (huL m u) (spL n (ptS wt)) (spL n (ptS vt)) (roF st (u hut) wt vt) (foF st (u hut) wt vt) (fobits (foF st (u hut) wt vt) (i + 1) : Nat) (decide (roF st (u hut) wt vt i < 0)) (ffst (foF st (u hut) wt vt) (i + 1)) (i + 1)) := hR
   have hFT : foF st (u hut) wt vt i = true → fobits (foF st (u hut) wt vt) (i + 1) = fobits (foF st (u hut) wt vt) i ||| 2 ^ i := fun h => if_pos h
   have hFF : foF st (u hut) wt vt i = false → fobits (foF st (u hut) wt vt) (i + 1) = fobits (foF st (u hut) wt vt) i := fun h => if_neg (by rw [h]; simp)
   have hfT : foF st (u hut) wt vt i = true → ffst (foF st (u hut) wt vt) i < 0 → ffst (foF st (u hut) wt vt) (i + 1) = i := fun h h' => if_pos ⟨h, h'⟩
   have hfN : ¬ (foF st (u hut) wt vt i = true ∧ ffst (foF st (u hut) wt vt) i < 0) → ffst (foF st (u hut) wt vt) (i + 1) = ffst (foF st (u hut) wt vt) i := fun h => if_neg h
   unfold s4
   generalize roF st (u hut) wt vt = ro at *
   generalize foF st (u hut) wt vt = fo at *
   by_cases hge : ro i ≥ 0
   · have hrn : rowN (ro i) = (ro i).toNat := if_neg (by omega)
     rw [decide_eq_false (show ¬ ro i < 0 by omega)] at hR
     rw [hrn] at c1 hX
     have hq : (ro i).toNat < rw := by omega
     have hpw : IntKind.i64.wrap ((1 : Int) * (2 : Int) ^ (ro i).toNat) = ((2 ^ (ro i).toNat : Nat) : Int) := one_row (by omega)
     have ht6 : Nat.testBit (2 ^ (ro i).toNat) 6 = false := by rw [Nat.testBit_two_pow, decide_eq_false (by omega)]
     rw [and_pow hq, ht6] at hX
     have hp7 := pow_lt7 (j := (ro i).toNat) (by omega)
     have hne : (((2 ^ (ro i).toNat : Nat) : Int) != IntKind.i64.wrap ((1 : Int) * (2 : Int) ^ (ro i).toNat)) = false := by rw [hpw]; simp
     have han := an_eq (x := 2 ^ (ro i).toNat) (y := crH st w v (u hut) (i + 1) &&& (2 ^ rw - 1)) (by omega) (by omega) (fun j hj => by
      obtain rfl := bit_pow hj
      rw [Nat.testBit_and, c1, Nat.testBit_two_pow_sub_one, decide_eq_true hq]; rfl)
     cases hf : fo i with
     | true =>
      rw [hFT hf, ← hor] at hR
      have hR1 : ffst fo i < 0 → _ := fun hlt => by rw [hfT hf hlt] at hR; exact hR
      have hR2 : ¬ ffst fo i < 0 → _ := fun hlt => by rw [hfN (fun h => hlt h.2)] at hR; exact hR
      unfold h4 at hR1 hR2
      rw [← hw] at hR1 hR2
      rw [hf] at hfo
      exact ⟨T4, _, rfl, (b4p_t rw st n cw cv m cu hut w v u wt vt ro fo tabC (fobits fo i : Nat) (ffst fo i) (goF ro i) i (2 ^ (ro i).toNat) (crH st w v (u hut) (i + 1) &&& (2 ^ rw - 1)) ((crH st w v (u hut) (i + 1)).testBit 6) R).mpr ⟨tt (decide_eq_true (by omega)), ⟨⟨by omega, by omega⟩, rfl⟩, hro, hX, rfl, hC, rfl, fun _ => ⟨tf (decide_eq_false (by omega)), tt (decide_eq_true hge), ⟨⟨hge, by omega⟩, rfl⟩, tf hne, tf (decide_eq_false (by omega)), tf han, ⟨⟨by omega, by omega⟩, rfl⟩, hfo, ⟨⟨by omega, by omega⟩, rfl⟩, fun hlt => ⟨tf (decide_eq_false (by omega)), hR1 (of_decide_eq_true hlt)⟩, fun hlt => ⟨tf (decide_eq_false (by omega)), hR2 (of_decide_eq_false hlt)⟩⟩, fun _ => ⟨tf (decide_eq_false (by omega)), tt (decide_eq_true hge), ⟨⟨hge, by omega⟩, rfl⟩, tf hne, tf (decide_eq_false (by omega)), tf han, ⟨⟨by omega, by omega⟩, rfl⟩, hfo, ⟨⟨by omega, by omega⟩, rfl⟩, fun hlt => ⟨tf (decide_eq_false (by omega)), hR1 (of_decide_eq_true hlt)⟩, fun hlt => ⟨tf (decide_eq_false (by omega)), hR2 (of_decide_eq_false hlt)⟩⟩⟩⟩
     | false =>
      rw [hFF hf, hfN (fun h => by rw [hf] at h; cases h.1)] at hR
      unfold h4 at hR
      rw [← hw] at hR
      rw [hf] at hfo
      exact ⟨T4, _, rfl, (b4p_f rw st n cw cv m cu hut w v u wt vt ro fo tabC (fobits fo i : Nat) (ffst fo i) (goF ro i) i (2 ^ (ro i).toNat) (crH st w v (u hut) (i + 1) &&& (2 ^ rw - 1)) ((crH st w v (u hut) (i + 1)).testBit 6) R).mpr ⟨tt (decide_eq_true (by omega)), ⟨⟨by omega, by omega⟩, rfl⟩, hro, hX, rfl, hC, rfl, fun _ => ⟨tf (decide_eq_false (by omega)), tt (decide_eq_true hge), ⟨⟨hge, by omega⟩, rfl⟩, tf hne, tf (decide_eq_false (by omega)), tf han, ⟨⟨by omega, by omega⟩, rfl⟩, hfo, tf (decide_eq_false (by omega)), hR⟩, fun _ => ⟨tf (decide_eq_false (by omega)), tt (decide_eq_true hge), ⟨⟨hge, by omega⟩, rfl⟩, tf hne, tf (decide_eq_false (by omega)), tf han, ⟨⟨by omega, by omega⟩, rfl⟩, hfo, tf (decide_eq_false (by omega)), hR⟩⟩⟩
   · have hrn : rowN (ro i) = 6 := if_pos (by omega)
     rw [decide_eq_true (show ro i < 0 by omega)] at hR
     rw [hrn] at c1 hX
     rw [c1] at hC
     have ht6 : Nat.testBit (2 ^ 6) 6 = true := rfl
     rw [and_pow6 (show rw ≤ 6 by omega), ht6] at hX
     cases hf : fo i with
     | true =>
      rw [hFT hf, ← hor] at hR
      have hR1 : ffst fo i < 0 → _ := fun hlt => by rw [hfT hf hlt] at hR; exact hR
      have hR2 : ¬ ffst fo i < 0 → _ := fun hlt => by rw [hfN (fun h => hlt h.2)] at hR; exact hR
      unfold h4 at hR1 hR2
      rw [← hw] at hR1 hR2
      rw [hf] at hfo
      exact ⟨T4, _, rfl, (b4n_t rw st n cw cv m cu hut w v u wt vt ro fo tabC (fobits fo i : Nat) (ffst fo i) (goF ro i) i 0 (crH st w v (u hut) (i + 1) &&& (2 ^ rw - 1)) R).mpr ⟨tt (decide_eq_true (by omega)), ⟨⟨by omega, by omega⟩, rfl⟩, hro, hX, rfl, hC, rfl, tt (decide_eq_true (by omega)), tf (decide_eq_false hge), tt (decide_eq_true (by omega)), ⟨⟨by omega, by omega⟩, rfl⟩, hfo, ⟨⟨by omega, by omega⟩, rfl⟩, fun hlt => ⟨tt (decide_eq_true (by omega)), hR1 (of_decide_eq_true hlt)⟩, fun hlt => ⟨tt (decide_eq_true (by omega)), hR2 (of_decide_eq_false hlt)⟩⟩⟩
     | false =>
      rw [hFF hf, hfN (fun h => by rw [hf] at h; cases h.1)] at hR
      unfold h4 at hR
      rw [← hw] at hR
      rw [hf] at hfo
      exact ⟨T4, _, rfl, (b4ntf rw st n cw cv m cu hut w v u wt vt ro fo tabC (fobits fo i : Nat) (ffst fo i) (goF ro i) i 0 (crH st w v (u hut) (i + 1) &&& (2 ^ rw - 1)) R).mpr ⟨tt (decide_eq_true (by omega)), ⟨⟨by omega, by omega⟩, rfl⟩, hro, hX, rfl, hC, rfl, tt (decide_eq_true (by omega)), tf (decide_eq_false hge), tt (decide_eq_true (by omega)), ⟨⟨by omega, by omega⟩, rfl⟩, hfo, tt (decide_eq_true (by omega)), hR⟩⟩
 · exact ⟨T4, _, rfl, (b4e rw st n cw cv m cu hut w v u wt vt (roF st (u hut) wt vt) (foF st (u hut) wt vt) tabC (fobits (foF st (u hut) wt vt) n : Nat) (ffst (foF st (u hut) wt vt) n) (goF (roF st (u hut) wt vt) n) n R).mpr ⟨tf (decide_eq_false (by omega)), hR⟩⟩
end
end Go.Ab
