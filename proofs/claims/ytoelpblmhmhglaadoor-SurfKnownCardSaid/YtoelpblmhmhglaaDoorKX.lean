/- a truth, by remainders. -/
import Derived.Test.YtoelpblmhmhglaaDoorKO
import Derived.Test.YtoelpblmhmhglaaDoorKW
set_option maxRecDepth 100000
namespace Go.Ab
open Go Go.RowKit Go.Proofs
theorem b12a (rw st : Int) (n cw cv m cu k d : Nat) (w v : Nat → Sp) (bs : Nat → Int) (at_ : Int) (i j1 j2 : Nat) (q1 q2 : Int) (R : Nat → AExit → Hw → Prop) : (vx.code none (.l p12) (leafW [T12a, T12b] R) (T12a.inst (h12a rw st n cw cv m cu k d (spL n w) (spL n v) (u16L k bs) at_ i)) ([(0, .split ((8, .val (.pointer (some ⟨2, 0 + i * 2, none⟩))) :: (0, .val (.agg ⟨[(I ((w i).lo)), (I ((w i).hi))]⟩)) :: (5, .val (.pointer (some ⟨3, 0 + i * 2, none⟩))) :: (0, .val (.agg ⟨[(I ((v i).lo)), (I ((v i).hi))]⟩)) :: (8, .val (.bool false)) :: (7, .val (I j1)) :: (0, .val (.pointer (some ⟨5, 0 + j1 * 1, none⟩))) :: (0, .val (.int IntKind.u16 (bs j1))) :: (10, .val (I q1)) :: (2, .again) :: (1, .again) :: (8, .val (.bool false)) :: (7, .val (I j2)) :: (0, .val (.pointer (some ⟨5, 0 + j2 * 1, none⟩))) :: (0, .val (.int IntKind.u16 (bs j2))) :: (10, .val (I q2)) :: [(7, .tm 1 [((9 : Nat), (11 : Nat)), ((10 : Nat), (14 : Nat))])]) ([(1, .tm 0 [])]))])) =
((((decide ((i : Int) < n)) = true → ((((((0 : Int) ≤ i)) ∧ (((i : Int) < n))) ∧ (((.pointer (some ⟨2, 0 + i * 2, none⟩)) : Value) = (.pointer (some ⟨2, 0 + i * 2, none⟩)))) ∧
((((0 + i * 2 + 2 ≤ (spL n w).length)) ∧ (((.agg ⟨[(I ((w i).lo)), (I ((w i).hi))]⟩) : Value) = (.agg ⟨(List.take 2 (List.drop (0 + i * 2) (spL n w)))⟩))) ∧
((((((0 : Int) ≤ i)) ∧ (((i : Int) < n))) ∧ (((.pointer (some ⟨3, 0 + i * 2, none⟩)) : Value) = (.pointer (some ⟨3, 0 + i * 2, none⟩)))) ∧
((((0 + i * 2 + 2 ≤ (spL n v).length)) ∧ (((.agg ⟨[(I ((v i).lo)), (I ((v i).hi))]⟩) : Value) = (.agg ⟨(List.take 2 (List.drop (0 + i * 2) (spL n v)))⟩))) ∧
((((some (.bool ((k : Int) == 0)) : Option Value) = some (.bool false))) ∧
((((((k : Int) ≠ (0 : Int))) ∧ ((IntKind.i64 = IntKind.i64))) ∧ (((I j1) : Value) = (I ((IntKind.i64.wrap (at_ + (1 : Int))).tmod (k : Int))))) ∧
((((((0 : Int) ≤ j1)) ∧ (((j1 : Int) < k))) ∧ (((.pointer (some ⟨5, 0 + j1 * 1, none⟩)) : Value) = (.pointer (some ⟨5, 0 + j1 * 1, none⟩)))) ∧
((((u16L k bs)[0 + j1 * 1]? = some (.int IntKind.u16 (bs j1)))) ∧
(((((IntKind.i64.wrap (IntKind.i64.wrap ((w i).hi - (w i).lo) + (1 : Int)) ≠ (0 : Int))) ∧ ((IntKind.i64 = IntKind.i64))) ∧ (((I q1) : Value) = (I ((IntKind.i64.wrap (IntKind.i64.wrap (bs j1) + IntKind.i64.wrap ((23 : Int) * IntKind.i64.wrap (at_ + (1 : Int))))).tmod (IntKind.i64.wrap (IntKind.i64.wrap ((w i).hi - (w i).lo) + (1 : Int))))))) ∧
(((((0 + i * 2 + 2 ≤ (spL n v).length)) ∧ (((.agg ⟨[(I ((v i).lo)), (I ((v i).hi))]⟩) : Value) = (.agg ⟨(List.take 2 (List.drop (0 + i * 2) (spL n v)))⟩))) ∧ ((((some (.slice (.some ⟨3, 0, .none⟩) (n) (cv)) : Option Value) = some (.slice (.some ⟨3, 0, .none⟩) (n) (cv)))) ∧ (True))) ∧
(((((0 + i * 2 + 2 ≤ (spL n v).length)) ∧ (((.agg ⟨[(I ((v i).lo)), (I ((v i).hi))]⟩) : Value) = (.agg ⟨(List.take 2 (List.drop (0 + i * 2) (spL n v)))⟩))) ∧ ((((some (.slice (.some ⟨3, 0, .none⟩) (n) (cv)) : Option Value) = some (.slice (.some ⟨3, 0, .none⟩) (n) (cv)))) ∧ (True))) ∧
((((some (.bool ((k : Int) == 0)) : Option Value) = some (.bool false))) ∧
((((((k : Int) ≠ (0 : Int))) ∧ ((IntKind.i64 = IntKind.i64))) ∧ (((I j2) : Value) = (I ((IntKind.i64.wrap (IntKind.i64.wrap (at_ + (1 : Int)) + (1 : Int))).tmod (k : Int))))) ∧
((((((0 : Int) ≤ j2)) ∧ (((j2 : Int) < k))) ∧ (((.pointer (some ⟨5, 0 + j2 * 1, none⟩)) : Value) = (.pointer (some ⟨5, 0 + j2 * 1, none⟩)))) ∧
((((u16L k bs)[0 + j2 * 1]? = some (.int IntKind.u16 (bs j2)))) ∧
(((((IntKind.i64.wrap (IntKind.i64.wrap ((v i).hi - (v i).lo) + (1 : Int)) ≠ (0 : Int))) ∧ ((IntKind.i64 = IntKind.i64))) ∧ (((I q2) : Value) = (I ((IntKind.i64.wrap (IntKind.i64.wrap (bs j2) + IntKind.i64.wrap ((23 : Int) * IntKind.i64.wrap (IntKind.i64.wrap (at_ + (1 : Int)) + (1 : Int))))).tmod (IntKind.i64.wrap (IntKind.i64.wrap ((v i).hi - (v i).lo) + (1 : Int))))))) ∧
R 1 .normal ⟨⟨[(I n), (I (IntKind.i64.wrap ((i : Int) + (1 : Int)))), (I rw), (I st), (I (IntKind.i64.wrap (IntKind.i64.wrap (at_ + (1 : Int)) + (1 : Int))))], [⟨((1 : Nat)), ((1 : Nat))⟩, ⟨((1 : Nat)), ((1 : Nat))⟩, ⟨n, cw⟩, ⟨n, cv⟩, ⟨m, cu⟩, ⟨k, d⟩]⟩, [(spL n w), (spL n v), (u16L k bs), [(I (IntKind.i64.wrap ((w i).lo + q1)))], [(I (IntKind.i64.wrap ((v i).lo + q2)))]], []⟩))))))))))))))))) ∧
((decide ((i : Int) < n)) = false → R 0 (.exit 0) ⟨⟨[(I n), (I i), (I rw), (I st), (I at_)], [⟨n, cw⟩, ⟨n, cv⟩, ⟨m, cu⟩, ⟨k, d⟩]⟩, [(spL n w), (spL n v), (u16L k bs)], []⟩))) := by kernel_rfl
theorem b12b (rw st : Int) (n cw cv m cu k d : Nat) (w v : Nat → Sp) (bs : Nat → Int) (at_ : Int) (i j1 j2 : Nat) (q1 q2 : Int) (r1 r2 : List Value) (R : Nat → AExit → Hw → Prop) : (vx.code none (.l p12) (leafW [T12a, T12b] R) (T12b.inst (h12b rw st n cw cv m cu k d (spL n w) (spL n v) (u16L k bs) r1 r2 at_ i)) ([(0, .split ((8, .val (.pointer (some ⟨2, 0 + i * 2, none⟩))) :: (0, .val (.agg ⟨[(I ((w i).lo)), (I ((w i).hi))]⟩)) :: (5, .val (.pointer (some ⟨3, 0 + i * 2, none⟩))) :: (0, .val (.agg ⟨[(I ((v i).lo)), (I ((v i).hi))]⟩)) :: (8, .val (.bool false)) :: (7, .val (I j1)) :: (0, .val (.pointer (some ⟨5, 0 + j1 * 1, none⟩))) :: (0, .val (.int IntKind.u16 (bs j1))) :: (10, .val (I q1)) :: (2, .again) :: (0, .grow) :: (0, .again) :: (8, .val (.bool false)) :: (7, .val (I j2)) :: (0, .val (.pointer (some ⟨5, 0 + j2 * 1, none⟩))) :: (0, .val (.int IntKind.u16 (bs j2))) :: (10, .val (I q2)) :: (2, .grow) :: [(4, .tm 1 [((9 : Nat), (13 : Nat)), ((10 : Nat), (16 : Nat))])]) ([(1, .tm 1 [((9 : Nat), (9 : Nat)), ((10 : Nat), (10 : Nat))])]))])) =
((((decide ((i : Int) < n)) = true → ((((((0 : Int) ≤ i)) ∧ (((i : Int) < n))) ∧ (((.pointer (some ⟨2, 0 + i * 2, none⟩)) : Value) = (.pointer (some ⟨2, 0 + i * 2, none⟩)))) ∧
((((0 + i * 2 + 2 ≤ (spL n w).length)) ∧ (((.agg ⟨[(I ((w i).lo)), (I ((w i).hi))]⟩) : Value) = (.agg ⟨(List.take 2 (List.drop (0 + i * 2) (spL n w)))⟩))) ∧
((((((0 : Int) ≤ i)) ∧ (((i : Int) < n))) ∧ (((.pointer (some ⟨3, 0 + i * 2, none⟩)) : Value) = (.pointer (some ⟨3, 0 + i * 2, none⟩)))) ∧
((((0 + i * 2 + 2 ≤ (spL n v).length)) ∧ (((.agg ⟨[(I ((v i).lo)), (I ((v i).hi))]⟩) : Value) = (.agg ⟨(List.take 2 (List.drop (0 + i * 2) (spL n v)))⟩))) ∧
((((some (.bool ((k : Int) == 0)) : Option Value) = some (.bool false))) ∧
((((((k : Int) ≠ (0 : Int))) ∧ ((IntKind.i64 = IntKind.i64))) ∧ (((I j1) : Value) = (I ((IntKind.i64.wrap (at_ + (1 : Int))).tmod (k : Int))))) ∧
((((((0 : Int) ≤ j1)) ∧ (((j1 : Int) < k))) ∧ (((.pointer (some ⟨5, 0 + j1 * 1, none⟩)) : Value) = (.pointer (some ⟨5, 0 + j1 * 1, none⟩)))) ∧
((((u16L k bs)[0 + j1 * 1]? = some (.int IntKind.u16 (bs j1)))) ∧
(((((IntKind.i64.wrap (IntKind.i64.wrap ((w i).hi - (w i).lo) + (1 : Int)) ≠ (0 : Int))) ∧ ((IntKind.i64 = IntKind.i64))) ∧ (((I q1) : Value) = (I ((IntKind.i64.wrap (IntKind.i64.wrap (bs j1) + IntKind.i64.wrap ((23 : Int) * IntKind.i64.wrap (at_ + (1 : Int))))).tmod (IntKind.i64.wrap (IntKind.i64.wrap ((w i).hi - (w i).lo) + (1 : Int))))))) ∧
(((((0 + i * 2 + 2 ≤ (spL n v).length)) ∧ (((.agg ⟨[(I ((v i).lo)), (I ((v i).hi))]⟩) : Value) = (.agg ⟨(List.take 2 (List.drop (0 + i * 2) (spL n v)))⟩))) ∧ ((((some (.slice (.some ⟨3, 0, .none⟩) (n) (cv)) : Option Value) = some (.slice (.some ⟨3, 0, .none⟩) (n) (cv)))) ∧ (True))) ∧
((((¬i + (1 : Nat) ≤ i)) ∧ (((i * (1 : Nat) = r1.length)) ∧ ((((i + (1 : Nat)) * (8 : Nat) ≤ (140737488355328 : Nat))) ∧ ((i + (1 : Nat) ≤ (4611686018427387904 : Nat)))))) ∧
(((((0 + i * 2 + 2 ≤ (spL n v).length)) ∧ (((.agg ⟨[(I ((v i).lo)), (I ((v i).hi))]⟩) : Value) = (.agg ⟨(List.take 2 (List.drop (0 + i * 2) (spL n v)))⟩))) ∧ ((((some (.slice (.some ⟨3, 0, .none⟩) (n) (cv)) : Option Value) = some (.slice (.some ⟨3, 0, .none⟩) (n) (cv)))) ∧ (True))) ∧
((((some (.bool ((k : Int) == 0)) : Option Value) = some (.bool false))) ∧
((((((k : Int) ≠ (0 : Int))) ∧ ((IntKind.i64 = IntKind.i64))) ∧ (((I j2) : Value) = (I ((IntKind.i64.wrap (IntKind.i64.wrap (at_ + (1 : Int)) + (1 : Int))).tmod (k : Int))))) ∧
((((((0 : Int) ≤ j2)) ∧ (((j2 : Int) < k))) ∧ (((.pointer (some ⟨5, 0 + j2 * 1, none⟩)) : Value) = (.pointer (some ⟨5, 0 + j2 * 1, none⟩)))) ∧
((((u16L k bs)[0 + j2 * 1]? = some (.int IntKind.u16 (bs j2)))) ∧
(((((IntKind.i64.wrap (IntKind.i64.wrap ((v i).hi - (v i).lo) + (1 : Int)) ≠ (0 : Int))) ∧ ((IntKind.i64 = IntKind.i64))) ∧ (((I q2) : Value) = (I ((IntKind.i64.wrap (IntKind.i64.wrap (bs j2) + IntKind.i64.wrap ((23 : Int) * IntKind.i64.wrap (IntKind.i64.wrap (at_ + (1 : Int)) + (1 : Int))))).tmod (IntKind.i64.wrap (IntKind.i64.wrap ((v i).hi - (v i).lo) + (1 : Int))))))) ∧
((((¬i + (1 : Nat) ≤ i)) ∧ (((i * (1 : Nat) = r2.length)) ∧ ((((i + (1 : Nat)) * (8 : Nat) ≤ (140737488355328 : Nat))) ∧ ((i + (1 : Nat) ≤ (4611686018427387904 : Nat)))))) ∧
R 1 .normal ⟨⟨[(I n), (I (IntKind.i64.wrap ((i : Int) + (1 : Int)))), (I rw), (I st), (I (IntKind.i64.wrap (IntKind.i64.wrap (at_ + (1 : Int)) + (1 : Int))))], [⟨(i + (1 : Nat)), (i + (1 : Nat))⟩, ⟨(i + (1 : Nat)), (i + (1 : Nat))⟩, ⟨n, cw⟩, ⟨n, cv⟩, ⟨m, cu⟩, ⟨k, d⟩]⟩, [(spL n w), (spL n v), (u16L k bs), ((List.take (i * (1 : Nat)) (r1)) ++ [(I (IntKind.i64.wrap ((w i).lo + q1)))]), ((List.take (i * (1 : Nat)) (r2)) ++ [(I (IntKind.i64.wrap ((v i).lo + q2)))])], []⟩))))))))))))))))))) ∧
((decide ((i : Int) < n)) = false → R 1 (.exit 0) ⟨⟨[(I n), (I i), (I rw), (I st), (I at_)], [⟨i, i⟩, ⟨i, i⟩, ⟨n, cw⟩, ⟨n, cv⟩, ⟨m, cu⟩, ⟨k, d⟩]⟩, [(spL n w), (spL n v), (u16L k bs), (r1), (r2)], []⟩))) := by kernel_rfl
theorem b12az (rw st : Int) (n cw cv m cu k d : Nat) (w v : Nat → Sp) (bs : Nat → Int) (at_ : Int) (i : Nat) (R : Nat → AExit → Hw → Prop) : (vx.code none (.l p12) (leafW [T12a, T12b] R) (T12a.inst (h12a rw st n cw cv m cu k d (spL n w) (spL n v) (u16L k bs) at_ i)) ([(0, .split ((8, .val (.pointer (some ⟨2, 0 + i * 2, none⟩))) :: (0, .val (.agg ⟨[(I ((w i).lo)), (I ((w i).hi))]⟩)) :: (5, .val (.pointer (some ⟨3, 0 + i * 2, none⟩))) :: (0, .val (.agg ⟨[(I ((v i).lo)), (I ((v i).hi))]⟩)) :: (8, .val (.bool true)) :: (4, .again) :: (1, .again) :: (8, .val (.bool true)) :: [(9, .tm 1 [((9 : Nat), (11 : Nat)), ((10 : Nat), (14 : Nat))])]) ([(1, .tm 0 [])]))])) =
((((decide ((i : Int) < n)) = true → ((((((0 : Int) ≤ i)) ∧ (((i : Int) < n))) ∧ (((.pointer (some ⟨2, 0 + i * 2, none⟩)) : Value) = (.pointer (some ⟨2, 0 + i * 2, none⟩)))) ∧
((((0 + i * 2 + 2 ≤ (spL n w).length)) ∧ (((.agg ⟨[(I ((w i).lo)), (I ((w i).hi))]⟩) : Value) = (.agg ⟨(List.take 2 (List.drop (0 + i * 2) (spL n w)))⟩))) ∧
((((((0 : Int) ≤ i)) ∧ (((i : Int) < n))) ∧ (((.pointer (some ⟨3, 0 + i * 2, none⟩)) : Value) = (.pointer (some ⟨3, 0 + i * 2, none⟩)))) ∧
((((0 + i * 2 + 2 ≤ (spL n v).length)) ∧ (((.agg ⟨[(I ((v i).lo)), (I ((v i).hi))]⟩) : Value) = (.agg ⟨(List.take 2 (List.drop (0 + i * 2) (spL n v)))⟩))) ∧
((((some (.bool ((k : Int) == 0)) : Option Value) = some (.bool true))) ∧
(((((0 + i * 2 + 2 ≤ (spL n v).length)) ∧ (((.agg ⟨[(I ((v i).lo)), (I ((v i).hi))]⟩) : Value) = (.agg ⟨(List.take 2 (List.drop (0 + i * 2) (spL n v)))⟩))) ∧ ((((some (.slice (.some ⟨3, 0, .none⟩) (n) (cv)) : Option Value) = some (.slice (.some ⟨3, 0, .none⟩) (n) (cv)))) ∧ (True))) ∧
(((((0 + i * 2 + 2 ≤ (spL n v).length)) ∧ (((.agg ⟨[(I ((v i).lo)), (I ((v i).hi))]⟩) : Value) = (.agg ⟨(List.take 2 (List.drop (0 + i * 2) (spL n v)))⟩))) ∧ ((((some (.slice (.some ⟨3, 0, .none⟩) (n) (cv)) : Option Value) = some (.slice (.some ⟨3, 0, .none⟩) (n) (cv)))) ∧ (True))) ∧
((((some (.bool ((k : Int) == 0)) : Option Value) = some (.bool true))) ∧
R 1 .normal ⟨⟨[(I n), (I (IntKind.i64.wrap ((i : Int) + (1 : Int)))), (I rw), (I st), (I (IntKind.i64.wrap (IntKind.i64.wrap (at_ + (1 : Int)) + (1 : Int))))], [⟨((1 : Nat)), ((1 : Nat))⟩, ⟨((1 : Nat)), ((1 : Nat))⟩, ⟨n, cw⟩, ⟨n, cv⟩, ⟨m, cu⟩, ⟨k, d⟩]⟩, [(spL n w), (spL n v), (u16L k bs), [(I ((w i).lo))], [(I ((v i).lo))]], []⟩))))))))) ∧
((decide ((i : Int) < n)) = false → R 0 (.exit 0) ⟨⟨[(I n), (I i), (I rw), (I st), (I at_)], [⟨n, cw⟩, ⟨n, cv⟩, ⟨m, cu⟩, ⟨k, d⟩]⟩, [(spL n w), (spL n v), (u16L k bs)], []⟩))) := by kernel_rfl
theorem b12bz (rw st : Int) (n cw cv m cu k d : Nat) (w v : Nat → Sp) (bs : Nat → Int) (at_ : Int) (i : Nat) (r1 r2 : List Value) (R : Nat → AExit → Hw → Prop) : (vx.code none (.l p12) (leafW [T12a, T12b] R) (T12b.inst (h12b rw st n cw cv m cu k d (spL n w) (spL n v) (u16L k bs) r1 r2 at_ i)) ([(0, .split ((8, .val (.pointer (some ⟨2, 0 + i * 2, none⟩))) :: (0, .val (.agg ⟨[(I ((w i).lo)), (I ((w i).hi))]⟩)) :: (5, .val (.pointer (some ⟨3, 0 + i * 2, none⟩))) :: (0, .val (.agg ⟨[(I ((v i).lo)), (I ((v i).hi))]⟩)) :: (8, .val (.bool true)) :: (4, .again) :: (0, .grow) :: (0, .again) :: (8, .val (.bool true)) :: (4, .grow) :: [(4, .tm 1 [((9 : Nat), (13 : Nat)), ((10 : Nat), (16 : Nat))])]) ([(1, .tm 1 [((9 : Nat), (9 : Nat)), ((10 : Nat), (10 : Nat))])]))])) =
((((decide ((i : Int) < n)) = true → ((((((0 : Int) ≤ i)) ∧ (((i : Int) < n))) ∧ (((.pointer (some ⟨2, 0 + i * 2, none⟩)) : Value) = (.pointer (some ⟨2, 0 + i * 2, none⟩)))) ∧
((((0 + i * 2 + 2 ≤ (spL n w).length)) ∧ (((.agg ⟨[(I ((w i).lo)), (I ((w i).hi))]⟩) : Value) = (.agg ⟨(List.take 2 (List.drop (0 + i * 2) (spL n w)))⟩))) ∧
((((((0 : Int) ≤ i)) ∧ (((i : Int) < n))) ∧ (((.pointer (some ⟨3, 0 + i * 2, none⟩)) : Value) = (.pointer (some ⟨3, 0 + i * 2, none⟩)))) ∧
((((0 + i * 2 + 2 ≤ (spL n v).length)) ∧ (((.agg ⟨[(I ((v i).lo)), (I ((v i).hi))]⟩) : Value) = (.agg ⟨(List.take 2 (List.drop (0 + i * 2) (spL n v)))⟩))) ∧
((((some (.bool ((k : Int) == 0)) : Option Value) = some (.bool true))) ∧
(((((0 + i * 2 + 2 ≤ (spL n v).length)) ∧ (((.agg ⟨[(I ((v i).lo)), (I ((v i).hi))]⟩) : Value) = (.agg ⟨(List.take 2 (List.drop (0 + i * 2) (spL n v)))⟩))) ∧ ((((some (.slice (.some ⟨3, 0, .none⟩) (n) (cv)) : Option Value) = some (.slice (.some ⟨3, 0, .none⟩) (n) (cv)))) ∧ (True))) ∧
((((¬i + (1 : Nat) ≤ i)) ∧ (((i * (1 : Nat) = r1.length)) ∧ ((((i + (1 : Nat)) * (8 : Nat) ≤ (140737488355328 : Nat))) ∧ ((i + (1 : Nat) ≤ (4611686018427387904 : Nat)))))) ∧
(((((0 + i * 2 + 2 ≤ (spL n v).length)) ∧ (((.agg ⟨[(I ((v i).lo)), (I ((v i).hi))]⟩) : Value) = (.agg ⟨(List.take 2 (List.drop (0 + i * 2) (spL n v)))⟩))) ∧ ((((some (.slice (.some ⟨3, 0, .none⟩) (n) (cv)) : Option Value) = some (.slice (.some ⟨3, 0, .none⟩) (n) (cv)))) ∧ (True))) ∧
((((some (.bool ((k : Int) == 0)) : Option Value) = some (.bool true))) ∧
((((¬i + (1 : Nat) ≤ i)) ∧ (((i * (1 : Nat) = r2.length)) ∧ ((((i + (1 : Nat)) * (8 : Nat) ≤ (140737488355328 : Nat))) ∧ ((i + (1 : Nat) ≤ (4611686018427387904 : Nat)))))) ∧
R 1 .normal ⟨⟨[(I n), (I (IntKind.i64.wrap ((i : Int) + (1 : Int)))), (I rw), (I st), (I (IntKind.i64.wrap (IntKind.i64.wrap (at_ + (1 : Int)) + (1 : Int))))], [⟨(i + (1 : Nat)), (i + (1 : Nat))⟩, ⟨(i + (1 : Nat)), (i + (1 : Nat))⟩, ⟨n, cw⟩, ⟨n, cv⟩, ⟨m, cu⟩, ⟨k, d⟩]⟩, [(spL n w), (spL n v), (u16L k bs), ((List.take (i * (1 : Nat)) (r1)) ++ [(I ((w i).lo))]), ((List.take (i * (1 : Nat)) (r2)) ++ [(I ((v i).lo))])], []⟩))))))))))) ∧
((decide ((i : Int) < n)) = false → R 1 (.exit 0) ⟨⟨[(I n), (I i), (I rw), (I st), (I at_)], [⟨i, i⟩, ⟨i, i⟩, ⟨n, cw⟩, ⟨n, cv⟩, ⟨m, cu⟩, ⟨k, d⟩]⟩, [(spL n w), (spL n v), (u16L k bs), (r1), (r2)], []⟩))) := by kernel_rfl
theorem f12 (rw st : Int) (n cw cv m cu k d : Nat) (w v : Nat → Sp) (bs : Nat → Int) (at_ : Int) (r1 r2 : List Value) (R : Hx → Prop) : (vx.call 12 [suV rw st n cw cv m cu, slV 5 k d] (retN (rowT22 6 3 3) R) (m12 (spL n w) (spL n v) (u16L k bs)) ((13, .loopW T12a (.exit 0) T12b fun x => h12b rw st n cw cv m cu k d (spL n w) (spL n v) (u16L k bs) r1 r2 at_ n) :: [(4, .tm 0 [((6 : Nat), (9 : Nat)), ((7 : Nat), (10 : Nat))])])) =
(((ClW ⟨⟨[(I n), (I 0), (I rw), (I st), (I 0)], [⟨n, cw⟩, ⟨n, cv⟩, ⟨m, cu⟩, ⟨k, d⟩]⟩, [(spL n w), (spL n v), (u16L k bs)], []⟩) ∧ (LoopOW Tryd.prog .none p12 (T12a) ⟨⟨[(I n), (I 0), (I rw), (I st), (I 0)], [⟨n, cw⟩, ⟨n, cv⟩, ⟨m, cu⟩, ⟨k, d⟩]⟩, [(spL n w), (spL n v), (u16L k bs)], []⟩ (.exit 0) (T12b) ⟨⟨[(I n), (I n), (I rw), (I st), (I at_)], [⟨n, n⟩, ⟨n, n⟩, ⟨n, cw⟩, ⟨n, cv⟩, ⟨m, cu⟩, ⟨k, d⟩]⟩, [(spL n w), (spL n v), (u16L k bs), (r1), (r2)], []⟩) ∧
R ⟨⟨[], [⟨n, n⟩, ⟨n, n⟩]⟩, [(r1), (r2)]⟩)) := by kernel_rfl
theorem u16L_at (k : Nat) (b : Nat → Int) : ∀ v ∈ u16L k b, atomic v = true := flatC_atomic fun i _ v hv => by
 simp only [List.mem_cons, List.not_mem_nil, or_false] at hv
 subst hv
 rfl
theorem u16L_get {k i : Nat} (b : Nat → Int) (h : i < k) : (u16L k b)[0 + i * 1]? = some (.int .u16 (b i)) := by
 rw [Nat.zero_add]
 have := flatC_get (n := k) (k := 1) (g := fun i => [Value.int .u16 (b i)]) (fun i _ => rfl) h (j := 0) (by omega)
 simpa [u16L] using this
section
variable {rw st : Int} {n cw cv m cu k d : Nat} {w v : Nat → Sp} {bs : Nat → Int}
def trW (w : Nat → Sp) (k : Nat) (bs : Nat → Int) (i : Nat) : Int := drI (w i) k bs (2 * i + 1)
def trV (v : Nat → Sp) (k : Nat) (bs : Nat → Int) (i : Nat) : Int := drI (v i) k bs (2 * i + 2)
theorem drI_in {s : Sp} (hs : s.lo ≤ s.hi) (hb : ∀ i, i < k → 0 ≤ bs i ∧ bs i < 65536) (a : Nat) : s.lo ≤ drI s k bs a ∧ drI s k bs a ≤ s.hi := by
 unfold drI
 split
 · exact ⟨Int.le_refl _, hs⟩
 · rename_i h0
   obtain ⟨b0, b1⟩ := hb (a % k) (Nat.mod_lt a (by omega))
   have h1 := Int.tmod_nonneg (s.hi - s.lo + 1) (show 0 ≤ bs (a % k) + 23 * (a : Int) by omega)
   have h2 := Int.tmod_lt_of_pos (bs (a % k) + 23 * (a : Int)) (show 0 < s.hi - s.lo + 1 by omega)
   omega
noncomputable def st12 (rw st : Int) (n cw cv m cu k d : Nat) (w v : Nat → Sp) (bs : Nat → Int) : Nat → Nat × Hw
 | 0 => (0, h12a rw st n cw cv m cu k d (spL n w) (spL n v) (u16L k bs) 0 0)
 | i + 1 => (1, h12b rw st n cw cv m cu k d (spL n w) (spL n v) (u16L k bs) (ints (i + 1) (trW w k bs)) (ints (i + 1) (trV v k bs)) ((2 * (i + 1) : Nat) : Int) (i + 1))
theorem cl12 (i : Nat) : ClW (st12 rw st n cw cv m cu k d w v bs i).2 := by
 cases i with
 | zero =>
  refine ⟨fun cs hc => ?_, fun es hc => (by cases hc)⟩
  simp only [st12, h12a, List.mem_cons, List.not_mem_nil, or_false] at hc
  rcases hc with rfl | rfl | rfl
  · exact spL_at _ _
  · exact spL_at _ _
  · exact u16L_at _ _
 | succ i =>
  refine ⟨fun cs hc => ?_, fun es hc => (by cases hc)⟩
  simp only [st12, h12b, List.mem_cons, List.not_mem_nil, or_false] at hc
  rcases hc with rfl | rfl | rfl | rfl | rfl
  · exact spL_at _ _
  · exact spL_at _ _
  · exact u16L_at _ _
  · exact ints_at _ _
  · exact ints_at _ _
theorem loop12 (hS : SOK rw st n w v) (hb : ∀ i, i < k → 0 ≤ bs i ∧ bs i < 65536) (h0 : 0 < n) : LoopOW Tryd.prog none p12 T12a (h12a rw st n cw cv m cu k d (spL n w) (spL n v) (u16L k bs) 0 0) (.exit 0) T12b
    (h12b rw st n cw cv m cu k d (spL n w) (spL n v) (u16L k bs) (ints n (trW w k bs)) (ints n (trV v k bs)) ((2 * n : Nat) : Int) n) := by
 have h8 := hS.n8
 have hst : st12 rw st n cw cv m cu k d w v bs n = (1, h12b rw st n cw cv m cu k d (spL n w) (spL n v) (u16L k bs) (ints n (trW w k bs)) (ints n (trV v k bs)) ((2 * n : Nat) : Int) n) := by
  obtain ⟨j, rfl⟩ : ∃ j, n = j + 1 := ⟨n - 1, by omega⟩
  rfl
 have main := loop_forW (P := Tryd.prog) (ro := none) (p := p12) (Ts := [T12a, T12b]) (k := 9) (n := n) (e := .exit 0) (st := st12 rw st n cw cv m cu k d w v bs) rfl vx_sound (by
  intro T hT
  simp only [List.mem_cons, List.not_mem_nil, or_false] at hT
  rcases hT with rfl | rfl <;> rfl) (by rw [nglob]; omega) ⟨by simp, trivial⟩ (fun i _ => cl12 i) (fun i hi R hR => by
  obtain ⟨w0, w1, w2, w3⟩ := hS.w i hi
  obtain ⟨v0, v1, v2, v3⟩ := hS.v i hi
  have hw : IntKind.i64.wrap ((i : Int) + 1) = ((i + 1 : Nat) : Int) := wrapI (by omega) (by omega)
  have pw := spL_part w hi
  have pv := spL_part v hi
  have lw := spL_len n w
  have lv := spL_len n v
  have a1 : IntKind.i64.wrap (((2 * i : Nat) : Int) + 1) = ((2 * i + 1 : Nat) : Int) := by rw [wrapI (by omega) (by omega)]; omega
  have a2 : IntKind.i64.wrap (((2 * i + 1 : Nat) : Int) + 1) = ((2 * i + 2 : Nat) : Int) := by rw [wrapI (by omega) (by omega)]; omega
  have ew : IntKind.i64.wrap (IntKind.i64.wrap ((w i).hi - (w i).lo) + 1) = (w i).hi - (w i).lo + 1 := by rw [wrapI (x := (w i).hi - (w i).lo) (by omega) (by omega), wrapI (by omega) (by omega)]
  have ev : IntKind.i64.wrap (IntKind.i64.wrap ((v i).hi - (v i).lo) + 1) = (v i).hi - (v i).lo + 1 := by rw [wrapI (x := (v i).hi - (v i).lo) (by omega) (by omega), wrapI (by omega) (by omega)]
  have bw := drI_in (k := k) (bs := bs) w1 hb (2 * i + 1)
  have bv := drI_in (k := k) (bs := bs) v1 hb (2 * i + 2)
  have iw : (w i).lo ≤ trW w k bs i ∧ trW w k bs i ≤ (w i).hi := bw
  have iv : (v i).lo ≤ trV v k bs i ∧ trV v k bs i ≤ (v i).hi := bv
  have e22 : ((2 * i + 2 : Nat) : Int) = ((2 * (i + 1) : Nat) : Int) := by omega
  have tl : ∀ (j : Nat) (o : Nat → Int), List.take (j * 1) (ints j o) = ints j o := take_ints
  have sw : ints (i + 1) (trW w k bs) = ints i (trW w k bs) ++ [I (trW w k bs i)] := flatC_succ
  have sv : ints (i + 1) (trV v k bs) = ints i (trV v k bs) ++ [I (trV v k bs i)] := flatC_succ
  have goZ : (i = 0 → R 1 .normal (h12b rw st n cw cv m cu k d (spL n w) (spL n v) (u16L k bs) [I (trW w k bs i)] [I (trV v k bs i)] ((2 * i + 2 : Nat) : Int) (i + 1))) := fun e => by
   subst e
   exact hR
  have goS : (0 < i → R 1 .normal (h12b rw st n cw cv m cu k d (spL n w) (spL n v) (u16L k bs) (List.take (i * 1) (ints i (trW w k bs)) ++ [I (trW w k bs i)]) (List.take (i * 1) (ints i (trV v k bs)) ++ [I (trV v k bs i)]) ((2 * i + 2 : Nat) : Int) (i + 1))) := fun _ => by
   rw [tl, tl, ← sw, ← sv, e22]
   exact hR
  have g1 : (¬ i + 1 ≤ i) ∧ i * 1 = (ints i (trW w k bs)).length ∧ (i + 1) * 8 ≤ 140737488355328 ∧ i + 1 ≤ 4611686018427387904 := ⟨by omega, by rw [ints_len], by omega, by omega⟩
  have g2 : (¬ i + 1 ≤ i) ∧ i * 1 = (ints i (trV v k bs)).length ∧ (i + 1) * 8 ≤ 140737488355328 ∧ i + 1 ≤ 4611686018427387904 := ⟨by omega, by rw [ints_len], by omega, by omega⟩
  have r1 : (0 + i * 2 + 2 ≤ (spL n w).length) ∧ ((.agg ⟨[I (w i).lo, I (w i).hi]⟩ : Value) = .agg ⟨List.take 2 (List.drop (0 + i * 2) (spL n w))⟩) := ⟨by rw [lw]; omega, by rw [pw]; rfl⟩
  have r2 : (0 + i * 2 + 2 ≤ (spL n v).length) ∧ ((.agg ⟨[I (v i).lo, I (v i).hi]⟩ : Value) = .agg ⟨List.take 2 (List.drop (0 + i * 2) (spL n v))⟩) := ⟨by rw [lv]; omega, by rw [pv]; rfl⟩
  have q1 : ((0 : Int) ≤ (i : Int) ∧ (i : Int) < (n : Int)) ∧ ((.pointer (some ⟨2, 0 + i * 2, none⟩) : Value) = .pointer (some ⟨2, 0 + i * 2, none⟩)) := ⟨⟨by omega, by omega⟩, rfl⟩
  have q2 : ((0 : Int) ≤ (i : Int) ∧ (i : Int) < (n : Int)) ∧ ((.pointer (some ⟨3, 0 + i * 2, none⟩) : Value) = .pointer (some ⟨3, 0 + i * 2, none⟩)) := ⟨⟨by omega, by omega⟩, rfl⟩
  by_cases hk : k = 0
  · have tk : (some (.bool ((k : Int) == 0)) : Option Value) = some (.bool true) := by rw [hk]; rfl
    have dw : trW w k bs i = (w i).lo := if_pos hk
    have dv : trV v k bs i = (v i).lo := if_pos hk
    rw [dw, dv] at goZ goS
    cases i with
    | zero =>
     refine ⟨T12a, _, rfl, (b12az rw st n cw cv m cu k d w v bs 0 0 R).mpr ⟨fun _ => ⟨q1, r1, q2, r2, tk, ⟨r2, rfl, trivial⟩, ⟨r2, rfl, trivial⟩, tk, ?_⟩, fun h => absurd (by omega) (of_decide_eq_false h)⟩⟩
     exact goZ rfl
    | succ i =>
     refine ⟨T12b, _, rfl, (b12bz rw st n cw cv m cu k d w v bs ((2 * (i + 1) : Nat) : Int) (i + 1) (ints (i + 1) (trW w k bs)) (ints (i + 1) (trV v k bs)) R).mpr ⟨fun _ => ?_, fun h => absurd (by omega) (of_decide_eq_false h)⟩⟩
     rw [hw, a1, a2]
     exact ⟨q1, r1, q2, r2, tk, ⟨r2, rfl, trivial⟩, g1, ⟨r2, rfl, trivial⟩, tk, g2, goS (by omega)⟩
  · have hk0 : 0 < k := by omega
    have tk : (some (.bool ((k : Int) == 0)) : Option Value) = some (.bool false) := by
     have : ((k : Int) == 0) = false := beq_eq_false_iff_ne.2 (by omega)
     rw [this]
    have l1 := Nat.mod_lt (2 * i + 1) hk0
    have l2 := Nat.mod_lt (2 * i + 2) hk0
    obtain ⟨b1, b1'⟩ := hb _ l1
    obtain ⟨b2, b2'⟩ := hb _ l2
    have m1 : ((2 * i + 1 : Nat) : Int).tmod (k : Int) = (((2 * i + 1) % k : Nat) : Int) := rfl
    have m2 : ((2 * i + 2 : Nat) : Int).tmod (k : Int) = (((2 * i + 2) % k : Nat) : Int) := rfl
    have c1 : IntKind.i64.wrap (IntKind.i64.wrap (bs ((2 * i + 1) % k)) + IntKind.i64.wrap ((23 : Int) * ((2 * i + 1 : Nat) : Int))) = bs ((2 * i + 1) % k) + 23 * ((2 * i + 1 : Nat) : Int) := by
     rw [wrapI (x := bs ((2 * i + 1) % k)) (by omega) (by omega), wrapI (x := (23 : Int) * ((2 * i + 1 : Nat) : Int)) (by omega) (by omega), wrapI (by omega) (by omega)]
    have c2 : IntKind.i64.wrap (IntKind.i64.wrap (bs ((2 * i + 2) % k)) + IntKind.i64.wrap ((23 : Int) * ((2 * i + 2 : Nat) : Int))) = bs ((2 * i + 2) % k) + 23 * ((2 * i + 2 : Nat) : Int) := by
     rw [wrapI (x := bs ((2 * i + 2) % k)) (by omega) (by omega), wrapI (x := (23 : Int) * ((2 * i + 2 : Nat) : Int)) (by omega) (by omega), wrapI (by omega) (by omega)]
    have dw : trW w k bs i = (w i).lo + (bs ((2 * i + 1) % k) + 23 * ((2 * i + 1 : Nat) : Int)).tmod ((w i).hi - (w i).lo + 1) := if_neg hk
    have dv : trV v k bs i = (v i).lo + (bs ((2 * i + 2) % k) + 23 * ((2 * i + 2 : Nat) : Int)).tmod ((v i).hi - (v i).lo + 1) := if_neg hk
    have f1 : IntKind.i64.wrap ((w i).lo + (bs ((2 * i + 1) % k) + 23 * ((2 * i + 1 : Nat) : Int)).tmod ((w i).hi - (w i).lo + 1)) = trW w k bs i := by
     rw [← dw]; exact wrapI (by omega) (by omega)
    have f2 : IntKind.i64.wrap ((v i).lo + (bs ((2 * i + 2) % k) + 23 * ((2 * i + 2 : Nat) : Int)).tmod ((v i).hi - (v i).lo + 1)) = trV v k bs i := by
     rw [← dv]; exact wrapI (by omega) (by omega)
    have y1 : (((k : Int) ≠ 0 ∧ (IntKind.i64 = IntKind.i64)) ∧ ((I (((2 * i + 1) % k : Nat) : Int) : Value) = I (((2 * i + 1 : Nat) : Int).tmod (k : Int)))) := ⟨⟨by omega, rfl⟩, by rw [m1]⟩
    have y2 : (((k : Int) ≠ 0 ∧ (IntKind.i64 = IntKind.i64)) ∧ ((I (((2 * i + 2) % k : Nat) : Int) : Value) = I (((2 * i + 2 : Nat) : Int).tmod (k : Int)))) := ⟨⟨by omega, rfl⟩, by rw [m2]⟩
    cases i with
    | zero =>
     refine ⟨T12a, _, rfl, (b12a rw st n cw cv m cu k d w v bs ((2 * 0 : Nat) : Int) 0 ((2 * 0 + 1) % k) ((2 * 0 + 2) % k) ((bs ((2 * 0 + 1) % k) + 23 * ((2 * 0 + 1 : Nat) : Int)).tmod ((w 0).hi - (w 0).lo + 1)) ((bs ((2 * 0 + 2) % k) + 23 * ((2 * 0 + 2 : Nat) : Int)).tmod ((v 0).hi - (v 0).lo + 1)) R).mpr ⟨fun _ => ?_, fun h => absurd (by omega) (of_decide_eq_false h)⟩⟩
     rw [a1, a2, ew, ev, c1, c2, f1, f2]
     exact ⟨q1, r1, q2, r2, tk, y1, ⟨⟨by omega, by omega⟩, rfl⟩, u16L_get bs l1, ⟨⟨by omega, rfl⟩, rfl⟩, ⟨r2, rfl, trivial⟩, ⟨r2, rfl, trivial⟩, tk, y2, ⟨⟨by omega, by omega⟩, rfl⟩, u16L_get bs l2, ⟨⟨by omega, rfl⟩, rfl⟩, goZ rfl⟩
    | succ i =>
     refine ⟨T12b, _, rfl, (b12b rw st n cw cv m cu k d w v bs ((2 * (i + 1) : Nat) : Int) (i + 1) ((2 * (i + 1) + 1) % k) ((2 * (i + 1) + 2) % k) ((bs ((2 * (i + 1) + 1) % k) + 23 * ((2 * (i + 1) + 1 : Nat) : Int)).tmod ((w (i + 1)).hi - (w (i + 1)).lo + 1)) ((bs ((2 * (i + 1) + 2) % k) + 23 * ((2 * (i + 1) + 2 : Nat) : Int)).tmod ((v (i + 1)).hi - (v (i + 1)).lo + 1)) (ints (i + 1) (trW w k bs)) (ints (i + 1) (trV v k bs)) R).mpr ⟨fun _ => ?_, fun h => absurd (by omega) (of_decide_eq_false h)⟩⟩
     rw [hw, a1, a2, ew, ev, c1, c2, f1, f2]
     exact ⟨q1, r1, q2, r2, tk, y1, ⟨⟨by omega, by omega⟩, rfl⟩, u16L_get bs l1, ⟨⟨by omega, rfl⟩, rfl⟩, ⟨r2, rfl, trivial⟩, g1, ⟨r2, rfl, trivial⟩, tk, y2, ⟨⟨by omega, by omega⟩, rfl⟩, u16L_get bs l2, ⟨⟨by omega, rfl⟩, rfl⟩, g2, goS (by omega)⟩) (fun R hR => by
  rw [hst] at hR ⊢
  exact ⟨T12b, _, rfl, (b12bz rw st n cw cv m cu k d w v bs _ n _ _ R).mpr ⟨fun h => absurd (of_decide_eq_true h) (by omega), fun _ => hR⟩⟩) (T0 := T12a) (T1 := T12b) rfl (Nat.le_of_ble_eq_true rfl) (by decide) (by rw [hst]; rfl)
 rw [hst] at main
 exact main
theorem C12_ok (hS : SOK rw st n w v) (hb : ∀ i, i < k → 0 ≤ bs i ∧ bs i < 65536) (h0 : 0 < n) : ConNOK Tryd.prog 12 (C12 rw st n cw cv m cu k d (spL n w) (spL n v) (u16L k bs) (ints n (trW w k bs)) (ints n (trV v k bs))) := by
 refine conRow22_of rfl vx_sound (C := C12 rw st n cw cv m cu k d (spL n w) (spL n v) (u16L k bs) (ints n (trW w k bs)) (ints n (trV v k bs))) (n := n) (c1 := ints n (trW w k bs)) (c2 := ints n (trV v k bs)) (e1 := 3) (e2 := 3) ⟨⟨[I rw, I st], [(n, cw), (n, cv), (m, cu), (k, d)]⟩, [spL n w, spL n v, u16L k bs]⟩ (fun x => Iff.rfl) rfl rfl rfl ?_ ?_ (ints_at _ _) (ints_at _ _) rfl (Nat.le_of_ble_eq_true rfl) (by rw [nglob]; exact Nat.le_of_ble_eq_true rfl)
 · exact ⟨_, (f12 rw st n cw cv m cu k d w v bs _ _ _ _).mpr ⟨cl12 (rw := rw) (st := st) (n := n) (cw := cw) (cv := cv) (m := m) (cu := cu) (k := k) (d := d) (w := w) (v := v) (bs := bs) 0, loop12 hS hb h0, rfl⟩⟩
 · intro cs hc
   simp only [List.mem_cons, List.not_mem_nil, or_false] at hc
   rcases hc with rfl | rfl | rfl
   · exact spL_at _ _
   · exact spL_at _ _
   · exact u16L_at _ _
end
end Go.Ab
