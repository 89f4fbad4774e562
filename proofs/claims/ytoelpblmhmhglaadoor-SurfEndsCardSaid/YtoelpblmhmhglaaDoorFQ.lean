/- package surf: SurfEnds: the loops over ways. -/
import Derived.Test.YtoelpblmhmhglaaDoorFN
import Derived.Test.YtoelpblmhmhglaaDoorFO
import Derived.Test.YtoelpblmhmhglaaDoorFP
set_option maxRecDepth 100000
namespace Go.Ab
open Go Go.RowKit Go.Proofs
theorem b5ha (rw : Nat) (st : Int) (n cw cv m cu q hut k wl i : Nat) (w v : Nat → Sp) (u : Nat → Hut) (ra : Nat → Int) (lo : Nat → Bool) (tb : List Value) (yes no ways : Int) (a1 d1 a2 d2 : Nat) (R : Nat → AExit → Hw → Prop) : (vx.code none (.l p5h) (leafW [T5ha, T5hb] R) (T5ha.inst (h5ha rw st n cw cv m cu q hut k wl tb (spL n w) (spL n v) (huL m u) (ints 3 ra) (boolsL 3 lo) yes no ways i)) ((0, .val (.bool true)) :: (6, .val (.pointer (some ⟨2, 0 + i * 2, none⟩))) :: (0, .val (.agg ⟨[(I ((w i).lo)), (I ((w i).hi))]⟩)) :: (3, .val (.pointer (some ⟨3, 0 + i * 2, none⟩))) :: (0, .val (.agg ⟨[(I ((v i).lo)), (I ((v i).hi))]⟩)) :: (1, .again) :: (11, .val (I a1)) :: (8, .val (I (IntKind.i64.wrap ((wl : Int).tdiv (IntKind.i64.wrap (IntKind.i64.wrap ((w i).hi - (w i).lo) + (1 : Int))))))) :: (1, .again) :: (12, .val (I d1)) :: (8, .val (I (IntKind.i64.wrap ((IntKind.i64.wrap ((wl : Int).tdiv (IntKind.i64.wrap (IntKind.i64.wrap ((w i).hi - (w i).lo) + (1 : Int))))).tdiv (IntKind.i64.wrap (IntKind.i64.wrap ((v i).hi - (v i).lo) + (1 : Int))))))) :: (1, .again) :: [(4, .tm 1 [((10 : Nat), (13 : Nat)), ((11 : Nat), (15 : Nat))])])) =
(((((some (.bool (decide ((i : Int) < q))) : Option Value) = some (.bool true))) ∧
((((((0 : Int) ≤ i)) ∧ (((i : Int) < n))) ∧ (((.pointer (some ⟨2, 0 + i * 2, none⟩)) : Value) = (.pointer (some ⟨2, 0 + i * 2, none⟩)))) ∧
((((0 + i * 2 + 2 ≤ (spL n w).length)) ∧ (((.agg ⟨[(I ((w i).lo)), (I ((w i).hi))]⟩) : Value) = (.agg ⟨(List.take 2 (List.drop (0 + i * 2) (spL n w)))⟩))) ∧
((((((0 : Int) ≤ i)) ∧ (((i : Int) < n))) ∧ (((.pointer (some ⟨3, 0 + i * 2, none⟩)) : Value) = (.pointer (some ⟨3, 0 + i * 2, none⟩)))) ∧
((((0 + i * 2 + 2 ≤ (spL n v).length)) ∧ (((.agg ⟨[(I ((v i).lo)), (I ((v i).hi))]⟩) : Value) = (.agg ⟨(List.take 2 (List.drop (0 + i * 2) (spL n v)))⟩))) ∧
(((((0 + i * 2 + 2 ≤ (spL n v).length)) ∧ (((.agg ⟨[(I ((v i).lo)), (I ((v i).hi))]⟩) : Value) = (.agg ⟨(List.take 2 (List.drop (0 + i * 2) (spL n v)))⟩))) ∧ ((((some (.slice (.some ⟨3, 0, .none⟩) (n) (cv)) : Option Value) = some (.slice (.some ⟨3, 0, .none⟩) (n) (cv)))) ∧ (True))) ∧
(((((IntKind.i64.wrap (IntKind.i64.wrap ((w i).hi - (w i).lo) + (1 : Int)) ≠ (0 : Int))) ∧ ((IntKind.i64 = IntKind.i64))) ∧ (((I a1) : Value) = (I ((wl : Int).tmod (IntKind.i64.wrap (IntKind.i64.wrap ((w i).hi - (w i).lo) + (1 : Int))))))) ∧
(((((IntKind.i64.wrap (IntKind.i64.wrap ((w i).hi - (w i).lo) + (1 : Int)) ≠ (0 : Int))) ∧ ((IntKind.i64 = IntKind.i64))) ∧ (((I (IntKind.i64.wrap ((wl : Int).tdiv (IntKind.i64.wrap (IntKind.i64.wrap ((w i).hi - (w i).lo) + (1 : Int)))))) : Value) = (I (IntKind.i64.wrap ((wl : Int).tdiv (IntKind.i64.wrap (IntKind.i64.wrap ((w i).hi - (w i).lo) + (1 : Int)))))))) ∧
(((((some (I ((w i).lo)) : Option Value) = some (I ((w i).lo)))) ∧ ((((some (I ((w i).hi)) : Option Value) = some (I ((w i).hi)))) ∧ (True))) ∧
(((((IntKind.i64.wrap (IntKind.i64.wrap ((v i).hi - (v i).lo) + (1 : Int)) ≠ (0 : Int))) ∧ ((IntKind.i64 = IntKind.i64))) ∧ (((I d1) : Value) = (I ((IntKind.i64.wrap ((wl : Int).tdiv (IntKind.i64.wrap (IntKind.i64.wrap ((w i).hi - (w i).lo) + (1 : Int))))).tmod (IntKind.i64.wrap (IntKind.i64.wrap ((v i).hi - (v i).lo) + (1 : Int))))))) ∧
(((((IntKind.i64.wrap (IntKind.i64.wrap ((v i).hi - (v i).lo) + (1 : Int)) ≠ (0 : Int))) ∧ ((IntKind.i64 = IntKind.i64))) ∧ (((I (IntKind.i64.wrap ((IntKind.i64.wrap ((wl : Int).tdiv (IntKind.i64.wrap (IntKind.i64.wrap ((w i).hi - (w i).lo) + (1 : Int))))).tdiv (IntKind.i64.wrap (IntKind.i64.wrap ((v i).hi - (v i).lo) + (1 : Int)))))) : Value) = (I (IntKind.i64.wrap ((IntKind.i64.wrap ((wl : Int).tdiv (IntKind.i64.wrap (IntKind.i64.wrap ((w i).hi - (w i).lo) + (1 : Int))))).tdiv (IntKind.i64.wrap (IntKind.i64.wrap ((v i).hi - (v i).lo) + (1 : Int)))))))) ∧
(((((some (I ((v i).lo)) : Option Value) = some (I ((v i).lo)))) ∧ ((((some (I ((v i).hi)) : Option Value) = some (I ((v i).hi)))) ∧ (True))) ∧
R 1 .normal ⟨⟨[(I q), (I hut), (I yes), (I no), (I (IntKind.i64.wrap ((IntKind.i64.wrap ((wl : Int).tdiv (IntKind.i64.wrap (IntKind.i64.wrap ((w i).hi - (w i).lo) + (1 : Int))))).tdiv (IntKind.i64.wrap (IntKind.i64.wrap ((v i).hi - (v i).lo) + (1 : Int)))))), (I ways), (I k), (I q), (I (IntKind.i64.wrap ((i : Int) + (1 : Int)))), (I rw), (I st)], [⟨((1 : Nat)), ((1 : Nat))⟩, ⟨((1 : Nat)), ((1 : Nat))⟩, ⟨n, cw⟩, ⟨n, cv⟩, ⟨m, cu⟩]⟩, [(tb), (spL n w), (spL n v), (huL m u), [(I (ra (0 : Nat))), (I (ra (1 : Nat))), (I (ra (2 : Nat)))], [(.bool (lo (0 : Nat))), (.bool (lo (1 : Nat))), (.bool (lo (2 : Nat)))], [(I (IntKind.i64.wrap ((w i).lo + (a1 : Int))))], [(I (IntKind.i64.wrap ((v i).lo + (d1 : Int))))]], []⟩))))))))))))) := by kernel_rfl
theorem b5hb (rw : Nat) (st : Int) (n cw cv m cu q hut k wl i : Nat) (w v : Nat → Sp) (u : Nat → Hut) (ra : Nat → Int) (lo : Nat → Bool) (tb : List Value) (yes no ways : Int) (a1 d1 a2 d2 kk : Nat) (R : Nat → AExit → Hw → Prop) : (vx.code none (.l p5h) (leafW [T5ha, T5hb] R) (T5hb.inst (h5hb rw st n cw cv m cu q hut k wl tb (spL n w) (spL n v) (huL m u) (ints 3 ra) (boolsL 3 lo) (ints i (wyW w v kk)) (ints i (wyV w v kk)) yes no ways i)) ((0, .val (.bool true)) :: (6, .val (.pointer (some ⟨2, 0 + i * 2, none⟩))) :: (0, .val (.agg ⟨[(I ((w i).lo)), (I ((w i).hi))]⟩)) :: (3, .val (.pointer (some ⟨3, 0 + i * 2, none⟩))) :: (0, .val (.agg ⟨[(I ((v i).lo)), (I ((v i).hi))]⟩)) :: (1, .again) :: (11, .val (I a1)) :: (8, .val (I (IntKind.i64.wrap ((wl : Int).tdiv (IntKind.i64.wrap (IntKind.i64.wrap ((w i).hi - (w i).lo) + (1 : Int))))))) :: (0, .grow) :: (0, .again) :: (12, .val (I d1)) :: (8, .val (I (IntKind.i64.wrap ((IntKind.i64.wrap ((wl : Int).tdiv (IntKind.i64.wrap (IntKind.i64.wrap ((w i).hi - (w i).lo) + (1 : Int))))).tdiv (IntKind.i64.wrap (IntKind.i64.wrap ((v i).hi - (v i).lo) + (1 : Int))))))) :: (0, .grow) :: (0, .again) :: [(4, .tm 1 [((10 : Nat), (15 : Nat)), ((11 : Nat), (17 : Nat))])])) =
(((((some (.bool (decide ((i : Int) < q))) : Option Value) = some (.bool true))) ∧
((((((0 : Int) ≤ i)) ∧ (((i : Int) < n))) ∧ (((.pointer (some ⟨2, 0 + i * 2, none⟩)) : Value) = (.pointer (some ⟨2, 0 + i * 2, none⟩)))) ∧
((((0 + i * 2 + 2 ≤ (spL n w).length)) ∧ (((.agg ⟨[(I ((w i).lo)), (I ((w i).hi))]⟩) : Value) = (.agg ⟨(List.take 2 (List.drop (0 + i * 2) (spL n w)))⟩))) ∧
((((((0 : Int) ≤ i)) ∧ (((i : Int) < n))) ∧ (((.pointer (some ⟨3, 0 + i * 2, none⟩)) : Value) = (.pointer (some ⟨3, 0 + i * 2, none⟩)))) ∧
((((0 + i * 2 + 2 ≤ (spL n v).length)) ∧ (((.agg ⟨[(I ((v i).lo)), (I ((v i).hi))]⟩) : Value) = (.agg ⟨(List.take 2 (List.drop (0 + i * 2) (spL n v)))⟩))) ∧
(((((0 + i * 2 + 2 ≤ (spL n v).length)) ∧ (((.agg ⟨[(I ((v i).lo)), (I ((v i).hi))]⟩) : Value) = (.agg ⟨(List.take 2 (List.drop (0 + i * 2) (spL n v)))⟩))) ∧ ((((some (.slice (.some ⟨3, 0, .none⟩) (n) (cv)) : Option Value) = some (.slice (.some ⟨3, 0, .none⟩) (n) (cv)))) ∧ (True))) ∧
(((((IntKind.i64.wrap (IntKind.i64.wrap ((w i).hi - (w i).lo) + (1 : Int)) ≠ (0 : Int))) ∧ ((IntKind.i64 = IntKind.i64))) ∧ (((I a1) : Value) = (I ((wl : Int).tmod (IntKind.i64.wrap (IntKind.i64.wrap ((w i).hi - (w i).lo) + (1 : Int))))))) ∧
(((((IntKind.i64.wrap (IntKind.i64.wrap ((w i).hi - (w i).lo) + (1 : Int)) ≠ (0 : Int))) ∧ ((IntKind.i64 = IntKind.i64))) ∧ (((I (IntKind.i64.wrap ((wl : Int).tdiv (IntKind.i64.wrap (IntKind.i64.wrap ((w i).hi - (w i).lo) + (1 : Int)))))) : Value) = (I (IntKind.i64.wrap ((wl : Int).tdiv (IntKind.i64.wrap (IntKind.i64.wrap ((w i).hi - (w i).lo) + (1 : Int)))))))) ∧
((((¬i + (1 : Nat) ≤ i)) ∧ (((i * (1 : Nat) = (ints i (wyW w v kk)).length)) ∧ ((((i + (1 : Nat)) * (8 : Nat) ≤ (140737488355328 : Nat))) ∧ ((i + (1 : Nat) ≤ (4611686018427387904 : Nat)))))) ∧
(((((some (I ((w i).lo)) : Option Value) = some (I ((w i).lo)))) ∧ ((((some (I ((w i).hi)) : Option Value) = some (I ((w i).hi)))) ∧ (True))) ∧
(((((IntKind.i64.wrap (IntKind.i64.wrap ((v i).hi - (v i).lo) + (1 : Int)) ≠ (0 : Int))) ∧ ((IntKind.i64 = IntKind.i64))) ∧ (((I d1) : Value) = (I ((IntKind.i64.wrap ((wl : Int).tdiv (IntKind.i64.wrap (IntKind.i64.wrap ((w i).hi - (w i).lo) + (1 : Int))))).tmod (IntKind.i64.wrap (IntKind.i64.wrap ((v i).hi - (v i).lo) + (1 : Int))))))) ∧
(((((IntKind.i64.wrap (IntKind.i64.wrap ((v i).hi - (v i).lo) + (1 : Int)) ≠ (0 : Int))) ∧ ((IntKind.i64 = IntKind.i64))) ∧ (((I (IntKind.i64.wrap ((IntKind.i64.wrap ((wl : Int).tdiv (IntKind.i64.wrap (IntKind.i64.wrap ((w i).hi - (w i).lo) + (1 : Int))))).tdiv (IntKind.i64.wrap (IntKind.i64.wrap ((v i).hi - (v i).lo) + (1 : Int)))))) : Value) = (I (IntKind.i64.wrap ((IntKind.i64.wrap ((wl : Int).tdiv (IntKind.i64.wrap (IntKind.i64.wrap ((w i).hi - (w i).lo) + (1 : Int))))).tdiv (IntKind.i64.wrap (IntKind.i64.wrap ((v i).hi - (v i).lo) + (1 : Int)))))))) ∧
((((¬i + (1 : Nat) ≤ i)) ∧ (((i * (1 : Nat) = (ints i (wyV w v kk)).length)) ∧ ((((i + (1 : Nat)) * (8 : Nat) ≤ (140737488355328 : Nat))) ∧ ((i + (1 : Nat) ≤ (4611686018427387904 : Nat)))))) ∧
(((((some (I ((v i).lo)) : Option Value) = some (I ((v i).lo)))) ∧ ((((some (I ((v i).hi)) : Option Value) = some (I ((v i).hi)))) ∧ (True))) ∧
R 1 .normal ⟨⟨[(I q), (I hut), (I yes), (I no), (I (IntKind.i64.wrap ((IntKind.i64.wrap ((wl : Int).tdiv (IntKind.i64.wrap (IntKind.i64.wrap ((w i).hi - (w i).lo) + (1 : Int))))).tdiv (IntKind.i64.wrap (IntKind.i64.wrap ((v i).hi - (v i).lo) + (1 : Int)))))), (I ways), (I k), (I q), (I (IntKind.i64.wrap ((i : Int) + (1 : Int)))), (I rw), (I st)], [⟨(i + (1 : Nat)), (i + (1 : Nat))⟩, ⟨(i + (1 : Nat)), (i + (1 : Nat))⟩, ⟨n, cw⟩, ⟨n, cv⟩, ⟨m, cu⟩]⟩, [(tb), (spL n w), (spL n v), (huL m u), [(I (ra (0 : Nat))), (I (ra (1 : Nat))), (I (ra (2 : Nat)))], [(.bool (lo (0 : Nat))), (.bool (lo (1 : Nat))), (.bool (lo (2 : Nat)))], ((List.take (i * (1 : Nat)) (ints i (wyW w v kk))) ++ [(I (IntKind.i64.wrap ((w i).lo + (a1 : Int))))]), ((List.take (i * (1 : Nat)) (ints i (wyV w v kk))) ++ [(I (IntKind.i64.wrap ((v i).lo + (d1 : Int))))])], []⟩))))))))))))))) := by kernel_rfl
theorem b5hx (rw : Nat) (st : Int) (n cw cv m cu q hut k wl i : Nat) (w v : Nat → Sp) (u : Nat → Hut) (ra : Nat → Int) (lo : Nat → Bool) (tb : List Value) (yes no ways : Int) (r1 r2 : List Value) (R : Nat → AExit → Hw → Prop) : (vx.code none (.l p5h) (leafW [T5ha, T5hb] R) (T5hb.inst (h5hb rw st n cw cv m cu q hut k wl tb (spL n w) (spL n v) (huL m u) (ints 3 ra) (boolsL 3 lo) r1 r2 yes no ways i)) ((0, .val (.bool false)) :: [(1, .tm 1 [((10 : Nat), (10 : Nat)), ((11 : Nat), (11 : Nat))])])) =
(((((some (.bool (decide ((i : Int) < q))) : Option Value) = some (.bool false))) ∧
R 1 (.exit 4) ⟨⟨[(I q), (I hut), (I yes), (I no), (I wl), (I ways), (I k), (I q), (I i), (I rw), (I st)], [⟨i, i⟩, ⟨i, i⟩, ⟨n, cw⟩, ⟨n, cv⟩, ⟨m, cu⟩]⟩, [(tb), (spL n w), (spL n v), (huL m u), [(I (ra (0 : Nat))), (I (ra (1 : Nat))), (I (ra (2 : Nat)))], [(.bool (lo (0 : Nat))), (.bool (lo (1 : Nat))), (.bool (lo (2 : Nat)))], (r1), (r2)], []⟩)) := by kernel_rfl
theorem b5rpt (rw : Nat) (st : Int) (n cw cv m cu q hut k i : Nat) (w v : Nat → Sp) (u : Nat → Hut) (ra ra2 ro : Nat → Int) (lo lo2 fo : Nat → Bool) (tb : List Value) (yes no ways : Int) (R : Nat → AExit → Hw → Prop) : (vx.code none (.l p5r) (leafW [T5r] R) (T5r.inst (h5r rw st n cw cv m cu q hut k tb (spL n w) (spL n v) (huL m u) (ints 3 ra) (boolsL 3 lo) ro fo yes no ways i)) ((0, .val (.bool true)) :: (2, .val (.pointer (some ⟨12, 0 + i * 1, none⟩))) :: (0, .val (I (ro i))) :: (3, .val (.bool false)) :: (2, .val (.pointer (some ⟨8, 0 + i * 1, none⟩))) :: (0, .val (I (ra i))) :: (1, .val (I (IntKind.i64.wrap ((1 : Int) * (2 : Int) ^ (ro i).toNat)))) :: (1, .val (.pointer (some ⟨8, 0 + i * 1, none⟩))) :: (0, .put (ints (3 : Nat) ra2)) :: (2, .val (.pointer (some ⟨13, 0 + i * 1, none⟩))) :: (0, .val (.bool true)) :: (3, .val (I (IntKind.i64.wrap ((1 : Int) * (2 : Int) ^ i)))) :: [(4, .tm 0 [])])) =
(((((some (.bool (decide ((i : Int) < q))) : Option Value) = some (.bool true))) ∧
((((((0 : Int) ≤ i)) ∧ (((i : Int) < q))) ∧ (((.pointer (some ⟨12, 0 + i * 1, none⟩)) : Value) = (.pointer (some ⟨12, 0 + i * 1, none⟩)))) ∧
((((ints q ro)[0 + i * 1]? = some (I (ro i)))) ∧
((((some (.bool (decide (ro i < (0 : Int)))) : Option Value) = some (.bool false))) ∧
((((((0 : Int) ≤ i)) ∧ (((i : Int) < (↑(3 : Nat) : Int)))) ∧ (((.pointer (some ⟨8, 0 + i * 1, none⟩)) : Value) = (.pointer (some ⟨8, 0 + i * 1, none⟩)))) ∧
((([Value.int .i64 (ra (0 : Nat)), Value.int .i64 (ra (1 : Nat)), Value.int .i64 (ra (2 : Nat))][0 + i * 1]? = some (I (ra i)))) ∧
((((((0 : Int) ≤ ro i)) ∧ ((ro i ≤ (↑(64 : Nat) : Int)))) ∧ (((I (IntKind.i64.wrap ((1 : Int) * (2 : Int) ^ (ro i).toNat))) : Value) = (I (IntKind.i64.wrap ((1 : Int) * (2 : Int) ^ (ro i).toNat))))) ∧
((((((0 : Int) ≤ i)) ∧ (((i : Int) < (↑(3 : Nat) : Int)))) ∧ (((.pointer (some ⟨8, 0 + i * 1, none⟩)) : Value) = (.pointer (some ⟨8, 0 + i * 1, none⟩)))) ∧
((((0 + i * 1 + 1 ≤ (3 : Nat))) ∧ ((List.take ((0 : Nat) + i * (1 : Nat)) [Value.int .i64 (ra (0 : Nat)), Value.int .i64 (ra (1 : Nat)), Value.int .i64 (ra (2 : Nat))] ++ [Value.int .i64 (bits BinOp.or IntKind.i64 (ra i) (IntKind.i64.wrap ((1 : Int) * (2 : Int) ^ (ro i).toNat)))] ++ List.drop ((0 : Nat) + i * (1 : Nat) + (1 : Nat)) [Value.int .i64 (ra (0 : Nat)), Value.int .i64 (ra (1 : Nat)), Value.int .i64 (ra (2 : Nat))] = [Value.int .i64 (ra2 (0 : Nat)), Value.int .i64 (ra2 (1 : Nat)), Value.int .i64 (ra2 (2 : Nat))]))) ∧
((((((0 : Int) ≤ i)) ∧ (((i : Int) < q))) ∧ (((.pointer (some ⟨13, 0 + i * 1, none⟩)) : Value) = (.pointer (some ⟨13, 0 + i * 1, none⟩)))) ∧
((((boolsL q fo)[0 + i * 1]? = some (.bool true))) ∧
((((((0 : Int) ≤ i)) ∧ (((i : Int) ≤ (↑(64 : Nat) : Int)))) ∧ (((I (IntKind.i64.wrap ((1 : Int) * (2 : Int) ^ i))) : Value) = (I (IntKind.i64.wrap ((1 : Int) * (2 : Int) ^ i))))) ∧
R 0 .normal ⟨⟨[(I q), (I hut), (I (bits BinOp.or IntKind.i64 yes (IntKind.i64.wrap ((1 : Int) * (2 : Int) ^ i)))), (I no), (I ways), (I k), (I q), (I (IntKind.i64.wrap ((i : Int) + (1 : Int)))), (I rw), (I st)], [⟨q, q⟩, ⟨q, q⟩, ⟨n, cw⟩, ⟨n, cv⟩, ⟨m, cu⟩]⟩, [(tb), (spL n w), (spL n v), (huL m u), [(I (ra2 (0 : Nat))), (I (ra2 (1 : Nat))), (I (ra2 (2 : Nat)))], [(.bool (lo (0 : Nat))), (.bool (lo (1 : Nat))), (.bool (lo (2 : Nat)))], (ints q ro), (boolsL q fo)], []⟩))))))))))))) := by kernel_rfl
theorem b5rpf (rw : Nat) (st : Int) (n cw cv m cu q hut k i : Nat) (w v : Nat → Sp) (u : Nat → Hut) (ra ra2 ro : Nat → Int) (lo lo2 fo : Nat → Bool) (tb : List Value) (yes no ways : Int) (R : Nat → AExit → Hw → Prop) : (vx.code none (.l p5r) (leafW [T5r] R) (T5r.inst (h5r rw st n cw cv m cu q hut k tb (spL n w) (spL n v) (huL m u) (ints 3 ra) (boolsL 3 lo) ro fo yes no ways i)) ((0, .val (.bool true)) :: (2, .val (.pointer (some ⟨12, 0 + i * 1, none⟩))) :: (0, .val (I (ro i))) :: (3, .val (.bool false)) :: (2, .val (.pointer (some ⟨8, 0 + i * 1, none⟩))) :: (0, .val (I (ra i))) :: (1, .val (I (IntKind.i64.wrap ((1 : Int) * (2 : Int) ^ (ro i).toNat)))) :: (1, .val (.pointer (some ⟨8, 0 + i * 1, none⟩))) :: (0, .put (ints (3 : Nat) ra2)) :: (2, .val (.pointer (some ⟨13, 0 + i * 1, none⟩))) :: (0, .val (.bool false)) :: (3, .val (I (IntKind.i64.wrap ((1 : Int) * (2 : Int) ^ i)))) :: [(4, .tm 0 [])])) =
(((((some (.bool (decide ((i : Int) < q))) : Option Value) = some (.bool true))) ∧
((((((0 : Int) ≤ i)) ∧ (((i : Int) < q))) ∧ (((.pointer (some ⟨12, 0 + i * 1, none⟩)) : Value) = (.pointer (some ⟨12, 0 + i * 1, none⟩)))) ∧
((((ints q ro)[0 + i * 1]? = some (I (ro i)))) ∧
((((some (.bool (decide (ro i < (0 : Int)))) : Option Value) = some (.bool false))) ∧
((((((0 : Int) ≤ i)) ∧ (((i : Int) < (↑(3 : Nat) : Int)))) ∧ (((.pointer (some ⟨8, 0 + i * 1, none⟩)) : Value) = (.pointer (some ⟨8, 0 + i * 1, none⟩)))) ∧
((([Value.int .i64 (ra (0 : Nat)), Value.int .i64 (ra (1 : Nat)), Value.int .i64 (ra (2 : Nat))][0 + i * 1]? = some (I (ra i)))) ∧
((((((0 : Int) ≤ ro i)) ∧ ((ro i ≤ (↑(64 : Nat) : Int)))) ∧ (((I (IntKind.i64.wrap ((1 : Int) * (2 : Int) ^ (ro i).toNat))) : Value) = (I (IntKind.i64.wrap ((1 : Int) * (2 : Int) ^ (ro i).toNat))))) ∧
((((((0 : Int) ≤ i)) ∧ (((i : Int) < (↑(3 : Nat) : Int)))) ∧ (((.pointer (some ⟨8, 0 + i * 1, none⟩)) : Value) = (.pointer (some ⟨8, 0 + i * 1, none⟩)))) ∧
((((0 + i * 1 + 1 ≤ (3 : Nat))) ∧ ((List.take ((0 : Nat) + i * (1 : Nat)) [Value.int .i64 (ra (0 : Nat)), Value.int .i64 (ra (1 : Nat)), Value.int .i64 (ra (2 : Nat))] ++ [Value.int .i64 (bits BinOp.or IntKind.i64 (ra i) (IntKind.i64.wrap ((1 : Int) * (2 : Int) ^ (ro i).toNat)))] ++ List.drop ((0 : Nat) + i * (1 : Nat) + (1 : Nat)) [Value.int .i64 (ra (0 : Nat)), Value.int .i64 (ra (1 : Nat)), Value.int .i64 (ra (2 : Nat))] = [Value.int .i64 (ra2 (0 : Nat)), Value.int .i64 (ra2 (1 : Nat)), Value.int .i64 (ra2 (2 : Nat))]))) ∧
((((((0 : Int) ≤ i)) ∧ (((i : Int) < q))) ∧ (((.pointer (some ⟨13, 0 + i * 1, none⟩)) : Value) = (.pointer (some ⟨13, 0 + i * 1, none⟩)))) ∧
((((boolsL q fo)[0 + i * 1]? = some (.bool false))) ∧
((((((0 : Int) ≤ i)) ∧ (((i : Int) ≤ (↑(64 : Nat) : Int)))) ∧ (((I (IntKind.i64.wrap ((1 : Int) * (2 : Int) ^ i))) : Value) = (I (IntKind.i64.wrap ((1 : Int) * (2 : Int) ^ i))))) ∧
R 0 .normal ⟨⟨[(I q), (I hut), (I yes), (I (bits BinOp.or IntKind.i64 no (IntKind.i64.wrap ((1 : Int) * (2 : Int) ^ i)))), (I ways), (I k), (I q), (I (IntKind.i64.wrap ((i : Int) + (1 : Int)))), (I rw), (I st)], [⟨q, q⟩, ⟨q, q⟩, ⟨n, cw⟩, ⟨n, cv⟩, ⟨m, cu⟩]⟩, [(tb), (spL n w), (spL n v), (huL m u), [(I (ra2 (0 : Nat))), (I (ra2 (1 : Nat))), (I (ra2 (2 : Nat)))], [(.bool (lo (0 : Nat))), (.bool (lo (1 : Nat))), (.bool (lo (2 : Nat)))], (ints q ro), (boolsL q fo)], []⟩))))))))))))) := by kernel_rfl
theorem b5rnt (rw : Nat) (st : Int) (n cw cv m cu q hut k i : Nat) (w v : Nat → Sp) (u : Nat → Hut) (ra ra2 ro : Nat → Int) (lo lo2 fo : Nat → Bool) (tb : List Value) (yes no ways : Int) (R : Nat → AExit → Hw → Prop) : (vx.code none (.l p5r) (leafW [T5r] R) (T5r.inst (h5r rw st n cw cv m cu q hut k tb (spL n w) (spL n v) (huL m u) (ints 3 ra) (boolsL 3 lo) ro fo yes no ways i)) ((0, .val (.bool true)) :: (2, .val (.pointer (some ⟨12, 0 + i * 1, none⟩))) :: (0, .val (I (ro i))) :: (3, .val (.bool true)) :: (2, .val (.pointer (some ⟨9, 0 + i * 1, none⟩))) :: (0, .put (boolsL (3 : Nat) lo2)) :: (2, .val (.pointer (some ⟨13, 0 + i * 1, none⟩))) :: (0, .val (.bool true)) :: (3, .val (I (IntKind.i64.wrap ((1 : Int) * (2 : Int) ^ i)))) :: [(4, .tm 0 [])])) =
(((((some (.bool (decide ((i : Int) < q))) : Option Value) = some (.bool true))) ∧
((((((0 : Int) ≤ i)) ∧ (((i : Int) < q))) ∧ (((.pointer (some ⟨12, 0 + i * 1, none⟩)) : Value) = (.pointer (some ⟨12, 0 + i * 1, none⟩)))) ∧
((((ints q ro)[0 + i * 1]? = some (I (ro i)))) ∧
((((some (.bool (decide (ro i < (0 : Int)))) : Option Value) = some (.bool true))) ∧
((((((0 : Int) ≤ i)) ∧ (((i : Int) < (↑(3 : Nat) : Int)))) ∧ (((.pointer (some ⟨9, 0 + i * 1, none⟩)) : Value) = (.pointer (some ⟨9, 0 + i * 1, none⟩)))) ∧
((((0 + i * 1 + 1 ≤ (3 : Nat))) ∧ ((List.take ((0 : Nat) + i * (1 : Nat)) [Value.bool (lo (0 : Nat)), Value.bool (lo (1 : Nat)), Value.bool (lo (2 : Nat))] ++ [Value.bool true] ++ List.drop ((0 : Nat) + i * (1 : Nat) + (1 : Nat)) [Value.bool (lo (0 : Nat)), Value.bool (lo (1 : Nat)), Value.bool (lo (2 : Nat))] = [Value.bool (lo2 (nat_lit 0)), Value.bool (lo2 (nat_lit 1)), Value.bool (lo2 (nat_lit 2))]))) ∧
((((((0 : Int) ≤ i)) ∧ (((i : Int) < q))) ∧ (((.pointer (some ⟨13, 0 + i * 1, none⟩)) : Value) = (.pointer (some ⟨13, 0 + i * 1, none⟩)))) ∧
((((boolsL q fo)[0 + i * 1]? = some (.bool true))) ∧
((((((0 : Int) ≤ i)) ∧ (((i : Int) ≤ (↑(64 : Nat) : Int)))) ∧ (((I (IntKind.i64.wrap ((1 : Int) * (2 : Int) ^ i))) : Value) = (I (IntKind.i64.wrap ((1 : Int) * (2 : Int) ^ i))))) ∧
R 0 .normal ⟨⟨[(I q), (I hut), (I (bits BinOp.or IntKind.i64 yes (IntKind.i64.wrap ((1 : Int) * (2 : Int) ^ i)))), (I no), (I ways), (I k), (I q), (I (IntKind.i64.wrap ((i : Int) + (1 : Int)))), (I rw), (I st)], [⟨q, q⟩, ⟨q, q⟩, ⟨n, cw⟩, ⟨n, cv⟩, ⟨m, cu⟩]⟩, [(tb), (spL n w), (spL n v), (huL m u), [(I (ra (0 : Nat))), (I (ra (1 : Nat))), (I (ra (2 : Nat)))], [(.bool (lo2 (0 : Nat))), (.bool (lo2 (1 : Nat))), (.bool (lo2 (2 : Nat)))], (ints q ro), (boolsL q fo)], []⟩)))))))))) := by kernel_rfl
theorem b5rnf (rw : Nat) (st : Int) (n cw cv m cu q hut k i : Nat) (w v : Nat → Sp) (u : Nat → Hut) (ra ra2 ro : Nat → Int) (lo lo2 fo : Nat → Bool) (tb : List Value) (yes no ways : Int) (R : Nat → AExit → Hw → Prop) : (vx.code none (.l p5r) (leafW [T5r] R) (T5r.inst (h5r rw st n cw cv m cu q hut k tb (spL n w) (spL n v) (huL m u) (ints 3 ra) (boolsL 3 lo) ro fo yes no ways i)) ((0, .val (.bool true)) :: (2, .val (.pointer (some ⟨12, 0 + i * 1, none⟩))) :: (0, .val (I (ro i))) :: (3, .val (.bool true)) :: (2, .val (.pointer (some ⟨9, 0 + i * 1, none⟩))) :: (0, .put (boolsL (3 : Nat) lo2)) :: (2, .val (.pointer (some ⟨13, 0 + i * 1, none⟩))) :: (0, .val (.bool false)) :: (3, .val (I (IntKind.i64.wrap ((1 : Int) * (2 : Int) ^ i)))) :: [(4, .tm 0 [])])) =
(((((some (.bool (decide ((i : Int) < q))) : Option Value) = some (.bool true))) ∧
((((((0 : Int) ≤ i)) ∧ (((i : Int) < q))) ∧ (((.pointer (some ⟨12, 0 + i * 1, none⟩)) : Value) = (.pointer (some ⟨12, 0 + i * 1, none⟩)))) ∧
((((ints q ro)[0 + i * 1]? = some (I (ro i)))) ∧
((((some (.bool (decide (ro i < (0 : Int)))) : Option Value) = some (.bool true))) ∧
((((((0 : Int) ≤ i)) ∧ (((i : Int) < (↑(3 : Nat) : Int)))) ∧ (((.pointer (some ⟨9, 0 + i * 1, none⟩)) : Value) = (.pointer (some ⟨9, 0 + i * 1, none⟩)))) ∧
((((0 + i * 1 + 1 ≤ (3 : Nat))) ∧ ((List.take ((0 : Nat) + i * (1 : Nat)) [Value.bool (lo (0 : Nat)), Value.bool (lo (1 : Nat)), Value.bool (lo (2 : Nat))] ++ [Value.bool true] ++ List.drop ((0 : Nat) + i * (1 : Nat) + (1 : Nat)) [Value.bool (lo (0 : Nat)), Value.bool (lo (1 : Nat)), Value.bool (lo (2 : Nat))] = [Value.bool (lo2 (nat_lit 0)), Value.bool (lo2 (nat_lit 1)), Value.bool (lo2 (nat_lit 2))]))) ∧
((((((0 : Int) ≤ i)) ∧ (((i : Int) < q))) ∧ (((.pointer (some ⟨13, 0 + i * 1, none⟩)) : Value) = (.pointer (some ⟨13, 0 + i * 1, none⟩)))) ∧
((((boolsL q fo)[0 + i * 1]? = some (.bool false))) ∧
((((((0 : Int) ≤ i)) ∧ (((i : Int) ≤ (↑(64 : Nat) : Int)))) ∧ (((I (IntKind.i64.wrap ((1 : Int) * (2 : Int) ^ i))) : Value) = (I (IntKind.i64.wrap ((1 : Int) * (2 : Int) ^ i))))) ∧
R 0 .normal ⟨⟨[(I q), (I hut), (I yes), (I (bits BinOp.or IntKind.i64 no (IntKind.i64.wrap ((1 : Int) * (2 : Int) ^ i)))), (I ways), (I k), (I q), (I (IntKind.i64.wrap ((i : Int) + (1 : Int)))), (I rw), (I st)], [⟨q, q⟩, ⟨q, q⟩, ⟨n, cw⟩, ⟨n, cv⟩, ⟨m, cu⟩]⟩, [(tb), (spL n w), (spL n v), (huL m u), [(I (ra (0 : Nat))), (I (ra (1 : Nat))), (I (ra (2 : Nat)))], [(.bool (lo2 (0 : Nat))), (.bool (lo2 (1 : Nat))), (.bool (lo2 (2 : Nat)))], (ints q ro), (boolsL q fo)], []⟩)))))))))) := by kernel_rfl
theorem b5rx (rw : Nat) (st : Int) (n cw cv m cu q hut k i : Nat) (w v : Nat → Sp) (u : Nat → Hut) (ra ra2 ro : Nat → Int) (lo lo2 fo : Nat → Bool) (tb : List Value) (yes no ways : Int) (R : Nat → AExit → Hw → Prop) : (vx.code none (.l p5r) (leafW [T5r] R) (T5r.inst (h5r rw st n cw cv m cu q hut k tb (spL n w) (spL n v) (huL m u) (ints 3 ra) (boolsL 3 lo) ro fo yes no ways i)) ((0, .val (.bool false)) :: [(1, .tm 0 [])])) =
(((((some (.bool (decide ((i : Int) < q))) : Option Value) = some (.bool false))) ∧
R 0 (.exit 6) ⟨⟨[(I q), (I hut), (I yes), (I no), (I ways), (I k), (I q), (I i), (I rw), (I st)], [⟨q, q⟩, ⟨q, q⟩, ⟨n, cw⟩, ⟨n, cv⟩, ⟨m, cu⟩]⟩, [(tb), (spL n w), (spL n v), (huL m u), [(I (ra (0 : Nat))), (I (ra (1 : Nat))), (I (ra (2 : Nat)))], [(.bool (lo (0 : Nat))), (.bool (lo (1 : Nat))), (.bool (lo (2 : Nat)))], (ints q ro), (boolsL q fo)], []⟩)) := by kernel_rfl
theorem b5w (rw : Nat) (st : Int) (n cw cv m cu q hut k : Nat) (w v : Nat → Sp) (u : Nat → Hut) (ra ra2 : Nat → Int) (lo lo2 : Nat → Bool) (tb : List Value) (yes no yes2 no2 ways : Int) (R : Nat → AExit → Hw → Prop) : (vx.code none (.l p5w) (leafW [T5w] R) (T5w.inst (h5w rw st n cw cv m cu q hut tb (spL n w) (spL n v) (huL m u) (ints 3 ra) (boolsL 3 lo) yes no ways k)) ((0, .val (.bool true)) :: (7, .loopW T5ha (.exit 4) T5hb fun x => h5hb (rw : Int) st n cw cv m cu q hut k (wyl w v k q) tb (spL n w) (spL n v) (huL m u) (ints (3 : Nat) ra) (boolsL (3 : Nat) lo) (ints q (wyW w v k)) (ints q (wyV w v k)) yes no ways q) :: (4, .val (.pointer (some ⟨4, 0 + hut * 3, none⟩))) :: (0, .val (.agg ⟨[(I ((u hut).fl)), (I ((u hut).br)), (I ((↑(u hut).row : Int)))]⟩)) :: (2, .conN (C13q rw st n q cw cv m cu q q (u hut).fl (u hut).br (↑(u hut).row : Int) (ints q (wyW w v k)) (ints q (wyV w v k)) (ints q (wyR st (u hut) w v k)) (boolsL q (wyF st (u hut) w v k)))) :: (8, .loopW T5r (.exit 6) T5r fun x => h5r (rw : Int) st n cw cv m cu q hut k tb (spL n w) (spL n v) (huL m u) (ints (3 : Nat) ra2) (boolsL (3 : Nat) lo2) (wyR st (u hut) w v k) (wyF st (u hut) w v k) yes2 no2 ways q) :: [(2, .tm 0 [])])) =
(((((some (.bool (decide ((k : Int) < ways))) : Option Value) = some (.bool true))) ∧
((ClW ⟨⟨[(I q), (I hut), (I yes), (I no), (I k), (I ways), (I k), (I q), (I 0), (I rw), (I st)], [⟨n, cw⟩, ⟨n, cv⟩, ⟨m, cu⟩]⟩, [(tb), (spL n w), (spL n v), (huL m u), [(I (ra (0 : Nat))), (I (ra (1 : Nat))), (I (ra (2 : Nat)))], [(.bool (lo (0 : Nat))), (.bool (lo (1 : Nat))), (.bool (lo (2 : Nat)))]], []⟩) ∧ (LoopOW Tryd.prog .none p5h (T5ha) ⟨⟨[(I q), (I hut), (I yes), (I no), (I k), (I ways), (I k), (I q), (I 0), (I rw), (I st)], [⟨n, cw⟩, ⟨n, cv⟩, ⟨m, cu⟩]⟩, [(tb), (spL n w), (spL n v), (huL m u), [(I (ra (0 : Nat))), (I (ra (1 : Nat))), (I (ra (2 : Nat)))], [(.bool (lo (0 : Nat))), (.bool (lo (1 : Nat))), (.bool (lo (2 : Nat)))]], []⟩ (.exit 4) (T5hb) ⟨⟨[(I q), (I hut), (I yes), (I no), (I ((↑(wyl w v k q) : Int))), (I ways), (I k), (I q), (I q), (I rw), (I st)], [⟨q, q⟩, ⟨q, q⟩, ⟨n, cw⟩, ⟨n, cv⟩, ⟨m, cu⟩]⟩, [(tb), (spL n w), (spL n v), (huL m u), [(I (ra (0 : Nat))), (I (ra (1 : Nat))), (I (ra (2 : Nat)))], [(.bool (lo (0 : Nat))), (.bool (lo (1 : Nat))), (.bool (lo (2 : Nat)))], (ints q (wyW w v k)), (ints q (wyV w v k))], []⟩) ∧
((((((0 : Int) ≤ hut)) ∧ (((hut : Int) < m))) ∧ (((.pointer (some ⟨4, 0 + hut * 3, none⟩)) : Value) = (.pointer (some ⟨4, 0 + hut * 3, none⟩)))) ∧
((((0 + hut * 3 + 3 ≤ (huL m u).length)) ∧ (((.agg ⟨[(I ((u hut).fl)), (I ((u hut).br)), (I ((↑(u hut).row : Int)))]⟩) : Value) = (.agg ⟨(List.take 3 (List.drop (0 + hut * 3) (huL m u)))⟩))) ∧
((ConNOK Tryd.prog 13 (C13q rw st n q cw cv m cu q q (u hut).fl (u hut).br (↑(u hut).row : Int) (ints q (wyW w v k)) (ints q (wyV w v k)) (ints q (wyR st (u hut) w v k)) (boolsL q (wyF st (u hut) w v k)))) ∧ (ConN.pre (C13q rw st n q cw cv m cu q q (u hut).fl (u hut).br (↑(u hut).row : Int) (ints q (wyW w v k)) (ints q (wyV w v k)) (ints q (wyR st (u hut) w v k)) (boolsL q (wyF st (u hut) w v k))) ⟨⟨[(I rw), (I st), (I ((u hut).fl)), (I ((u hut).br)), (I ((↑(u hut).row : Int)))], [⟨n, cw⟩, ⟨n, cv⟩, ⟨m, cu⟩, ⟨q, q⟩, ⟨q, q⟩]⟩, [(ints q (wyW w v k)), (ints q (wyV w v k))]⟩) ∧
((ClW ⟨⟨[(I q), (I hut), (I yes), (I no), (I ways), (I k), (I q), (I 0), (I rw), (I st)], [⟨q, q⟩, ⟨q, q⟩, ⟨n, cw⟩, ⟨n, cv⟩, ⟨m, cu⟩]⟩, [(tb), (spL n w), (spL n v), (huL m u), [(I (ra (0 : Nat))), (I (ra (1 : Nat))), (I (ra (2 : Nat)))], [(.bool (lo (0 : Nat))), (.bool (lo (1 : Nat))), (.bool (lo (2 : Nat)))], (ints q (wyR st (u hut) w v k)), (boolsL q (wyF st (u hut) w v k))], []⟩) ∧ (LoopOW Tryd.prog .none p5r (T5r) ⟨⟨[(I q), (I hut), (I yes), (I no), (I ways), (I k), (I q), (I 0), (I rw), (I st)], [⟨q, q⟩, ⟨q, q⟩, ⟨n, cw⟩, ⟨n, cv⟩, ⟨m, cu⟩]⟩, [(tb), (spL n w), (spL n v), (huL m u), [(I (ra (0 : Nat))), (I (ra (1 : Nat))), (I (ra (2 : Nat)))], [(.bool (lo (0 : Nat))), (.bool (lo (1 : Nat))), (.bool (lo (2 : Nat)))], (ints q (wyR st (u hut) w v k)), (boolsL q (wyF st (u hut) w v k))], []⟩ (.exit 6) (T5r) ⟨⟨[(I q), (I hut), (I yes2), (I no2), (I ways), (I k), (I q), (I q), (I rw), (I st)], [⟨q, q⟩, ⟨q, q⟩, ⟨n, cw⟩, ⟨n, cv⟩, ⟨m, cu⟩]⟩, [(tb), (spL n w), (spL n v), (huL m u), [(I (ra2 (0 : Nat))), (I (ra2 (1 : Nat))), (I (ra2 (2 : Nat)))], [(.bool (lo2 (0 : Nat))), (.bool (lo2 (1 : Nat))), (.bool (lo2 (2 : Nat)))], (ints q (wyR st (u hut) w v k)), (boolsL q (wyF st (u hut) w v k))], []⟩) ∧
R 0 .normal ⟨⟨[(I q), (I hut), (I yes2), (I no2), (I ways), (I (IntKind.i64.wrap ((k : Int) + (1 : Int)))), (I rw), (I st)], [⟨n, cw⟩, ⟨n, cv⟩, ⟨m, cu⟩]⟩, [(tb), (spL n w), (spL n v), (huL m u), [(I (ra2 (0 : Nat))), (I (ra2 (1 : Nat))), (I (ra2 (2 : Nat)))], [(.bool (lo2 (0 : Nat))), (.bool (lo2 (1 : Nat))), (.bool (lo2 (2 : Nat)))]], []⟩))))))) := by kernel_rfl
theorem b5wx (rw : Nat) (st : Int) (n cw cv m cu q hut k : Nat) (w v : Nat → Sp) (u : Nat → Hut) (ra : Nat → Int) (lo : Nat → Bool) (tb : List Value) (yes no ways : Int) (R : Nat → AExit → Hw → Prop) : (vx.code none (.l p5w) (leafW [T5w] R) (T5w.inst (h5w rw st n cw cv m cu q hut tb (spL n w) (spL n v) (huL m u) (ints 3 ra) (boolsL 3 lo) yes no ways k)) ((0, .val (.bool false)) :: [(1, .tm 0 [])])) =
(((((some (.bool (decide ((k : Int) < ways))) : Option Value) = some (.bool false))) ∧
R 0 (.exit 2) ⟨⟨[(I q), (I hut), (I yes), (I no), (I ways), (I k), (I rw), (I st)], [⟨n, cw⟩, ⟨n, cv⟩, ⟨m, cu⟩]⟩, [(tb), (spL n w), (spL n v), (huL m u), [(I (ra (0 : Nat))), (I (ra (1 : Nat))), (I (ra (2 : Nat)))], [(.bool (lo (0 : Nat))), (.bool (lo (1 : Nat))), (.bool (lo (2 : Nat)))]], []⟩)) := by kernel_rfl
theorem ints_congr {n : Nat} {g g' : Nat → Int} (h : ∀ i, i < n → g i = g' i) : ints n g = ints n g' := flatC_congr fun i hi => by rw [h i hi]
theorem bools_congr {n : Nat} {g g' : Nat → Bool} (h : ∀ i, i < n → g i = g' i) : boolsL n g = boolsL n g' := flatC_congr fun i hi => by rw [h i hi]
theorem bools_put {n i : Nat} (o : Nat → Bool) (v : Bool) (hi : i < n) : (boolsL n o).take (0 + i * 1) ++ [.bool v] ++ (boolsL n o).drop (0 + i * 1 + 1) = boolsL n fun x => if x = i then v else o x := by
 have h := flatC_set (n := n) (k := 1) (g := fun i => [Value.bool (o i)]) (fun _ _ => rfl) hi (v := [.bool v]) rfl
 rw [Nat.zero_add]
 refine (show _ = _ from h).trans ?_
 refine flatC_congr fun x _ => ?_
 by_cases h : x = i
 · simp only [if_pos h]
 · simp only [if_neg h]
section
variable {rw : Nat} {st : Int} {n cw cv m cu q hut k : Nat} {w v : Nat → Sp} {u : Nat → Hut} {ra : Nat → Int} {lo : Nat → Bool} {yes no ways : Int}
theorem wrap_nat {a : Nat} (h : a < 4096) : IntKind.i64.wrap ((a : Nat) : Int) = (a : Int) := wrapI (by omega) (by omega)
theorem wyl_le (k i : Nat) : wyl w v k i ≤ k := by
 induction i with
 | zero => exact Nat.le_refl _
 | succ i ih => exact Nat.le_trans (Nat.div_le_self _ _) (Nat.le_trans (Nat.div_le_self _ _) ih)
noncomputable def st5h (rw st : Int) (n cw cv m cu q hut k : Nat) (w v : Nat → Sp) (u : Nat → Hut) (ra : Nat → Int) (lo : Nat → Bool) (yes no ways : Int) : Nat → Nat × Hw
 | 0 => (0, h5ha rw st n cw cv m cu q hut k k tabC (spL n w) (spL n v) (huL m u) (ints 3 ra) (boolsL 3 lo) yes no ways 0)
 | i + 1 => (1, h5hb rw st n cw cv m cu q hut k (wyl w v k (i + 1)) tabC (spL n w) (spL n v) (huL m u) (ints 3 ra) (boolsL 3 lo) (ints (i + 1) (wyW w v k)) (ints (i + 1) (wyV w v k)) yes no ways (i + 1))
theorem cl5h (i : Nat) : ClW (st5h rw st n cw cv m cu q hut k w v u ra lo yes no ways i).2 := by
 cases i with
 | zero =>
  refine ⟨fun cs hc => ?_, fun es hc => (by cases hc)⟩
  simp only [st5h, h5ha, List.mem_cons, List.not_mem_nil, or_false] at hc
  rcases hc with rfl | rfl | rfl | rfl | rfl | rfl
  · exact tabC_at
  · exact spL_at _ _
  · exact spL_at _ _
  · exact huL_at _ _
  · exact ints_at _ _
  · exact boolsL_at _ _
 | succ i =>
  refine ⟨fun cs hc => ?_, fun es hc => (by cases hc)⟩
  simp only [st5h, h5hb, List.mem_cons, List.not_mem_nil, or_false] at hc
  rcases hc with rfl | rfl | rfl | rfl | rfl | rfl | rfl | rfl
  · exact tabC_at
  · exact spL_at _ _
  · exact spL_at _ _
  · exact huL_at _ _
  · exact ints_at _ _
  · exact boolsL_at _ _
  · exact ints_at _ _
  · exact ints_at _ _
theorem loop5h (hS : SOK rw st n w v) (hn : q ≤ n) (h3 : q ≤ 3) (h0 : 0 < q) (hk : k < 4096) :
    LoopOW Tryd.prog none p5h T5ha (h5ha rw st n cw cv m cu q hut k k tabC (spL n w) (spL n v) (huL m u) (ints 3 ra) (boolsL 3 lo) yes no ways 0) (.exit 4) T5hb
    (h5hb rw st n cw cv m cu q hut k (wyl w v k q) tabC (spL n w) (spL n v) (huL m u) (ints 3 ra) (boolsL 3 lo) (ints q (wyW w v k)) (ints q (wyV w v k)) yes no ways q) := by
 have h8 := hS.n8
 have hst : st5h rw st n cw cv m cu q hut k w v u ra lo yes no ways q = (1, h5hb rw st n cw cv m cu q hut k (wyl w v k q) tabC (spL n w) (spL n v) (huL m u) (ints 3 ra) (boolsL 3 lo) (ints q (wyW w v k)) (ints q (wyV w v k)) yes no ways q) := by
  obtain ⟨j, rfl⟩ : ∃ j, q = j + 1 := ⟨q - 1, by omega⟩
  rfl
 have main := loop_forW (P := Tryd.prog) (ro := none) (p := p5h) (Ts := [T5ha, T5hb]) (k := 10) (n := q) (e := .exit 4) (st := st5h rw st n cw cv m cu q hut k w v u ra lo yes no ways) rfl vx_sound (by
  intro T hT
  simp only [List.mem_cons, List.not_mem_nil, or_false] at hT
  rcases hT with rfl | rfl <;> rfl) (by rw [nglob]; omega) ⟨by simp, trivial⟩ (fun i _ => cl5h i) (fun i hi R hR => by
  have hin : i < n := by omega
  obtain ⟨w0, w1, w2, w3⟩ := hS.w i hin
  obtain ⟨v0, v1, v2, v3⟩ := hS.v i hin
  obtain ⟨⟨p1, p4⟩, r1, r4⟩ := wdN_le hS hin
  have hw : IntKind.i64.wrap ((i : Int) + 1) = ((i + 1 : Nat) : Int) := wrapI (by omega) (by omega)
  have pw := spL_part w hin
  have pv := spL_part v hin
  have lw := spL_len n w
  have lv := spL_len n v
  have hle := wyl_le (w := w) (v := v) k i
  have hd1 : wyl w v k i / wdN (w i) ≤ wyl w v k i := Nat.div_le_self _ _
  have hd2 : wyl w v k i / wdN (w i) / wdN (v i) ≤ wyl w v k i / wdN (w i) := Nat.div_le_self _ _
  have m1 := Nat.mod_lt (wyl w v k i) (show 0 < wdN (w i) by omega)
  have m2 := Nat.mod_lt (wyl w v k i / wdN (w i)) (show 0 < wdN (v i) by omega)
  have t1 : IntKind.i64.wrap (((wyl w v k i : Nat) : Int).tdiv ((wdN (w i) : Nat) : Int)) = ((wyl w v k i / wdN (w i) : Nat) : Int) := by
   rw [show ((wyl w v k i : Nat) : Int).tdiv ((wdN (w i) : Nat) : Int) = ((wyl w v k i / wdN (w i) : Nat) : Int) from rfl]; exact wrap_nat (Nat.lt_of_le_of_lt hd1 (by omega))
  have t2 : IntKind.i64.wrap (((wyl w v k i / wdN (w i) : Nat) : Int).tdiv ((wdN (v i) : Nat) : Int)) = ((wyl w v k (i + 1) : Nat) : Int) := by
   rw [show ((wyl w v k i / wdN (w i) : Nat) : Int).tdiv ((wdN (v i) : Nat) : Int) = ((wyl w v k i / wdN (w i) / wdN (v i) : Nat) : Int) from rfl]; exact wrap_nat (Nat.lt_of_le_of_lt (Nat.le_trans hd2 hd1) (by omega))
  have f1 : IntKind.i64.wrap ((w i).lo + ((wyl w v k i % wdN (w i) : Nat) : Int)) = wyW w v k i := wrapI (by omega) (by omega)
  have f2 : IntKind.i64.wrap ((v i).lo + ((wyl w v k i / wdN (w i) % wdN (v i) : Nat) : Int)) = wyV w v k i := wrapI (by omega) (by omega)
  have q1 : ((0 : Int) ≤ (i : Int) ∧ (i : Int) < (n : Int)) ∧ ((.pointer (some ⟨2, 0 + i * 2, none⟩) : Value) = .pointer (some ⟨2, 0 + i * 2, none⟩)) := ⟨⟨by omega, by omega⟩, rfl⟩
  have q2 : ((0 : Int) ≤ (i : Int) ∧ (i : Int) < (n : Int)) ∧ ((.pointer (some ⟨3, 0 + i * 2, none⟩) : Value) = .pointer (some ⟨3, 0 + i * 2, none⟩)) := ⟨⟨by omega, by omega⟩, rfl⟩
  have z1 : (0 + i * 2 + 2 ≤ (spL n w).length) ∧ ((.agg ⟨[I (w i).lo, I (w i).hi]⟩ : Value) = .agg ⟨List.take 2 (List.drop (0 + i * 2) (spL n w))⟩) := ⟨by rw [lw]; omega, by rw [pw]; rfl⟩
  have z2 : (0 + i * 2 + 2 ≤ (spL n v).length) ∧ ((.agg ⟨[I (v i).lo, I (v i).hi]⟩ : Value) = .agg ⟨List.take 2 (List.drop (0 + i * 2) (spL n v))⟩) := ⟨by rw [lv]; omega, by rw [pv]; rfl⟩
  have y1 : (((wdN (w i) : Nat) : Int) ≠ 0 ∧ IntKind.i64 = IntKind.i64) := ⟨by omega, rfl⟩
  have y2 : (((wdN (v i) : Nat) : Int) ≠ 0 ∧ IntKind.i64 = IntKind.i64) := ⟨by omega, rfl⟩
  have sw : ints (i + 1) (wyW w v k) = ints i (wyW w v k) ++ [I (wyW w v k i)] := flatC_succ
  have sv : ints (i + 1) (wyV w v k) = ints i (wyV w v k) ++ [I (wyV w v k i)] := flatC_succ
  cases i with
  | zero =>
   refine ⟨T5ha, _, rfl, (b5ha rw st n cw cv m cu q hut k (wyl w v k 0) 0 w v u ra lo tabC yes no ways (wyl w v k 0 % wdN (w 0)) (wyl w v k 0 / wdN (w 0) % wdN (v 0)) 0 0 R).mpr ?_⟩
   rw [wd_wrap w0 w1 w2, wd_wrap v0 v1 (by omega), t1, t2, f1, f2, hw]
   exact ⟨tt (decide_eq_true (by omega)), q1, z1, q2, z2, ⟨z2, rfl, trivial⟩, ⟨y1, rfl⟩, ⟨y1, rfl⟩, ⟨rfl, rfl, trivial⟩, ⟨y2, rfl⟩, ⟨y2, rfl⟩, ⟨rfl, rfl, trivial⟩, hR⟩
  | succ i =>
   have hR : R 1 .normal (h5hb rw st n cw cv m cu q hut k (wyl w v k (i + 1 + 1)) tabC (spL n w) (spL n v) (huL m u) (ints 3 ra) (boolsL 3 lo) (ints (i + 1 + 1) (wyW w v k)) (ints (i + 1 + 1) (wyV w v k)) yes no ways (i + 1 + 1)) := hR
   rw [sw, sv] at hR
   have g1 : (¬ i + 1 + 1 ≤ i + 1) ∧ (i + 1) * 1 = (ints (i + 1) (wyW w v k)).length ∧ (i + 1 + 1) * 8 ≤ 140737488355328 ∧ i + 1 + 1 ≤ 4611686018427387904 := ⟨by omega, by rw [ints_len], by omega, by omega⟩
   have g2 : (¬ i + 1 + 1 ≤ i + 1) ∧ (i + 1) * 1 = (ints (i + 1) (wyV w v k)).length ∧ (i + 1 + 1) * 8 ≤ 140737488355328 ∧ i + 1 + 1 ≤ 4611686018427387904 := ⟨by omega, by rw [ints_len], by omega, by omega⟩
   refine ⟨T5hb, _, rfl, (b5hb rw st n cw cv m cu q hut k (wyl w v k (i + 1)) (i + 1) w v u ra lo tabC yes no ways (wyl w v k (i + 1) % wdN (w (i + 1))) (wyl w v k (i + 1) / wdN (w (i + 1)) % wdN (v (i + 1))) 0 0 k R).mpr ?_⟩
   rw [wd_wrap w0 w1 w2, wd_wrap v0 v1 (by omega), t1, t2, f1, f2, hw, take_ints, take_ints]
   exact ⟨tt (decide_eq_true (by omega)), q1, z1, q2, z2, ⟨z2, rfl, trivial⟩, ⟨y1, rfl⟩, ⟨y1, rfl⟩, g1, ⟨rfl, rfl, trivial⟩, ⟨y2, rfl⟩, ⟨y2, rfl⟩, g2, ⟨rfl, rfl, trivial⟩, hR⟩) (fun R hR => by
  rw [hst] at hR ⊢
  exact ⟨T5hb, _, rfl, (b5hx rw st n cw cv m cu q hut k (wyl w v k q) q w v u ra lo tabC yes no ways (ints q (wyW w v k)) (ints q (wyV w v k)) R).mpr ⟨tf (decide_eq_false (by omega)), hR⟩⟩) (T0 := T5ha) (T1 := T5hb) rfl (Nat.le_of_ble_eq_true rfl) (by decide) (by rw [hst]; rfl)
 rw [hst] at main
 exact main
theorem cl5r {a : List Value} {b : List (Nat × Nat)} {ra : Nat → Int} {lo : Nat → Bool} {ro : Nat → Int} {fo : Nat → Bool} : ClW ⟨⟨a, b⟩, [tabC, spL n w, spL n v, huL m u, ints 3 ra, boolsL 3 lo, ints q ro, boolsL q fo], []⟩ := by
 refine ⟨fun cs hc => ?_, fun e hc => (by cases hc)⟩
 simp only [List.mem_cons, List.not_mem_nil, or_false] at hc
 rcases hc with rfl | rfl | rfl | rfl | rfl | rfl | rfl | rfl
 · exact tabC_at
 · exact spL_at _ _
 · exact spL_at _ _
 · exact huL_at _ _
 · exact ints_at _ _
 · exact boolsL_at _ _
 · exact ints_at _ _
 · exact boolsL_at _ _
theorem cl5w {a : List Value} {b : List (Nat × Nat)} {ra : Nat → Int} {lo : Nat → Bool} : ClW ⟨⟨a, b⟩, [tabC, spL n w, spL n v, huL m u, ints 3 ra, boolsL 3 lo], []⟩ := by
 refine ⟨fun cs hc => ?_, fun e hc => (by cases hc)⟩
 simp only [List.mem_cons, List.not_mem_nil, or_false] at hc
 rcases hc with rfl | rfl | rfl | rfl | rfl | rfl
 · exact tabC_at
 · exact spL_at _ _
 · exact spL_at _ _
 · exact huL_at _ _
 · exact ints_at _ _
 · exact boolsL_at _ _
noncomputable def s5r (rw : Nat) (st : Int) (n cw cv m cu q hut k : Nat) (w v : Nat → Sp) (u : Nat → Hut) (ways : Int) (i : Nat) : Hw :=
 h5r rw st n cw cv m cu q hut k tabC (spL n w) (spL n v) (huL m u) (ints 3 fun h => (raF st (u hut) w v q k i h : Nat)) (boolsL 3 (loF st (u hut) w v q k i)) (wyR st (u hut) w v k) (wyF st (u hut) w v k) (ysF st (u hut) w v q k i : Nat) (nsF st (u hut) w v q k i : Nat) ways i
theorem loop5r (hS : SOK rw st n w v) (hr6 : (u hut).row < 6) (hn : q ≤ n) (h3 : q ≤ 3) :
    LoopOW Tryd.prog none p5r T5r (s5r rw st n cw cv m cu q hut k w v u ways 0) (.exit 6) T5r (s5r rw st n cw cv m cu q hut k w v u ways q) := by
 have h8 := hS.n8
 refine loop_forW (Ts := [T5r]) (k := 14) (n := q) (e := .exit 6) (st := fun i => (0, s5r rw st n cw cv m cu q hut k w v u ways i)) rfl vx_sound ?_ (by rw [nglob]; omega) ⟨by simp, trivial⟩ (fun i _ => cl5r) (fun i hi R hR => ?_) (fun R hR => ?_) rfl (Nat.le_of_ble_eq_true rfl) (by decide) rfl
 · intro T hT; simp only [List.mem_singleton] at hT; subst hT; rfl
 · have hw : IntKind.i64.wrap ((i : Int) + 1) = ((i + 1 : Nat) : Int) := wrapI (by omega) (by omega)
   have hTr := wy_true (w := w) (v := v) (n := n) (fun j hj => ⟨(hS.w j hj).2.1, (hS.v j hj).2.1⟩) k
   obtain ⟨_, c2, c3⟩ := course_true (rw := 0) (st := st) (fl := (u hut).fl) (br := (u hut).br) hr6 hTr (i + 1) (by omega)
   have c2 : -1 ≤ wyR st (u hut) w v k i := c2
   have c3 : wyR st (u hut) w v k i ≤ (u hut).row := c3
   have hy := or_one (a := ysF st (u hut) w v q k i) (j := i) (by have := ysF_lt (st := st) (x := u hut) (w := w) (v := v) (hs := q) (K := k) (i := i); omega) (by omega)
   have hz := or_one (a := nsF st (u hut) w v q k i) (j := i) (by have := nsF_lt (st := st) (x := u hut) (w := w) (v := v) (hs := q) (K := k) (i := i); omega) (by omega)
   have hR : R 0 .normal (h5r rw st n cw cv m cu q hut k tabC (spL n w) (spL n v) (huL m u) (ints 3 fun h => (raF st (u hut) w v q k (i + 1) h : Nat)) (boolsL 3 (loF st (u hut) w v q k (i + 1))) (wyR st (u hut) w v k) (wyF st (u hut) w v k) (ysF st (u hut) w v q k (i + 1) : Nat) (nsF st (u hut) w v q k (i + 1) : Nat) ways (i + 1)) := hR
   have hro := ints_get (n := q) (wyR st (u hut) w v k) hi
   have hfo := boolsL_get2 (wyF st (u hut) w v k) hi
   have hra := ints_get (n := 3) (fun h => (raF st (u hut) w v q k i h : Nat)) (i := i) (by omega)
   have i3 : ((0 : Int) ≤ (i : Int) ∧ (i : Int) < ((3 : Nat) : Int)) := ⟨by omega, by omega⟩
   rw [ysF_step hi h3, nsF_step hi h3] at hR
   unfold s5r
   by_cases hneg : wyR st (u hut) w v k i < 0
   · have e1 : (ints 3 fun h => ((raF st (u hut) w v q k (i + 1) h : Nat) : Int)) = ints 3 fun h => ((raF st (u hut) w v q k i h : Nat) : Int) := ints_congr fun j hj => by
      show ((raF st (u hut) w v q k (i + 1) j : Nat) : Int) = _
      rw [raF_step hi]
      by_cases e : j = i
      · subst e; rw [if_pos rfl, if_neg (by omega)]
      · rw [if_neg e]
     have e2 : (boolsL 3 (loF st (u hut) w v q k i)).take (0 + i * 1) ++ [.bool true] ++ (boolsL 3 (loF st (u hut) w v q k i)).drop (0 + i * 1 + 1) = boolsL 3 (loF st (u hut) w v q k (i + 1)) := by
      rw [bools_put _ _ (show i < 3 by omega)]
      refine bools_congr fun j hj => ?_
      rw [loF_step hi]
      by_cases e : j = i
      · subst e; rw [if_pos rfl, if_pos rfl, decide_eq_true hneg, Bool.or_true]
      · rw [if_neg e, if_neg e]
     rw [e1] at hR
     cases hf : wyF st (u hut) w v k i with
     | true =>
      rw [hf, if_pos rfl, if_pos rfl, ← hy] at hR
      unfold h5r at hR
      rw [← hw] at hR
      rw [hf] at hfo
      exact ⟨T5r, _, rfl, (b5rnt rw st n cw cv m cu q hut k i w v u (fun h => (raF st (u hut) w v q k i h : Nat)) (fun _ => 0) (wyR st (u hut) w v k) (loF st (u hut) w v q k i) (loF st (u hut) w v q k (i + 1)) (wyF st (u hut) w v k) tabC (ysF st (u hut) w v q k i : Nat) (nsF st (u hut) w v q k i : Nat) ways R).mpr ⟨tt (decide_eq_true (by omega)), ⟨⟨by omega, by omega⟩, rfl⟩, hro, tt (decide_eq_true hneg), ⟨i3, rfl⟩, ⟨by omega, e2⟩, ⟨⟨by omega, by omega⟩, rfl⟩, hfo, ⟨⟨by omega, by omega⟩, rfl⟩, hR⟩⟩
     | false =>
      rw [hf, if_neg (by simp), if_neg (by simp), ← hz] at hR
      unfold h5r at hR
      rw [← hw] at hR
      rw [hf] at hfo
      exact ⟨T5r, _, rfl, (b5rnf rw st n cw cv m cu q hut k i w v u (fun h => (raF st (u hut) w v q k i h : Nat)) (fun _ => 0) (wyR st (u hut) w v k) (loF st (u hut) w v q k i) (loF st (u hut) w v q k (i + 1)) (wyF st (u hut) w v k) tabC (ysF st (u hut) w v q k i : Nat) (nsF st (u hut) w v q k i : Nat) ways R).mpr ⟨tt (decide_eq_true (by omega)), ⟨⟨by omega, by omega⟩, rfl⟩, hro, tt (decide_eq_true hneg), ⟨i3, rfl⟩, ⟨by omega, e2⟩, ⟨⟨by omega, by omega⟩, rfl⟩, hfo, ⟨⟨by omega, by omega⟩, rfl⟩, hR⟩⟩
   · have hq6 : (wyR st (u hut) w v k i).toNat < 8 := by omega
     have hor := or_one (a := raF st (u hut) w v q k i i) (j := (wyR st (u hut) w v k i).toNat) (by have := raF_lt (st := st) (x := u hut) (w := w) (v := v) (hs := q) (K := k) (i := i) i; omega) hq6
     have e1 : (boolsL 3 (loF st (u hut) w v q k (i + 1))) = boolsL 3 (loF st (u hut) w v q k i) := bools_congr fun j hj => by
      rw [loF_step hi]
      by_cases e : j = i
      · subst e; rw [if_pos rfl, decide_eq_false hneg, Bool.or_false]
      · rw [if_neg e]
     have e2 : (ints 3 fun h => ((raF st (u hut) w v q k i h : Nat) : Int)).take (0 + i * 1) ++ [I (bits BinOp.or IntKind.i64 ((raF st (u hut) w v q k i i : Nat) : Int) (IntKind.i64.wrap ((1 : Int) * (2 : Int) ^ (wyR st (u hut) w v k i).toNat)))] ++ (ints 3 fun h => ((raF st (u hut) w v q k i h : Nat) : Int)).drop (0 + i * 1 + 1) = ints 3 fun h => ((raF st (u hut) w v q k (i + 1) h : Nat) : Int) := by
      rw [hor, ints_put _ _ (show i < 3 by omega)]
      refine ints_congr fun j hj => ?_
      rw [raF_step hi]
      by_cases e : j = i
      · subst e; rw [if_pos rfl, if_pos rfl, if_pos ⟨by omega, by omega⟩]
      · rw [if_neg e, if_neg e]
     rw [e1] at hR
     cases hf : wyF st (u hut) w v k i with
     | true =>
      rw [hf, if_pos rfl, if_pos rfl, ← hy] at hR
      unfold h5r at hR
      rw [← hw] at hR
      rw [hf] at hfo
      exact ⟨T5r, _, rfl, (b5rpt rw st n cw cv m cu q hut k i w v u (fun h => (raF st (u hut) w v q k i h : Nat)) (fun h => (raF st (u hut) w v q k (i + 1) h : Nat)) (wyR st (u hut) w v k) (loF st (u hut) w v q k i) (fun _ => false) (wyF st (u hut) w v k) tabC (ysF st (u hut) w v q k i : Nat) (nsF st (u hut) w v q k i : Nat) ways R).mpr ⟨tt (decide_eq_true (by omega)), ⟨⟨by omega, by omega⟩, rfl⟩, hro, tf (decide_eq_false hneg), ⟨i3, rfl⟩, hra, ⟨⟨by omega, by omega⟩, rfl⟩, ⟨i3, rfl⟩, ⟨by omega, e2⟩, ⟨⟨by omega, by omega⟩, rfl⟩, hfo, ⟨⟨by omega, by omega⟩, rfl⟩, hR⟩⟩
     | false =>
      rw [hf, if_neg (by simp), if_neg (by simp), ← hz] at hR
      unfold h5r at hR
      rw [← hw] at hR
      rw [hf] at hfo
      exact ⟨T5r, _, rfl, (b5rpf rw st n cw cv m cu q hut k i w v u (fun h => (raF st (u hut) w v q k i h : Nat)) (fun h => (raF st (u hut) w v q k (i + 1) h : Nat)) (wyR st (u hut) w v k) (loF st (u hut) w v q k i) (fun _ => false) (wyF st (u hut) w v k) tabC (ysF st (u hut) w v q k i : Nat) (nsF st (u hut) w v q k i : Nat) ways R).mpr ⟨tt (decide_eq_true (by omega)), ⟨⟨by omega, by omega⟩, rfl⟩, hro, tf (decide_eq_false hneg), ⟨i3, rfl⟩, hra, ⟨⟨by omega, by omega⟩, rfl⟩, ⟨i3, rfl⟩, ⟨by omega, e2⟩, ⟨⟨by omega, by omega⟩, rfl⟩, hfo, ⟨⟨by omega, by omega⟩, rfl⟩, hR⟩⟩
 · exact ⟨T5r, _, rfl, (b5rx rw st n cw cv m cu q hut k q w v u (fun h => (raF st (u hut) w v q k q h : Nat)) (fun _ => 0) (wyR st (u hut) w v k) (loF st (u hut) w v q k q) (fun _ => false) (wyF st (u hut) w v k) tabC (ysF st (u hut) w v q k q : Nat) (nsF st (u hut) w v q k q : Nat) ways R).mpr ⟨tf (decide_eq_false (by omega)), hR⟩⟩
end
end Go.Ab
