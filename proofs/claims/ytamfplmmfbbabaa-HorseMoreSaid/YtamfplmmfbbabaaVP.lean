/- the law HorseMore: its loops. -/
import Derived.Test.YtamfplmmfbbabaaVO
import Derived.Test.YtamfplmmfbbabaaVN
import Derived.Test.YtamfplmmfbbabaaVK
set_option maxRecDepth 100000
namespace Go.Ab
open Go Go.RowKit Go.Proofs
theorem b9a (p wh nu : Int) (n c k d a i : Nat) (f : Nat → Mv) (bl ms2 : List Value) (R : Nat → AExit → Hw → Prop) : (vx.code none (.l p9a) (leafW [T9a, T9b] R) (T9a.inst (h9a p wh nu n c k d a (mvs n f) bl ms2 i)) ([(0, .split ((1, .val (.pointer (.some ⟨((0 : Nat)), ((0 : Nat) + i * (4 : Nat)), .none⟩))) :: (0, .val (.agg ⟨[(.int .i64 ((f i).at_)), (.int .i64 ((f i).place)), (.int .i64 ((f i).lo)), (.int .i64 ((f i).hi))]⟩)) :: [(17, Hint.tm (1 : Nat) [((11 : Nat), (13 : Nat))])]) ([(1, .tm 0 [])]))])) =
((((decide ((↑i : Int) < (↑n : Int))) = true → ((((((0 : Int) ≤ (↑i : Int))) ∧ (((↑i : Int) < (↑n : Int)))) ∧ (((.pointer (.some ⟨((0 : Nat)), ((0 : Nat) + i * (4 : Nat)), .none⟩)) : Value) = (.pointer (.some ⟨((0 : Nat)), ((0 : Nat) + i * (4 : Nat)), .none⟩)))) ∧
(((((0 : Nat) + i * (4 : Nat) + (4 : Nat) ≤ (mvs n f).length)) ∧ (((.agg ⟨[(.int .i64 ((f i).at_)), (.int .i64 ((f i).place)), (.int .i64 ((f i).lo)), (.int .i64 ((f i).hi))]⟩) : Value) = (.agg ⟨(List.take ((4 : Nat)) (List.drop ((0 : Nat) + i * (4 : Nat)) (mvs n f)))⟩))) ∧
R 1 .normal ⟨⟨[(.int .u8 (wh)), (.int .u8 (nu)), (.int .i64 a), (.int .i64 n), (.int .i64 (IntKind.i64.wrap ((↑i : Int) + (1 : Int)))), (.int .i64 p), (.int .i64 p), (.int .i64 p)], [⟨k, d⟩, ⟨n, c⟩, ⟨n, c⟩, ⟨((1 : Nat)), ((1 : Nat))⟩, ⟨n, n⟩]⟩, [(mvs n f), (bl), (ms2), [(.int .i64 ((f i).at_)), (.int .i64 ((f i).place)), (.int .i64 ((f i).hi)), (.int .i64 ((f i).hi))]], []⟩))) ∧
((decide ((↑i : Int) < (↑n : Int))) = false → R 0 (.exit ((0 : Nat))) ⟨⟨[(.int .u8 (wh)), (.int .u8 (nu)), (.int .i64 a), (.int .i64 n), (.int .i64 i), (.int .i64 p), (.int .i64 p), (.int .i64 p)], [⟨k, d⟩, ⟨n, c⟩, ⟨n, c⟩, ⟨n, n⟩]⟩, [(mvs n f), (bl), (ms2)], []⟩))) := by kernel_rfl
theorem b9b (p wh nu : Int) (n c k d a i : Nat) (f : Nat → Mv) (bl ms2 ls : List Value) (R : Nat → AExit → Hw → Prop) : (vx.code none (.l p9a) (leafW [T9a, T9b] R) (T9b.inst (h9b p wh nu n c k d a (mvs n f) bl ms2 i ls)) ([(0, .split ((1, .val (.pointer (.some ⟨((0 : Nat)), ((0 : Nat) + i * (4 : Nat)), .none⟩))) :: (0, .val (.agg ⟨[(.int .i64 ((f i).at_)), (.int .i64 ((f i).place)), (.int .i64 ((f i).lo)), (.int .i64 ((f i).hi))]⟩)) :: (12, Hint.grow) :: [(4, Hint.tm (1 : Nat) [((11 : Nat), (14 : Nat))])]) ([(1, Hint.tm (1 : Nat) [((11 : Nat), (11 : Nat))])]))])) =
((((decide ((↑i : Int) < (↑n : Int))) = true → ((((((0 : Int) ≤ (↑i : Int))) ∧ (((↑i : Int) < (↑n : Int)))) ∧ (((.pointer (.some ⟨((0 : Nat)), ((0 : Nat) + i * (4 : Nat)), .none⟩)) : Value) = (.pointer (.some ⟨((0 : Nat)), ((0 : Nat) + i * (4 : Nat)), .none⟩)))) ∧
(((((0 : Nat) + i * (4 : Nat) + (4 : Nat) ≤ (mvs n f).length)) ∧ (((.agg ⟨[(.int .i64 ((f i).at_)), (.int .i64 ((f i).place)), (.int .i64 ((f i).lo)), (.int .i64 ((f i).hi))]⟩) : Value) = (.agg ⟨(List.take ((4 : Nat)) (List.drop ((0 : Nat) + i * (4 : Nat)) (mvs n f)))⟩))) ∧
((((¬i + (1 : Nat) ≤ i)) ∧ (((i * (4 : Nat) = ls.length)) ∧ ((((i + (1 : Nat)) * (32 : Nat) ≤ (140737488355328 : Nat))) ∧ ((i + (1 : Nat) ≤ (4611686018427387904 : Nat)))))) ∧
R 1 .normal ⟨⟨[(.int .u8 (wh)), (.int .u8 (nu)), (.int .i64 a), (.int .i64 n), (.int .i64 (IntKind.i64.wrap ((↑i : Int) + (1 : Int)))), (.int .i64 p), (.int .i64 p), (.int .i64 p)], [⟨k, d⟩, ⟨n, c⟩, ⟨n, c⟩, ⟨(i + (1 : Nat)), (i + (1 : Nat))⟩, ⟨n, n⟩]⟩, [(mvs n f), (bl), (ms2), ((List.take (i * (4 : Nat)) (ls)) ++ [(.int .i64 ((f i).at_)), (.int .i64 ((f i).place)), (.int .i64 ((f i).hi)), (.int .i64 ((f i).hi))])], []⟩)))) ∧
((decide ((↑i : Int) < (↑n : Int))) = false → R 1 (.exit ((0 : Nat))) ⟨⟨[(.int .u8 (wh)), (.int .u8 (nu)), (.int .i64 a), (.int .i64 n), (.int .i64 i), (.int .i64 p), (.int .i64 p), (.int .i64 p)], [⟨k, d⟩, ⟨n, c⟩, ⟨n, c⟩, ⟨i, i⟩, ⟨n, n⟩]⟩, [(mvs n f), (bl), (ms2), (ls)], []⟩))) := by kernel_rfl
theorem b9az (p wh nu : Int) (n c a i : Nat) (f : Nat → Mv) (ms2 : List Value) (R : Nat → AExit → Hw → Prop) : (vx.code none (.l p9a) (leafW [T9az, T9bz] R) (T9az.inst (h9az p wh nu n c a (mvs n f) ms2 i)) ([(0, .split ((1, .val (.pointer (.some ⟨((0 : Nat)), ((0 : Nat) + i * (4 : Nat)), .none⟩))) :: (0, .val (.agg ⟨[(.int .i64 ((f i).at_)), (.int .i64 ((f i).place)), (.int .i64 ((f i).lo)), (.int .i64 ((f i).hi))]⟩)) :: [(17, Hint.tm (1 : Nat) [((11 : Nat), (13 : Nat))])]) ([(1, .tm 0 [])]))])) =
((((decide ((↑i : Int) < (↑n : Int))) = true → ((((((0 : Int) ≤ (↑i : Int))) ∧ (((↑i : Int) < (↑n : Int)))) ∧ (((.pointer (.some ⟨((0 : Nat)), ((0 : Nat) + i * (4 : Nat)), .none⟩)) : Value) = (.pointer (.some ⟨((0 : Nat)), ((0 : Nat) + i * (4 : Nat)), .none⟩)))) ∧
(((((0 : Nat) + i * (4 : Nat) + (4 : Nat) ≤ (mvs n f).length)) ∧ (((.agg ⟨[(.int .i64 ((f i).at_)), (.int .i64 ((f i).place)), (.int .i64 ((f i).lo)), (.int .i64 ((f i).hi))]⟩) : Value) = (.agg ⟨(List.take ((4 : Nat)) (List.drop ((0 : Nat) + i * (4 : Nat)) (mvs n f)))⟩))) ∧
R 1 .normal ⟨⟨[(.int .u8 (wh)), (.int .u8 (nu)), (.int .i64 a), (.int .i64 n), (.int .i64 (IntKind.i64.wrap ((↑i : Int) + (1 : Int)))), (.int .i64 p), (.int .i64 p), (.int .i64 p)], [⟨n, c⟩, ⟨n, c⟩, ⟨((1 : Nat)), ((1 : Nat))⟩, ⟨n, n⟩]⟩, [(mvs n f), (ms2), [(.int .i64 ((f i).at_)), (.int .i64 ((f i).place)), (.int .i64 ((f i).hi)), (.int .i64 ((f i).hi))]], []⟩))) ∧
((decide ((↑i : Int) < (↑n : Int))) = false → R 0 (.exit ((0 : Nat))) ⟨⟨[(.int .u8 (wh)), (.int .u8 (nu)), (.int .i64 a), (.int .i64 n), (.int .i64 i), (.int .i64 p), (.int .i64 p), (.int .i64 p)], [⟨n, c⟩, ⟨n, c⟩, ⟨n, n⟩]⟩, [(mvs n f), (ms2)], []⟩))) := by kernel_rfl
theorem b9bz (p wh nu : Int) (n c a i : Nat) (f : Nat → Mv) (ms2 ls : List Value) (R : Nat → AExit → Hw → Prop) : (vx.code none (.l p9a) (leafW [T9az, T9bz] R) (T9bz.inst (h9bz p wh nu n c a (mvs n f) ms2 i ls)) ([(0, .split ((1, .val (.pointer (.some ⟨((0 : Nat)), ((0 : Nat) + i * (4 : Nat)), .none⟩))) :: (0, .val (.agg ⟨[(.int .i64 ((f i).at_)), (.int .i64 ((f i).place)), (.int .i64 ((f i).lo)), (.int .i64 ((f i).hi))]⟩)) :: (12, Hint.grow) :: [(4, Hint.tm (1 : Nat) [((11 : Nat), (14 : Nat))])]) ([(1, Hint.tm (1 : Nat) [((11 : Nat), (11 : Nat))])]))])) =
((((decide ((↑i : Int) < (↑n : Int))) = true → ((((((0 : Int) ≤ (↑i : Int))) ∧ (((↑i : Int) < (↑n : Int)))) ∧ (((.pointer (.some ⟨((0 : Nat)), ((0 : Nat) + i * (4 : Nat)), .none⟩)) : Value) = (.pointer (.some ⟨((0 : Nat)), ((0 : Nat) + i * (4 : Nat)), .none⟩)))) ∧
(((((0 : Nat) + i * (4 : Nat) + (4 : Nat) ≤ (mvs n f).length)) ∧ (((.agg ⟨[(.int .i64 ((f i).at_)), (.int .i64 ((f i).place)), (.int .i64 ((f i).lo)), (.int .i64 ((f i).hi))]⟩) : Value) = (.agg ⟨(List.take ((4 : Nat)) (List.drop ((0 : Nat) + i * (4 : Nat)) (mvs n f)))⟩))) ∧
((((¬i + (1 : Nat) ≤ i)) ∧ (((i * (4 : Nat) = ls.length)) ∧ ((((i + (1 : Nat)) * (32 : Nat) ≤ (140737488355328 : Nat))) ∧ ((i + (1 : Nat) ≤ (4611686018427387904 : Nat)))))) ∧
R 1 .normal ⟨⟨[(.int .u8 (wh)), (.int .u8 (nu)), (.int .i64 a), (.int .i64 n), (.int .i64 (IntKind.i64.wrap ((↑i : Int) + (1 : Int)))), (.int .i64 p), (.int .i64 p), (.int .i64 p)], [⟨n, c⟩, ⟨n, c⟩, ⟨(i + (1 : Nat)), (i + (1 : Nat))⟩, ⟨n, n⟩]⟩, [(mvs n f), (ms2), ((List.take (i * (4 : Nat)) (ls)) ++ [(.int .i64 ((f i).at_)), (.int .i64 ((f i).place)), (.int .i64 ((f i).hi)), (.int .i64 ((f i).hi))])], []⟩)))) ∧
((decide ((↑i : Int) < (↑n : Int))) = false → R 1 (.exit ((0 : Nat))) ⟨⟨[(.int .u8 (wh)), (.int .u8 (nu)), (.int .i64 a), (.int .i64 n), (.int .i64 i), (.int .i64 p), (.int .i64 p), (.int .i64 p)], [⟨n, c⟩, ⟨n, c⟩, ⟨i, i⟩, ⟨n, n⟩]⟩, [(mvs n f), (ms2), (ls)], []⟩))) := by kernel_rfl
theorem b9c0 (p p2 : Int) (n c i : Nat) (ms ms2 plan : List Value) (L0 L1 S0 S1 : Nat → Int) (R : Nat → AExit → Hw → Prop) : (vx.code none (.l p9b) (leafW [T9c 0] R) ((T9c 0).inst (h9c p p2 n c ms ms2 (spansC n L0 L1) (spansC n S0 S1) plan i)) ([(0, .split ((5, .val (.pointer (.some ⟨((16 : Nat)), ((0 : Nat) + i * (2 : Nat)), .none⟩))) :: (1, .val (.int .i64 (S0 i))) :: (2, .val (.pointer (.some ⟨((15 : Nat)), ((0 : Nat) + i * (2 : Nat)), .none⟩))) :: (1, .val (.int .i64 (L0 i))) :: (0, .val (.bool false)) :: (3, .val (.pointer (.some ⟨((16 : Nat)), ((0 : Nat) + i * (2 : Nat)), .none⟩))) :: (1, .val (.int .i64 (S1 i))) :: (2, .val (.pointer (.some ⟨((15 : Nat)), ((0 : Nat) + i * (2 : Nat)), .none⟩))) :: (1, .val (.int .i64 (L1 i))) :: (0, .val (.bool false)) :: [(4, .tm 0 [])]) ([(1, .tm 0 [])]))])) =
((((decide ((↑i : Int) < (↑n : Int))) = true → ((((((0 : Int) ≤ (↑i : Int))) ∧ (((↑i : Int) < (↑n : Int)))) ∧ (((.pointer (.some ⟨((16 : Nat)), ((0 : Nat) + i * (2 : Nat)), .none⟩)) : Value) = (.pointer (.some ⟨((16 : Nat)), ((0 : Nat) + i * (2 : Nat)), .none⟩)))) ∧
((((spansC n S0 S1)[(0 : Nat) + i * (2 : Nat) + (0 : Nat)]? = some (.int .i64 (S0 i)))) ∧
((((((0 : Int) ≤ (↑i : Int))) ∧ (((↑i : Int) < (↑n : Int)))) ∧ (((.pointer (.some ⟨((15 : Nat)), ((0 : Nat) + i * (2 : Nat)), .none⟩)) : Value) = (.pointer (.some ⟨((15 : Nat)), ((0 : Nat) + i * (2 : Nat)), .none⟩)))) ∧
((((spansC n L0 L1)[(0 : Nat) + i * (2 : Nat) + (0 : Nat)]? = some (.int .i64 (L0 i)))) ∧
((((some (.bool (decide (S0 i > L0 i))) : Option Value) = some (.bool false))) ∧
((((((0 : Int) ≤ (↑i : Int))) ∧ (((↑i : Int) < (↑n : Int)))) ∧ (((.pointer (.some ⟨((16 : Nat)), ((0 : Nat) + i * (2 : Nat)), .none⟩)) : Value) = (.pointer (.some ⟨((16 : Nat)), ((0 : Nat) + i * (2 : Nat)), .none⟩)))) ∧
((((spansC n S0 S1)[(0 : Nat) + i * (2 : Nat) + (1 : Nat)]? = some (.int .i64 (S1 i)))) ∧
((((((0 : Int) ≤ (↑i : Int))) ∧ (((↑i : Int) < (↑n : Int)))) ∧ (((.pointer (.some ⟨((15 : Nat)), ((0 : Nat) + i * (2 : Nat)), .none⟩)) : Value) = (.pointer (.some ⟨((15 : Nat)), ((0 : Nat) + i * (2 : Nat)), .none⟩)))) ∧
((((spansC n L0 L1)[(0 : Nat) + i * (2 : Nat) + (1 : Nat)]? = some (.int .i64 (L1 i)))) ∧
((((some (.bool (decide (S1 i > L1 i))) : Option Value) = some (.bool false))) ∧
R 0 .normal ⟨⟨[(.int .i64 n), (.int .i64 (IntKind.i64.wrap ((↑i : Int) + (1 : Int)))), (.int .i64 p), (.int .i64 p2)], [⟨n, n⟩, ⟨n, n⟩, ⟨n, n⟩, ⟨n, c⟩, ⟨n, n⟩]⟩, [(ms), (ms2), (plan), (spansC n L0 L1), (spansC n S0 S1)], []⟩))))))))))) ∧
((decide ((↑i : Int) < (↑n : Int))) = false → R 0 (.exit ((2 : Nat))) ⟨⟨[(.int .i64 n), (.int .i64 i), (.int .i64 p), (.int .i64 p2)], [⟨n, n⟩, ⟨n, n⟩, ⟨n, n⟩, ⟨n, c⟩, ⟨n, n⟩]⟩, [(ms), (ms2), (plan), (spansC n L0 L1), (spansC n S0 S1)], []⟩))) := by kernel_rfl
theorem b9c1 (p p2 : Int) (n c i : Nat) (ms ms2 plan : List Value) (L0 L1 S0 S1 : Nat → Int) (R : Nat → AExit → Hw → Prop) : (vx.code none (.l p9b) (leafW [T9c 1] R) ((T9c 1).inst (h9c p p2 n c ms ms2 (spansC n L0 L1) (spansC n S0 S1) plan i)) ([(0, .split ((5, .val (.pointer (.some ⟨((17 : Nat)), ((0 : Nat) + i * (2 : Nat)), .none⟩))) :: (1, .val (.int .i64 (S0 i))) :: (2, .val (.pointer (.some ⟨((16 : Nat)), ((0 : Nat) + i * (2 : Nat)), .none⟩))) :: (1, .val (.int .i64 (L0 i))) :: (0, .val (.bool false)) :: (3, .val (.pointer (.some ⟨((17 : Nat)), ((0 : Nat) + i * (2 : Nat)), .none⟩))) :: (1, .val (.int .i64 (S1 i))) :: (2, .val (.pointer (.some ⟨((16 : Nat)), ((0 : Nat) + i * (2 : Nat)), .none⟩))) :: (1, .val (.int .i64 (L1 i))) :: (0, .val (.bool false)) :: [(4, .tm 0 [])]) ([(1, .tm 0 [])]))])) =
((((decide ((↑i : Int) < (↑n : Int))) = true → ((((((0 : Int) ≤ (↑i : Int))) ∧ (((↑i : Int) < (↑n : Int)))) ∧ (((.pointer (.some ⟨((17 : Nat)), ((0 : Nat) + i * (2 : Nat)), .none⟩)) : Value) = (.pointer (.some ⟨((17 : Nat)), ((0 : Nat) + i * (2 : Nat)), .none⟩)))) ∧
((((spansC n S0 S1)[(0 : Nat) + i * (2 : Nat) + (0 : Nat)]? = some (.int .i64 (S0 i)))) ∧
((((((0 : Int) ≤ (↑i : Int))) ∧ (((↑i : Int) < (↑n : Int)))) ∧ (((.pointer (.some ⟨((16 : Nat)), ((0 : Nat) + i * (2 : Nat)), .none⟩)) : Value) = (.pointer (.some ⟨((16 : Nat)), ((0 : Nat) + i * (2 : Nat)), .none⟩)))) ∧
((((spansC n L0 L1)[(0 : Nat) + i * (2 : Nat) + (0 : Nat)]? = some (.int .i64 (L0 i)))) ∧
((((some (.bool (decide (S0 i > L0 i))) : Option Value) = some (.bool false))) ∧
((((((0 : Int) ≤ (↑i : Int))) ∧ (((↑i : Int) < (↑n : Int)))) ∧ (((.pointer (.some ⟨((17 : Nat)), ((0 : Nat) + i * (2 : Nat)), .none⟩)) : Value) = (.pointer (.some ⟨((17 : Nat)), ((0 : Nat) + i * (2 : Nat)), .none⟩)))) ∧
((((spansC n S0 S1)[(0 : Nat) + i * (2 : Nat) + (1 : Nat)]? = some (.int .i64 (S1 i)))) ∧
((((((0 : Int) ≤ (↑i : Int))) ∧ (((↑i : Int) < (↑n : Int)))) ∧ (((.pointer (.some ⟨((16 : Nat)), ((0 : Nat) + i * (2 : Nat)), .none⟩)) : Value) = (.pointer (.some ⟨((16 : Nat)), ((0 : Nat) + i * (2 : Nat)), .none⟩)))) ∧
((((spansC n L0 L1)[(0 : Nat) + i * (2 : Nat) + (1 : Nat)]? = some (.int .i64 (L1 i)))) ∧
((((some (.bool (decide (S1 i > L1 i))) : Option Value) = some (.bool false))) ∧
R 0 .normal ⟨⟨[(.int .i64 n), (.int .i64 (IntKind.i64.wrap ((↑i : Int) + (1 : Int)))), (.int .i64 p), (.int .i64 p2)], [⟨n, n⟩, ⟨n, n⟩, ⟨n, n⟩, ⟨n, c⟩, ⟨n, n⟩]⟩, [(ms), (ms2), (plan), (spansC n L0 L1), (spansC n S0 S1)], []⟩))))))))))) ∧
((decide ((↑i : Int) < (↑n : Int))) = false → R 0 (.exit ((2 : Nat))) ⟨⟨[(.int .i64 n), (.int .i64 i), (.int .i64 p), (.int .i64 p2)], [⟨n, n⟩, ⟨n, n⟩, ⟨n, n⟩, ⟨n, c⟩, ⟨n, n⟩]⟩, [(ms), (ms2), (plan), (spansC n L0 L1), (spansC n S0 S1)], []⟩))) := by kernel_rfl
section
variable {p wh nu : Int} {n c k d a : Nat} {f : Nat → Mv} {bs : Nat → Int} {ms2 : List Value}
theorem topL_succ (f : Nat → Mv) (i : Nat) : mvs (i + 1) (fun i => topM (f i)) = mvs i (fun i => topM (f i)) ++ mvV (topM (f i)) := flatC_succ
theorem mvs_at (n : Nat) (f : Nat → Mv) : ∀ v ∈ mvs n f, atomic v = true := mvs_atoms n f _ (by simp)
noncomputable def st9 (p wh nu : Int) (n c k d a : Nat) (f : Nat → Mv) (bs : Nat → Int) (ms2 : List Value) (i : Nat) : Nat × Hw := if i = 0 then (0, h9a p wh nu n c k d a (mvs n f) (u8s k bs) ms2 0) else (1, h9b p wh nu n c k d a (mvs n f) (u8s k bs) ms2 i (mvs i fun i => topM (f i)))
noncomputable def st9z (p wh nu : Int) (n c a : Nat) (f : Nat → Mv) (ms2 : List Value) (i : Nat) : Nat × Hw := if i = 0 then (0, h9az p wh nu n c a (mvs n f) ms2 0) else (1, h9bz p wh nu n c a (mvs n f) ms2 i (mvs i fun i => topM (f i)))
theorem cl9a (hm : ∀ v ∈ ms2, atomic v = true) : ClW (h9a p wh nu n c k d a (mvs n f) (u8s k bs) ms2 0) := by
  refine ⟨fun cs hc => ?_, fun es hc => (by cases hc)⟩
  simp only [h9a, List.mem_cons, List.not_mem_nil, or_false] at hc
  rcases hc with rfl | rfl | rfl
  · exact mvs_at n f
  · exact u8s_atoms k bs
  · exact hm
theorem cl9az (hm : ∀ v ∈ ms2, atomic v = true) : ClW (h9az p wh nu n c a (mvs n f) ms2 0) := by
  refine ⟨fun cs hc => ?_, fun es hc => (by cases hc)⟩
  simp only [h9az, List.mem_cons, List.not_mem_nil, or_false] at hc
  rcases hc with rfl | rfl
  · exact mvs_at n f
  · exact hm
theorem cl9 (hm : ∀ v ∈ ms2, atomic v = true) (i : Nat) : ClW (st9 p wh nu n c k d a f bs ms2 i).2 := by
  unfold st9
  split
  · exact cl9a hm
  · refine ⟨fun cs hc => ?_, fun es hc => (by cases hc)⟩
    simp only [h9b, List.mem_cons, List.not_mem_nil, or_false] at hc
    rcases hc with rfl | rfl | rfl | rfl
    · exact mvs_at n f
    · exact u8s_atoms k bs
    · exact hm
    · exact mvs_at i _
theorem cl9z (hm : ∀ v ∈ ms2, atomic v = true) (i : Nat) : ClW (st9z p wh nu n c a f ms2 i).2 := by
  unfold st9z
  split
  · exact cl9az hm
  · refine ⟨fun cs hc => ?_, fun es hc => (by cases hc)⟩
    simp only [h9bz, List.mem_cons, List.not_mem_nil, or_false] at hc
    rcases hc with rfl | rfl | rfl
    · exact mvs_at n f
    · exact hm
    · exact mvs_at i _
theorem loop9a (hm : ∀ v ∈ ms2, atomic v = true) (h0 : 0 < n) (hn : n ≤ 7) : LoopOW Try.prog none p9a T9a (h9a p wh nu n c k d a (mvs n f) (u8s k bs) ms2 0) (.exit 0) T9b (h9b p wh nu n c k d a (mvs n f) (u8s k bs) ms2 n (mvs n fun i => topM (f i))) := by
  have hend : st9 p wh nu n c k d a f bs ms2 n = (1, h9b p wh nu n c k d a (mvs n f) (u8s k bs) ms2 n (mvs n fun i => topM (f i))) := by unfold st9; rw [if_neg (by omega)]
  have key := loop_forW (P := Try.prog) (ro := none) (p := p9a) rfl vx_sound (Ts := [T9a, T9b]) (k := 11) (n := n) (e := .exit 0) (st := fun i => st9 p wh nu n c k d a f bs ms2 i) ?_ (by rw [nglob]; omega) ⟨by simp, trivial⟩ (fun i _ => cl9 hm i) (fun i hi R hR => ?_) (fun R hR => ?_) (T0 := T9a) (T1 := T9b) rfl (Nat.le_of_ble_eq_true rfl) (by decide) (by rw [hend]; rfl)
  · rw [hend] at key
    exact key
  · intro T hT
    simp only [List.mem_cons, List.not_mem_nil, or_false] at hT
    rcases hT with rfl | rfl <;> rfl
  · have hw : IntKind.i64.wrap ((i : Int) + 1) = ((i + 1 : Nat) : Int) := wrapI (by omega) (by omega)
    have hlen : 0 + i * 4 + 4 ≤ (mvs n f).length := by rw [mvs_len]; have := flatC_bound (k := 4) hi; omega
    have hpart : (Value.agg ⟨[I (f i).at_, I (f i).place, I (f i).lo, I (f i).hi]⟩) = .agg ⟨((mvs n f).drop (0 + i * 4)).take 4⟩ := by rw [mvs_part f hi]; rfl
    have e2 : st9 p wh nu n c k d a f bs ms2 (i + 1) = (1, h9b p wh nu n c k d a (mvs n f) (u8s k bs) ms2 (i + 1) (mvs (i + 1) fun i => topM (f i))) := by unfold st9; rw [if_neg (by omega)]
    rw [e2] at hR
    by_cases hz : i = 0
    · subst hz
      refine ⟨T9a, _, rfl, (b9a p wh nu n c k d a 0 f (u8s k bs) ms2 R).mpr ⟨fun _ => ⟨⟨⟨by omega, by omega⟩, rfl⟩, ⟨hlen, hpart⟩, ?_⟩, fun h => absurd (by omega) (of_decide_eq_false h)⟩⟩
      rw [hw]
      exact hR
    · have e0 : st9 p wh nu n c k d a f bs ms2 i = (1, h9b p wh nu n c k d a (mvs n f) (u8s k bs) ms2 i (mvs i fun i => topM (f i))) := by unfold st9; rw [if_neg hz]
      refine ⟨T9b, ?_⟩
      rw [e0]
      refine ⟨_, rfl, (b9b p wh nu n c k d a i f (u8s k bs) ms2 (mvs i fun i => topM (f i)) R).mpr ⟨fun _ => ⟨⟨⟨by omega, by omega⟩, rfl⟩, ⟨hlen, hpart⟩, ⟨by omega, by rw [mvs_len], by omega, by omega⟩, ?_⟩, fun h => absurd (by omega) (of_decide_eq_false h)⟩⟩
      rw [hw, ← mvs_len i (fun i => topM (f i)), List.take_length]
      rw [topL_succ] at hR
      exact hR
  · rw [hend] at hR ⊢
    exact ⟨T9b, _, rfl, (b9b p wh nu n c k d a n f (u8s k bs) ms2 (mvs n fun i => topM (f i)) R).mpr ⟨fun h => absurd (of_decide_eq_true h) (by omega), fun _ => hR⟩⟩
theorem loop9az (hm : ∀ v ∈ ms2, atomic v = true) (h0 : 0 < n) (hn : n ≤ 7) : LoopOW Try.prog none p9a T9az (h9az p wh nu n c a (mvs n f) ms2 0) (.exit 0) T9bz (h9bz p wh nu n c a (mvs n f) ms2 n (mvs n fun i => topM (f i))) := by
  have hend : st9z p wh nu n c a f ms2 n = (1, h9bz p wh nu n c a (mvs n f) ms2 n (mvs n fun i => topM (f i))) := by unfold st9z; rw [if_neg (by omega)]
  have key := loop_forW (P := Try.prog) (ro := none) (p := p9a) rfl vx_sound (Ts := [T9az, T9bz]) (k := 11) (n := n) (e := .exit 0) (st := fun i => st9z p wh nu n c a f ms2 i) ?_ (by rw [nglob]; omega) ⟨by simp, trivial⟩ (fun i _ => cl9z hm i) (fun i hi R hR => ?_) (fun R hR => ?_) (T0 := T9az) (T1 := T9bz) rfl (Nat.le_of_ble_eq_true rfl) (by decide) (by rw [hend]; rfl)
  · rw [hend] at key
    exact key
  · intro T hT
    simp only [List.mem_cons, List.not_mem_nil, or_false] at hT
    rcases hT with rfl | rfl <;> rfl
  · have hw : IntKind.i64.wrap ((i : Int) + 1) = ((i + 1 : Nat) : Int) := wrapI (by omega) (by omega)
    have hlen : 0 + i * 4 + 4 ≤ (mvs n f).length := by rw [mvs_len]; have := flatC_bound (k := 4) hi; omega
    have hpart : (Value.agg ⟨[I (f i).at_, I (f i).place, I (f i).lo, I (f i).hi]⟩) = .agg ⟨((mvs n f).drop (0 + i * 4)).take 4⟩ := by rw [mvs_part f hi]; rfl
    have e2 : st9z p wh nu n c a f ms2 (i + 1) = (1, h9bz p wh nu n c a (mvs n f) ms2 (i + 1) (mvs (i + 1) fun i => topM (f i))) := by unfold st9z; rw [if_neg (by omega)]
    rw [e2] at hR
    by_cases hz : i = 0
    · subst hz
      refine ⟨T9az, _, rfl, (b9az p wh nu n c a 0 f ms2 R).mpr ⟨fun _ => ⟨⟨⟨by omega, by omega⟩, rfl⟩, ⟨hlen, hpart⟩, ?_⟩, fun h => absurd (by omega) (of_decide_eq_false h)⟩⟩
      rw [hw]
      exact hR
    · have e0 : st9z p wh nu n c a f ms2 i = (1, h9bz p wh nu n c a (mvs n f) ms2 i (mvs i fun i => topM (f i))) := by unfold st9z; rw [if_neg hz]
      refine ⟨T9bz, ?_⟩
      rw [e0]
      refine ⟨_, rfl, (b9bz p wh nu n c a i f ms2 (mvs i fun i => topM (f i)) R).mpr ⟨fun _ => ⟨⟨⟨by omega, by omega⟩, rfl⟩, ⟨hlen, hpart⟩, ⟨by omega, by rw [mvs_len], by omega, by omega⟩, ?_⟩, fun h => absurd (by omega) (of_decide_eq_false h)⟩⟩
      rw [hw, ← mvs_len i (fun i => topM (f i)), List.take_length]
      rw [topL_succ] at hR
      exact hR
  · rw [hend] at hR ⊢
    exact ⟨T9bz, _, rfl, (b9bz p wh nu n c a n f ms2 (mvs n fun i => topM (f i)) R).mpr ⟨fun h => absurd (of_decide_eq_true h) (by omega), fun _ => hR⟩⟩
theorem spans_get {n i : Nat} (a b : Nat → Int) (h : i < n) : (spansC n a b)[0 + i * 2 + 0]? = some (I (a i)) ∧ (spansC n a b)[0 + i * 2 + 1]? = some (I (b i)) := by
  have h1 := flatC_get (n := n) (k := 2) (g := fun i => [I (a i), I (b i)]) (fun i _ => rfl) h (j := 0) (by omega)
  have h2 := flatC_get (n := n) (k := 2) (g := fun i => [I (a i), I (b i)]) (fun i _ => rfl) h (j := 1) (by omega)
  rw [Nat.zero_add]
  exact ⟨by simpa [spansC] using h1, by simpa [spansC] using h2⟩
theorem cl9c {p2 : Int} {ms ms2 plan : List Value} {L0 L1 S0 S1 : Nat → Int} (h1 : ∀ v ∈ ms, atomic v = true) (h2 : ∀ v ∈ ms2, atomic v = true) (h3 : ∀ v ∈ plan, atomic v = true) (i : Nat) : ClW (h9c p p2 n c ms ms2 (spansC n L0 L1) (spansC n S0 S1) plan i) := by
  refine ⟨fun cs hc => ?_, fun es hc => (by cases hc)⟩
  simp only [h9c, List.mem_cons, List.not_mem_nil, or_false] at hc
  rcases hc with rfl | rfl | rfl | rfl | rfl
  · exact h1
  · exact h2
  · exact h3
  · exact spansC_atoms n _ _
  · exact spansC_atoms n _ _
theorem loop9c0 {p2 : Int} {ms ms2 plan : List Value} {L0 L1 S0 S1 : Nat → Int} (h1 : ∀ v ∈ ms, atomic v = true) (h2 : ∀ v ∈ ms2, atomic v = true) (h3 : ∀ v ∈ plan, atomic v = true) (hn : n ≤ 7) (hl : ∀ i, i < n → S0 i ≤ L0 i ∧ S1 i ≤ L1 i) :
    LoopOW Try.prog none p9b (T9c 0) (h9c p p2 n c ms ms2 (spansC n L0 L1) (spansC n S0 S1) plan 0) (.exit 2) (T9c 0) (h9c p p2 n c ms ms2 (spansC n L0 L1) (spansC n S0 S1) plan n) := by
  refine loop_forW (Ts := [T9c 0]) (k := 17) (n := n) (e := .exit 2) (st := fun i => (0, h9c p p2 n c ms ms2 (spansC n L0 L1) (spansC n S0 S1) plan i)) rfl vx_sound ?_ (by rw [nglob]; omega) ⟨by simp, trivial⟩ (fun i _ => cl9c h1 h2 h3 i) (fun i hi R hR => ?_) (fun R hR => ?_) rfl (Nat.le_of_ble_eq_true rfl) (by decide) rfl
  · intro T hT; simp only [List.mem_singleton] at hT; subst hT; rfl
  · have hw : IntKind.i64.wrap ((i : Int) + 1) = ((i + 1 : Nat) : Int) := wrapI (by omega) (by omega)
    have hb : (0 ≤ (i : Int) ∧ (i : Int) < n) := ⟨by omega, by omega⟩
    obtain ⟨l0, l1⟩ := spans_get L0 L1 hi
    obtain ⟨s0, s1⟩ := spans_get S0 S1 hi
    obtain ⟨c0, c1⟩ := hl i hi
    have d0 : decide (S0 i > L0 i) = false := decide_eq_false (by omega)
    have d1 : decide (S1 i > L1 i) = false := decide_eq_false (by omega)
    refine ⟨T9c 0, _, rfl, (b9c0 p p2 n c i ms ms2 plan L0 L1 S0 S1 R).mpr ⟨fun _ => ⟨⟨hb, rfl⟩, s0, ⟨hb, rfl⟩, l0, by rw [d0], ⟨hb, rfl⟩, s1, ⟨hb, rfl⟩, l1, by rw [d1], ?_⟩, fun h => absurd (by omega) (of_decide_eq_false h)⟩⟩
    rw [hw]
    exact hR
  · exact ⟨T9c 0, _, rfl, (b9c0 p p2 n c n ms ms2 plan L0 L1 S0 S1 R).mpr ⟨fun h => absurd (of_decide_eq_true h) (by omega), fun _ => hR⟩⟩
theorem loop9c1 {p2 : Int} {ms ms2 plan : List Value} {L0 L1 S0 S1 : Nat → Int} (h1 : ∀ v ∈ ms, atomic v = true) (h2 : ∀ v ∈ ms2, atomic v = true) (h3 : ∀ v ∈ plan, atomic v = true) (hn : n ≤ 7) (hl : ∀ i, i < n → S0 i ≤ L0 i ∧ S1 i ≤ L1 i) :
    LoopOW Try.prog none p9b (T9c 1) (h9c p p2 n c ms ms2 (spansC n L0 L1) (spansC n S0 S1) plan 0) (.exit 2) (T9c 1) (h9c p p2 n c ms ms2 (spansC n L0 L1) (spansC n S0 S1) plan n) := by
  refine loop_forW (Ts := [T9c 1]) (k := 18) (n := n) (e := .exit 2) (st := fun i => (0, h9c p p2 n c ms ms2 (spansC n L0 L1) (spansC n S0 S1) plan i)) rfl vx_sound ?_ (by rw [nglob]; omega) ⟨by simp, trivial⟩ (fun i _ => cl9c h1 h2 h3 i) (fun i hi R hR => ?_) (fun R hR => ?_) rfl (Nat.le_of_ble_eq_true rfl) (by decide) rfl
  · intro T hT; simp only [List.mem_singleton] at hT; subst hT; rfl
  · have hw : IntKind.i64.wrap ((i : Int) + 1) = ((i + 1 : Nat) : Int) := wrapI (by omega) (by omega)
    have hb : (0 ≤ (i : Int) ∧ (i : Int) < n) := ⟨by omega, by omega⟩
    obtain ⟨l0, l1⟩ := spans_get L0 L1 hi
    obtain ⟨s0, s1⟩ := spans_get S0 S1 hi
    obtain ⟨c0, c1⟩ := hl i hi
    have d0 : decide (S0 i > L0 i) = false := decide_eq_false (by omega)
    have d1 : decide (S1 i > L1 i) = false := decide_eq_false (by omega)
    refine ⟨T9c 1, _, rfl, (b9c1 p p2 n c i ms ms2 plan L0 L1 S0 S1 R).mpr ⟨fun _ => ⟨⟨hb, rfl⟩, s0, ⟨hb, rfl⟩, l0, by rw [d0], ⟨hb, rfl⟩, s1, ⟨hb, rfl⟩, l1, by rw [d1], ?_⟩, fun h => absurd (by omega) (of_decide_eq_false h)⟩⟩
    rw [hw]
    exact hR
  · exact ⟨T9c 1, _, rfl, (b9c1 p p2 n c n ms ms2 plan L0 L1 S0 S1 R).mpr ⟨fun h => absurd (of_decide_eq_true h) (by omega), fun _ => hR⟩⟩
end
end Go.Ab
set_option maxRecDepth 100000
namespace Go.Ab
open Go Go.RowKit Go.Proofs
theorem b9d00 (p p2 : Int) (n c na nr : Nat) (v w : Bool) (f f2 : Nat → Mv) (g : Nat → Nat) (pa pr : List Value) (R : Nat → AExit → Hw → Prop) : (vx.code none (.l p9c) (leafW [T9d 0] R) ((T9d 0).inst (h9d p p2 n c (mvs n f) (mvs n f2) (natL n g) 0)) ((7, Hint.conN (C24c true p n c (mvs n f) na pa)) :: (9, Hint.conN (C24c true p2 n n (mvs n f2) nr pr)) :: (16, .val (.bool false)) :: (5, Hint.con (C27 true p n c n n f g v)) :: [(0, .split ((3, Hint.con (C27 true p2 n n n n f2 g w)) :: [(0, .split ([(4, .tm 0 [])]) ([(5, .tm 0 [])]))]) ([(5, .tm 0 [])]))])) =
(((ConNOK Try.prog 24 (C24c true p n c (mvs n f) na pa)) ∧ (ConN.pre (C24c true p n c (mvs n f) na pa) ⟨⟨[(.int .i64 p), (.bool true)], [⟨n, c⟩]⟩, [(mvs n f)]⟩) ∧
((ConNOK Try.prog 24 (C24c true p2 n n (mvs n f2) nr pr)) ∧ (ConN.pre (C24c true p2 n n (mvs n f2) nr pr) ⟨⟨[(.int .i64 p2), (.bool true)], [⟨n, n⟩]⟩, [(mvs n f2)]⟩) ∧
((((some (.bool (decide ((↑nr : Int) > (↑na : Int)))) : Option Value) = some (.bool false))) ∧
((ConOK Try.prog 27 (C27 true p n c n n f g v)) ∧ (Con.pre (C27 true p n c n n f g v) ⟨⟨[(.int .i64 p), (.bool true)], [⟨n, c⟩, ⟨n, n⟩]⟩, [(mvs n f), (natL n g)]⟩) ∧
(((v) = true → ((ConOK Try.prog 27 (C27 true p2 n n n n f2 g w)) ∧ (Con.pre (C27 true p2 n n n n f2 g w) ⟨⟨[(.int .i64 p2), (.bool true)], [⟨n, n⟩, ⟨n, n⟩]⟩, [(mvs n f2), (natL n g)]⟩) ∧
(((!w) = true → R 0 .ret ⟨⟨[(.int .i64 2), (.int .i64 ((↑(0 : Nat) : Int))), (.int .i64 p), (.int .i64 p2)], [⟨n, n⟩, ⟨((2 : Nat)), ((2 : Nat))⟩, ⟨n, c⟩, ⟨n, n⟩]⟩, [(mvs n f), (mvs n f2), (natL n g)], []⟩) ∧
((!w) = false → R 0 .normal ⟨⟨[(.int .i64 2), (.int .i64 (IntKind.i64.wrap ((↑(0 : Nat) : Int) + (1 : Int)))), (.int .i64 p), (.int .i64 p2)], [⟨n, n⟩, ⟨((2 : Nat)), ((2 : Nat))⟩, ⟨n, c⟩, ⟨n, n⟩]⟩, [(mvs n f), (mvs n f2), (natL n g)], []⟩)))) ∧
((v) = false → R 0 .normal ⟨⟨[(.int .i64 2), (.int .i64 (IntKind.i64.wrap ((↑(0 : Nat) : Int) + (1 : Int)))), (.int .i64 p), (.int .i64 p2)], [⟨n, n⟩, ⟨((2 : Nat)), ((2 : Nat))⟩, ⟨n, c⟩, ⟨n, n⟩]⟩, [(mvs n f), (mvs n f2), (natL n g)], []⟩))))))) := by kernel_rfl
theorem b9d01 (p p2 : Int) (n c na nr : Nat) (v w : Bool) (f f2 : Nat → Mv) (g : Nat → Nat) (pa pr : List Value) (R : Nat → AExit → Hw → Prop) : (vx.code none (.l p9c) (leafW [T9d 0] R) ((T9d 0).inst (h9d p p2 n c (mvs n f) (mvs n f2) (natL n g) 1)) ((7, Hint.conN (C24c false p n c (mvs n f) na pa)) :: (9, Hint.conN (C24c false p2 n n (mvs n f2) nr pr)) :: (16, .val (.bool false)) :: (5, Hint.con (C27 false p n c n n f g v)) :: [(0, .split ((3, Hint.con (C27 false p2 n n n n f2 g w)) :: [(0, .split ([(4, .tm 0 [])]) ([(5, .tm 0 [])]))]) ([(5, .tm 0 [])]))])) =
(((ConNOK Try.prog 24 (C24c false p n c (mvs n f) na pa)) ∧ (ConN.pre (C24c false p n c (mvs n f) na pa) ⟨⟨[(.int .i64 p), (.bool false)], [⟨n, c⟩]⟩, [(mvs n f)]⟩) ∧
((ConNOK Try.prog 24 (C24c false p2 n n (mvs n f2) nr pr)) ∧ (ConN.pre (C24c false p2 n n (mvs n f2) nr pr) ⟨⟨[(.int .i64 p2), (.bool false)], [⟨n, n⟩]⟩, [(mvs n f2)]⟩) ∧
((((some (.bool (decide ((↑nr : Int) > (↑na : Int)))) : Option Value) = some (.bool false))) ∧
((ConOK Try.prog 27 (C27 false p n c n n f g v)) ∧ (Con.pre (C27 false p n c n n f g v) ⟨⟨[(.int .i64 p), (.bool false)], [⟨n, c⟩, ⟨n, n⟩]⟩, [(mvs n f), (natL n g)]⟩) ∧
(((v) = true → ((ConOK Try.prog 27 (C27 false p2 n n n n f2 g w)) ∧ (Con.pre (C27 false p2 n n n n f2 g w) ⟨⟨[(.int .i64 p2), (.bool false)], [⟨n, n⟩, ⟨n, n⟩]⟩, [(mvs n f2), (natL n g)]⟩) ∧
(((!w) = true → R 0 .ret ⟨⟨[(.int .i64 2), (.int .i64 ((↑(1 : Nat) : Int))), (.int .i64 p), (.int .i64 p2)], [⟨n, n⟩, ⟨((2 : Nat)), ((2 : Nat))⟩, ⟨n, c⟩, ⟨n, n⟩]⟩, [(mvs n f), (mvs n f2), (natL n g)], []⟩) ∧
((!w) = false → R 0 .normal ⟨⟨[(.int .i64 2), (.int .i64 (IntKind.i64.wrap ((↑(1 : Nat) : Int) + (1 : Int)))), (.int .i64 p), (.int .i64 p2)], [⟨n, n⟩, ⟨((2 : Nat)), ((2 : Nat))⟩, ⟨n, c⟩, ⟨n, n⟩]⟩, [(mvs n f), (mvs n f2), (natL n g)], []⟩)))) ∧
((v) = false → R 0 .normal ⟨⟨[(.int .i64 2), (.int .i64 (IntKind.i64.wrap ((↑(1 : Nat) : Int) + (1 : Int)))), (.int .i64 p), (.int .i64 p2)], [⟨n, n⟩, ⟨((2 : Nat)), ((2 : Nat))⟩, ⟨n, c⟩, ⟨n, n⟩]⟩, [(mvs n f), (mvs n f2), (natL n g)], []⟩))))))) := by kernel_rfl
theorem b9d02 (p p2 : Int) (n c : Nat) (ms ms2 pl : List Value) (R : Nat → AExit → Hw → Prop) : (vx.code none (.l p9c) (leafW [T9d 0] R) ((T9d 0).inst (h9d p p2 n c ms ms2 pl 2)) ([(2, .tm 0 [])])) =
(R 0 (.exit ((4 : Nat))) ⟨⟨[(.int .i64 2), (.int .i64 ((↑(2 : Nat) : Int))), (.int .i64 p), (.int .i64 p2)], [⟨n, n⟩, ⟨((2 : Nat)), ((2 : Nat))⟩, ⟨n, c⟩, ⟨n, n⟩]⟩, [(ms), (ms2), (pl)], []⟩) := by kernel_rfl
theorem b9d10 (p p2 : Int) (n c na nr : Nat) (v w : Bool) (f f2 : Nat → Mv) (g : Nat → Nat) (pa pr : List Value) (R : Nat → AExit → Hw → Prop) : (vx.code none (.l p9c) (leafW [T9d 1] R) ((T9d 1).inst (h9d p p2 n c (mvs n f) (mvs n f2) (natL n g) 0)) ((7, Hint.conN (C24c true p n c (mvs n f) na pa)) :: (9, Hint.conN (C24c true p2 n n (mvs n f2) nr pr)) :: (16, .val (.bool false)) :: (5, Hint.con (C27 true p n c n n f g v)) :: [(0, .split ((3, Hint.con (C27 true p2 n n n n f2 g w)) :: [(0, .split ([(4, .tm 0 [])]) ([(5, .tm 0 [])]))]) ([(5, .tm 0 [])]))])) =
(((ConNOK Try.prog 24 (C24c true p n c (mvs n f) na pa)) ∧ (ConN.pre (C24c true p n c (mvs n f) na pa) ⟨⟨[(.int .i64 p), (.bool true)], [⟨n, c⟩]⟩, [(mvs n f)]⟩) ∧
((ConNOK Try.prog 24 (C24c true p2 n n (mvs n f2) nr pr)) ∧ (ConN.pre (C24c true p2 n n (mvs n f2) nr pr) ⟨⟨[(.int .i64 p2), (.bool true)], [⟨n, n⟩]⟩, [(mvs n f2)]⟩) ∧
((((some (.bool (decide ((↑nr : Int) > (↑na : Int)))) : Option Value) = some (.bool false))) ∧
((ConOK Try.prog 27 (C27 true p n c n n f g v)) ∧ (Con.pre (C27 true p n c n n f g v) ⟨⟨[(.int .i64 p), (.bool true)], [⟨n, c⟩, ⟨n, n⟩]⟩, [(mvs n f), (natL n g)]⟩) ∧
(((v) = true → ((ConOK Try.prog 27 (C27 true p2 n n n n f2 g w)) ∧ (Con.pre (C27 true p2 n n n n f2 g w) ⟨⟨[(.int .i64 p2), (.bool true)], [⟨n, n⟩, ⟨n, n⟩]⟩, [(mvs n f2), (natL n g)]⟩) ∧
(((!w) = true → R 0 .ret ⟨⟨[(.int .i64 2), (.int .i64 ((↑(0 : Nat) : Int))), (.int .i64 p), (.int .i64 p2)], [⟨n, n⟩, ⟨((2 : Nat)), ((2 : Nat))⟩, ⟨n, c⟩, ⟨n, n⟩]⟩, [(mvs n f), (mvs n f2), (natL n g)], []⟩) ∧
((!w) = false → R 0 .normal ⟨⟨[(.int .i64 2), (.int .i64 (IntKind.i64.wrap ((↑(0 : Nat) : Int) + (1 : Int)))), (.int .i64 p), (.int .i64 p2)], [⟨n, n⟩, ⟨((2 : Nat)), ((2 : Nat))⟩, ⟨n, c⟩, ⟨n, n⟩]⟩, [(mvs n f), (mvs n f2), (natL n g)], []⟩)))) ∧
((v) = false → R 0 .normal ⟨⟨[(.int .i64 2), (.int .i64 (IntKind.i64.wrap ((↑(0 : Nat) : Int) + (1 : Int)))), (.int .i64 p), (.int .i64 p2)], [⟨n, n⟩, ⟨((2 : Nat)), ((2 : Nat))⟩, ⟨n, c⟩, ⟨n, n⟩]⟩, [(mvs n f), (mvs n f2), (natL n g)], []⟩))))))) := by kernel_rfl
theorem b9d11 (p p2 : Int) (n c na nr : Nat) (v w : Bool) (f f2 : Nat → Mv) (g : Nat → Nat) (pa pr : List Value) (R : Nat → AExit → Hw → Prop) : (vx.code none (.l p9c) (leafW [T9d 1] R) ((T9d 1).inst (h9d p p2 n c (mvs n f) (mvs n f2) (natL n g) 1)) ((7, Hint.conN (C24c false p n c (mvs n f) na pa)) :: (9, Hint.conN (C24c false p2 n n (mvs n f2) nr pr)) :: (16, .val (.bool false)) :: (5, Hint.con (C27 false p n c n n f g v)) :: [(0, .split ((3, Hint.con (C27 false p2 n n n n f2 g w)) :: [(0, .split ([(4, .tm 0 [])]) ([(5, .tm 0 [])]))]) ([(5, .tm 0 [])]))])) =
(((ConNOK Try.prog 24 (C24c false p n c (mvs n f) na pa)) ∧ (ConN.pre (C24c false p n c (mvs n f) na pa) ⟨⟨[(.int .i64 p), (.bool false)], [⟨n, c⟩]⟩, [(mvs n f)]⟩) ∧
((ConNOK Try.prog 24 (C24c false p2 n n (mvs n f2) nr pr)) ∧ (ConN.pre (C24c false p2 n n (mvs n f2) nr pr) ⟨⟨[(.int .i64 p2), (.bool false)], [⟨n, n⟩]⟩, [(mvs n f2)]⟩) ∧
((((some (.bool (decide ((↑nr : Int) > (↑na : Int)))) : Option Value) = some (.bool false))) ∧
((ConOK Try.prog 27 (C27 false p n c n n f g v)) ∧ (Con.pre (C27 false p n c n n f g v) ⟨⟨[(.int .i64 p), (.bool false)], [⟨n, c⟩, ⟨n, n⟩]⟩, [(mvs n f), (natL n g)]⟩) ∧
(((v) = true → ((ConOK Try.prog 27 (C27 false p2 n n n n f2 g w)) ∧ (Con.pre (C27 false p2 n n n n f2 g w) ⟨⟨[(.int .i64 p2), (.bool false)], [⟨n, n⟩, ⟨n, n⟩]⟩, [(mvs n f2), (natL n g)]⟩) ∧
(((!w) = true → R 0 .ret ⟨⟨[(.int .i64 2), (.int .i64 ((↑(1 : Nat) : Int))), (.int .i64 p), (.int .i64 p2)], [⟨n, n⟩, ⟨((2 : Nat)), ((2 : Nat))⟩, ⟨n, c⟩, ⟨n, n⟩]⟩, [(mvs n f), (mvs n f2), (natL n g)], []⟩) ∧
((!w) = false → R 0 .normal ⟨⟨[(.int .i64 2), (.int .i64 (IntKind.i64.wrap ((↑(1 : Nat) : Int) + (1 : Int)))), (.int .i64 p), (.int .i64 p2)], [⟨n, n⟩, ⟨((2 : Nat)), ((2 : Nat))⟩, ⟨n, c⟩, ⟨n, n⟩]⟩, [(mvs n f), (mvs n f2), (natL n g)], []⟩)))) ∧
((v) = false → R 0 .normal ⟨⟨[(.int .i64 2), (.int .i64 (IntKind.i64.wrap ((↑(1 : Nat) : Int) + (1 : Int)))), (.int .i64 p), (.int .i64 p2)], [⟨n, n⟩, ⟨((2 : Nat)), ((2 : Nat))⟩, ⟨n, c⟩, ⟨n, n⟩]⟩, [(mvs n f), (mvs n f2), (natL n g)], []⟩))))))) := by kernel_rfl
theorem b9d12 (p p2 : Int) (n c : Nat) (ms ms2 pl : List Value) (R : Nat → AExit → Hw → Prop) : (vx.code none (.l p9c) (leafW [T9d 1] R) ((T9d 1).inst (h9d p p2 n c ms ms2 pl 2)) ([(2, .tm 0 [])])) =
(R 0 (.exit ((4 : Nat))) ⟨⟨[(.int .i64 2), (.int .i64 ((↑(2 : Nat) : Int))), (.int .i64 p), (.int .i64 p2)], [⟨n, n⟩, ⟨((2 : Nat)), ((2 : Nat))⟩, ⟨n, c⟩, ⟨n, n⟩]⟩, [(ms), (ms2), (pl)], []⟩) := by kernel_rfl
section
variable {p p2 : Int} {n c : Nat} {f f2 : Nat → Mv} {g : Nat → Nat}
theorem quick_few (h : HOK p n f) (q : Quick p n f p2 f2) (sure : Bool) : fewH sure p2 n f2 ≤ fewH sure p n f := few_mono h (q.hok h) fun _ _ hi hj hc => q.can h sure hi hj hc
theorem cl9d (i : Nat) : ClW (h9d p p2 n c (mvs n f) (mvs n f2) (natL n g) i) := by
  refine ⟨fun cs hc => ?_, fun es hc => (by cases hc)⟩
  simp only [h9d, List.mem_cons, List.not_mem_nil, or_false] at hc
  rcases hc with rfl | rfl | rfl
  · exact mvs_at n f
  · exact mvs_at n f2
  · exact natL_atom n g
theorem loop9d0 (h : HOK p n f) (q : Quick p n f p2 f2) (hg : ∀ i, i < n → g i < 7) : LoopOW Try.prog none p9c (T9d 0) (h9d p p2 n c (mvs n f) (mvs n f2) (natL n g) 0) (.exit 4) (T9d 0) (h9d p p2 n c (mvs n f) (mvs n f2) (natL n g) 2) := by
  have hok := okH_of h
  have h2 := q.hok h
  have hok2 := okH_of h2
  have h7 := h.n7
  refine loop_forW (Ts := [T9d 0]) (k := 18) (n := 2) (e := .exit 4) (st := fun i => (0, h9d p p2 n c (mvs n f) (mvs n f2) (natL n g) i)) rfl vx_sound ?_ (by rw [nglob]; omega) ⟨by simp, trivial⟩ (fun i _ => cl9d i) (fun i hi R hR => ?_) (fun R hR => ?_) rfl (Nat.le_of_ble_eq_true rfl) (by decide) rfl
  · intro T hT; simp only [List.mem_singleton] at hT; subst hT; rfl
  · have hi' : i = 0 ∨ i = 1 := by omega
    rcases hi' with rfl | rfl
    · obtain ⟨pa, hA⟩ := C24any (p := p) (n := n) (c := c) (f := f) true hok
      obtain ⟨pr, hB⟩ := C24any (p := p2) (n := n) (c := n) (f := f2) true hok2
      have hC := C27_ok true p n c n n f g hok (okP_nat hg) h7 h7
      have hD := C27_ok true p2 n n n n f2 g hok2 (okP_nat hg) h7 h7
      have hle := quick_few h q true
      have hvw := right_quick (sure := true) (g := g) h q
      generalize fewH true p n f = na at hA hle
      generalize fewH true p2 n f2 = nr at hB hle
      generalize rightB true p n n f (fun i => (g i : Int)) = v at hC hvw
      generalize rightB true p2 n n f2 (fun i => (g i : Int)) = w at hD hvw
      have hno : decide ((nr : Int) > (na : Int)) = false := decide_eq_false (by omega)
      refine ⟨T9d 0, _, rfl, (b9d00 p p2 n c na nr v w f f2 g pa pr R).mpr ⟨hA, rfl, hB, rfl, by rw [hno], hC, rfl, fun hv => ⟨hD, rfl, fun hw => ?_, fun _ => hR⟩, fun _ => hR⟩⟩
      rw [hvw hv] at hw
      cases hw
    · obtain ⟨pa, hA⟩ := C24any (p := p) (n := n) (c := c) (f := f) false hok
      obtain ⟨pr, hB⟩ := C24any (p := p2) (n := n) (c := n) (f := f2) false hok2
      have hC := C27_ok false p n c n n f g hok (okP_nat hg) h7 h7
      have hD := C27_ok false p2 n n n n f2 g hok2 (okP_nat hg) h7 h7
      have hle := quick_few h q false
      have hvw := right_quick (sure := false) (g := g) h q
      generalize fewH false p n f = na at hA hle
      generalize fewH false p2 n f2 = nr at hB hle
      generalize rightB false p n n f (fun i => (g i : Int)) = v at hC hvw
      generalize rightB false p2 n n f2 (fun i => (g i : Int)) = w at hD hvw
      have hno : decide ((nr : Int) > (na : Int)) = false := decide_eq_false (by omega)
      refine ⟨T9d 0, _, rfl, (b9d01 p p2 n c na nr v w f f2 g pa pr R).mpr ⟨hA, rfl, hB, rfl, by rw [hno], hC, rfl, fun hv => ⟨hD, rfl, fun hw => ?_, fun _ => hR⟩, fun _ => hR⟩⟩
      rw [hvw hv] at hw
      cases hw
  · exact ⟨T9d 0, _, rfl, (b9d02 p p2 n c (mvs n f) (mvs n f2) (natL n g) R).mpr hR⟩
theorem loop9d1 (h : HOK p n f) (q : Quick p n f p2 f2) (hg : ∀ i, i < n → g i < 7) : LoopOW Try.prog none p9c (T9d 1) (h9d p p2 n c (mvs n f) (mvs n f2) (natL n g) 0) (.exit 4) (T9d 1) (h9d p p2 n c (mvs n f) (mvs n f2) (natL n g) 2) := by
  have hok := okH_of h
  have h2 := q.hok h
  have hok2 := okH_of h2
  have h7 := h.n7
  refine loop_forW (Ts := [T9d 1]) (k := 19) (n := 2) (e := .exit 4) (st := fun i => (0, h9d p p2 n c (mvs n f) (mvs n f2) (natL n g) i)) rfl vx_sound ?_ (by rw [nglob]; omega) ⟨by simp, trivial⟩ (fun i _ => cl9d i) (fun i hi R hR => ?_) (fun R hR => ?_) rfl (Nat.le_of_ble_eq_true rfl) (by decide) rfl
  · intro T hT; simp only [List.mem_singleton] at hT; subst hT; rfl
  · have hi' : i = 0 ∨ i = 1 := by omega
    rcases hi' with rfl | rfl
    · obtain ⟨pa, hA⟩ := C24any (p := p) (n := n) (c := c) (f := f) true hok
      obtain ⟨pr, hB⟩ := C24any (p := p2) (n := n) (c := n) (f := f2) true hok2
      have hC := C27_ok true p n c n n f g hok (okP_nat hg) h7 h7
      have hD := C27_ok true p2 n n n n f2 g hok2 (okP_nat hg) h7 h7
      have hle := quick_few h q true
      have hvw := right_quick (sure := true) (g := g) h q
      generalize fewH true p n f = na at hA hle
      generalize fewH true p2 n f2 = nr at hB hle
      generalize rightB true p n n f (fun i => (g i : Int)) = v at hC hvw
      generalize rightB true p2 n n f2 (fun i => (g i : Int)) = w at hD hvw
      have hno : decide ((nr : Int) > (na : Int)) = false := decide_eq_false (by omega)
      refine ⟨T9d 1, _, rfl, (b9d10 p p2 n c na nr v w f f2 g pa pr R).mpr ⟨hA, rfl, hB, rfl, by rw [hno], hC, rfl, fun hv => ⟨hD, rfl, fun hw => ?_, fun _ => hR⟩, fun _ => hR⟩⟩
      rw [hvw hv] at hw
      cases hw
    · obtain ⟨pa, hA⟩ := C24any (p := p) (n := n) (c := c) (f := f) false hok
      obtain ⟨pr, hB⟩ := C24any (p := p2) (n := n) (c := n) (f := f2) false hok2
      have hC := C27_ok false p n c n n f g hok (okP_nat hg) h7 h7
      have hD := C27_ok false p2 n n n n f2 g hok2 (okP_nat hg) h7 h7
      have hle := quick_few h q false
      have hvw := right_quick (sure := false) (g := g) h q
      generalize fewH false p n f = na at hA hle
      generalize fewH false p2 n f2 = nr at hB hle
      generalize rightB false p n n f (fun i => (g i : Int)) = v at hC hvw
      generalize rightB false p2 n n f2 (fun i => (g i : Int)) = w at hD hvw
      have hno : decide ((nr : Int) > (na : Int)) = false := decide_eq_false (by omega)
      refine ⟨T9d 1, _, rfl, (b9d11 p p2 n c na nr v w f f2 g pa pr R).mpr ⟨hA, rfl, hB, rfl, by rw [hno], hC, rfl, fun hv => ⟨hD, rfl, fun hw => ?_, fun _ => hR⟩, fun _ => hR⟩⟩
      rw [hvw hv] at hw
      cases hw
  · exact ⟨T9d 1, _, rfl, (b9d12 p p2 n c (mvs n f) (mvs n f2) (natL n g) R).mpr hR⟩
end
end Go.Ab
set_option maxRecDepth 100000
namespace Go.Ab
open Go Go.RowKit Go.Proofs
end Go.Ab
set_option maxRecDepth 100000
namespace Go.Ab
open Go Go.RowKit Go.Proofs
end Go.Ab
