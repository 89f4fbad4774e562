/- package horse: how late moves begin: its loop. -/
import Derived.Test.YtamfplmmfbbabaaVE
set_option maxRecDepth 100000
namespace Go.Ab
open Go Go.RowKit Go.Proofs
theorem b70tn (p : Int) (n c d i : Nat) (f : Nat → Mv) (g : Nat → Int) (σ : Nat → Nat) (ps ls js : List Value) (es es' : List (Value × Value)) (R : Nat → AExit → Hw → Prop) : (vx.code none (.l p70) (leafW [T70 true] R) ((T70 true).inst ⟨⟨[I n, I i, I p], [(n, d), (n, n), (n, n), (n, c)]⟩, [ps, ls, js], [es]⟩) ([(0, .split ((1, .val (.pointer (.some ⟨((5 : Nat)), ((0 : Nat) + i * (5 : Nat)), .none⟩))) :: (0, .val (.agg ⟨[(.int .i64 ((f (σ i)).at_)), (.int .i64 ((f (σ i)).place)), (.int .i64 ((f (σ i)).lo)), (.int .i64 ((f (σ i)).hi)), (.int .i64 ((↑(σ i) : Int)))]⟩)) :: (5, .val (.pointer (.some ⟨((1 : Nat)), ((0 : Nat) + (↑(σ i) : Int).toNat * (1 : Nat)), .none⟩))) :: (0, .val (.int .i64 (g (↑(σ i) : Int).toNat))) :: (7, .val (.tuple ⟨[(.agg ⟨[(.int .i64 0), (.int .i64 0), (.int .i64 0), (.int .i64 0), (.int .i64 0), (.int .i64 0)]⟩), (.bool false)]⟩)) :: (16, .val (.pointer (.some ⟨((4 : Nat)), ((0 : Nat) + (↑(σ i) : Int).toNat * (1 : Nat)), .none⟩))) :: (0, Hint.st) :: (15, Hint.again) :: (2, Hint.mset es') :: [(2, .tm 0 [])]) ([(1, .tm 0 [])]))])) =
((((decide ((↑i : Int) < (↑n : Int))) = true → ((((((0 : Int) ≤ (↑i : Int))) ∧ (((↑i : Int) < (↑n : Int)))) ∧ (((.pointer (.some ⟨((5 : Nat)), ((0 : Nat) + i * (5 : Nat)), .none⟩)) : Value) = (.pointer (.some ⟨((5 : Nat)), ((0 : Nat) + i * (5 : Nat)), .none⟩)))) ∧
(((((0 : Nat) + i * (5 : Nat) + (5 : Nat) ≤ js.length)) ∧ (((.agg ⟨[(.int .i64 ((f (σ i)).at_)), (.int .i64 ((f (σ i)).place)), (.int .i64 ((f (σ i)).lo)), (.int .i64 ((f (σ i)).hi)), (.int .i64 ((↑(σ i) : Int)))]⟩) : Value) = (.agg ⟨(List.take ((5 : Nat)) (List.drop ((0 : Nat) + i * (5 : Nat)) (js)))⟩))) ∧
((((((0 : Int) ≤ (↑(σ i) : Int))) ∧ (((↑(σ i) : Int) < (↑n : Int)))) ∧ (((.pointer (.some ⟨((1 : Nat)), ((0 : Nat) + (↑(σ i) : Int).toNat * (1 : Nat)), .none⟩)) : Value) = (.pointer (.some ⟨((1 : Nat)), ((0 : Nat) + (↑(σ i) : Int).toNat * (1 : Nat)), .none⟩)))) ∧
(((ps[(0 : Nat) + (↑(σ i) : Int).toNat * (1 : Nat)]? = some (.int .i64 (g (↑(σ i) : Int).toNat)))) ∧
((LookC Try.prog (OfNat.ofNat (3 : Nat)) (.agg ⟨[(.int .i64 0), (.int .i64 0), (.int .i64 0), (.int .i64 0), (.int .i64 0), (.int .i64 0)]⟩) (es) (.int .i64 (g (↑(σ i) : Int).toNat)) true (.tuple ⟨[(.agg ⟨[(.int .i64 0), (.int .i64 0), (.int .i64 0), (.int .i64 0), (.int .i64 0), (.int .i64 0)]⟩), (.bool false)]⟩)) ∧
((((((0 : Int) ≤ (↑(σ i) : Int))) ∧ (((↑(σ i) : Int) < (↑n : Int)))) ∧ (((.pointer (.some ⟨((4 : Nat)), ((0 : Nat) + (↑(σ i) : Int).toNat * (1 : Nat)), .none⟩)) : Value) = (.pointer (.some ⟨((4 : Nat)), ((0 : Nat) + (↑(σ i) : Int).toNat * (1 : Nat)), .none⟩)))) ∧
((((0 : Nat) + (↑(σ i) : Int).toNat * (1 : Nat) + (1 : Nat) ≤ ls.length)) ∧
((((((5 : Nat) ≤ (5 : Nat))) ∧ (((.agg ⟨[(.int .i64 ((f (σ i)).at_)), (.int .i64 ((f (σ i)).place)), (.int .i64 ((f (σ i)).lo)), (.int .i64 ((f (σ i)).hi)), (.int .i64 ((↑(σ i) : Int)))]⟩) : Value) = (.agg ⟨[(.int .i64 ((f (σ i)).at_)), (.int .i64 ((f (σ i)).place)), (.int .i64 ((f (σ i)).lo)), (.int .i64 ((f (σ i)).hi)), (.int .i64 ((↑(σ i) : Int)))]⟩))) ∧ (True)) ∧
((SetC Try.prog (OfNat.ofNat (3 : Nat)) (es) (.int .i64 (g (↑(σ i) : Int).toNat)) (.agg ⟨[(.int .i64 ((f (σ i)).at_)), (.int .i64 ((f (σ i)).place)), (.int .i64 ((f (σ i)).lo)), (.int .i64 ((f (σ i)).hi)), (.int .i64 ((↑(σ i) : Int))), (.int .i64 (IntKind.i64.wrap ((f (σ i)).at_ + (f (σ i)).hi)))]⟩) (es')) ∧
R 0 .normal ⟨⟨[(.int .i64 n), (.int .i64 (IntKind.i64.wrap ((↑i : Int) + (1 : Int)))), (.int .i64 p)], [⟨n, d⟩, ⟨n, n⟩, ⟨n, n⟩, ⟨n, c⟩]⟩, [(ps), (((List.take ((0 : Nat) + (↑(σ i) : Int).toNat * (1 : Nat)) (ls)) ++ [(.int .i64 (IntKind.i64.wrap ((f (σ i)).at_ - (f (σ i)).at_)))]) ++ (List.drop ((0 : Nat) + (↑(σ i) : Int).toNat * (1 : Nat) + (1 : Nat)) (ls))), (js)], [(es')]⟩)))))))))) ∧
((decide ((↑i : Int) < (↑n : Int))) = false → R 0 (.exit ((0 : Nat))) ⟨⟨[(.int .i64 n), (.int .i64 i), (.int .i64 p)], [⟨n, d⟩, ⟨n, n⟩, ⟨n, n⟩, ⟨n, c⟩]⟩, [(ps), (ls), (js)], [(es)]⟩))) := by kernel_rfl
theorem b70ts (p : Int) (n c d i i' : Nat) (mm : Int) (f : Nat → Mv) (g : Nat → Int) (σ : Nat → Nat) (ps ls js : List Value) (es es' : List (Value × Value)) (R : Nat → AExit → Hw → Prop) : (vx.code none (.l p70) (leafW [T70 true] R) ((T70 true).inst ⟨⟨[I n, I i, I p], [(n, d), (n, n), (n, n), (n, c)]⟩, [ps, ls, js], [es]⟩) ([(0, .split ((1, .val (.pointer (.some ⟨((5 : Nat)), ((0 : Nat) + i * (5 : Nat)), .none⟩))) :: (0, .val (.agg ⟨[(.int .i64 ((f (σ i)).at_)), (.int .i64 ((f (σ i)).place)), (.int .i64 ((f (σ i)).lo)), (.int .i64 ((f (σ i)).hi)), (.int .i64 ((↑(σ i) : Int)))]⟩)) :: (5, .val (.pointer (.some ⟨((1 : Nat)), ((0 : Nat) + (↑(σ i) : Int).toNat * (1 : Nat)), .none⟩))) :: (0, .val (.int .i64 (g (↑(σ i) : Int).toNat))) :: (7, .val (.tuple ⟨[(.agg ⟨[(.int .i64 ((f i').at_)), (.int .i64 ((f i').place)), (.int .i64 ((f i').lo)), (.int .i64 ((f i').hi)), (.int .i64 ((↑i' : Int))), (.int .i64 mm)]⟩), (.bool true)]⟩)) :: (40, Hint.again) :: (11, .val (.pointer (.some ⟨((4 : Nat)), ((0 : Nat) + (↑(σ i) : Int).toNat * (1 : Nat)), .none⟩))) :: (0, Hint.st) :: (15, Hint.again) :: (2, Hint.mset es') :: [(2, .tm 0 [])]) ([(1, .tm 0 [])]))])) =
((((decide ((↑i : Int) < (↑n : Int))) = true → ((((((0 : Int) ≤ (↑i : Int))) ∧ (((↑i : Int) < (↑n : Int)))) ∧ (((.pointer (.some ⟨((5 : Nat)), ((0 : Nat) + i * (5 : Nat)), .none⟩)) : Value) = (.pointer (.some ⟨((5 : Nat)), ((0 : Nat) + i * (5 : Nat)), .none⟩)))) ∧
(((((0 : Nat) + i * (5 : Nat) + (5 : Nat) ≤ js.length)) ∧ (((.agg ⟨[(.int .i64 ((f (σ i)).at_)), (.int .i64 ((f (σ i)).place)), (.int .i64 ((f (σ i)).lo)), (.int .i64 ((f (σ i)).hi)), (.int .i64 ((↑(σ i) : Int)))]⟩) : Value) = (.agg ⟨(List.take ((5 : Nat)) (List.drop ((0 : Nat) + i * (5 : Nat)) (js)))⟩))) ∧
((((((0 : Int) ≤ (↑(σ i) : Int))) ∧ (((↑(σ i) : Int) < (↑n : Int)))) ∧ (((.pointer (.some ⟨((1 : Nat)), ((0 : Nat) + (↑(σ i) : Int).toNat * (1 : Nat)), .none⟩)) : Value) = (.pointer (.some ⟨((1 : Nat)), ((0 : Nat) + (↑(σ i) : Int).toNat * (1 : Nat)), .none⟩)))) ∧
(((ps[(0 : Nat) + (↑(σ i) : Int).toNat * (1 : Nat)]? = some (.int .i64 (g (↑(σ i) : Int).toNat)))) ∧
((LookC Try.prog (OfNat.ofNat (3 : Nat)) (.agg ⟨[(.int .i64 0), (.int .i64 0), (.int .i64 0), (.int .i64 0), (.int .i64 0), (.int .i64 0)]⟩) (es) (.int .i64 (g (↑(σ i) : Int).toNat)) true (.tuple ⟨[(.agg ⟨[(.int .i64 ((f i').at_)), (.int .i64 ((f i').place)), (.int .i64 ((f i').lo)), (.int .i64 ((f i').hi)), (.int .i64 ((↑i' : Int))), (.int .i64 mm)]⟩), (.bool true)]⟩)) ∧
(((((some (.int .i64 mm) : Option Value) = some (.int .i64 mm))) ∧ (True)) ∧
((((((0 : Int) ≤ (↑(σ i) : Int))) ∧ (((↑(σ i) : Int) < (↑n : Int)))) ∧ (((.pointer (.some ⟨((4 : Nat)), ((0 : Nat) + (↑(σ i) : Int).toNat * (1 : Nat)), .none⟩)) : Value) = (.pointer (.some ⟨((4 : Nat)), ((0 : Nat) + (↑(σ i) : Int).toNat * (1 : Nat)), .none⟩)))) ∧
((((0 : Nat) + (↑(σ i) : Int).toNat * (1 : Nat) + (1 : Nat) ≤ ls.length)) ∧
((((((5 : Nat) ≤ (5 : Nat))) ∧ (((.agg ⟨[(.int .i64 ((f (σ i)).at_)), (.int .i64 ((f (σ i)).place)), (.int .i64 ((f (σ i)).lo)), (.int .i64 ((f (σ i)).hi)), (.int .i64 ((↑(σ i) : Int)))]⟩) : Value) = (.agg ⟨[(.int .i64 ((f (σ i)).at_)), (.int .i64 ((f (σ i)).place)), (.int .i64 ((f (σ i)).lo)), (.int .i64 ((f (σ i)).hi)), (.int .i64 ((↑(σ i) : Int)))]⟩))) ∧ (True)) ∧
((SetC Try.prog (OfNat.ofNat (3 : Nat)) (es) (.int .i64 (g (↑(σ i) : Int).toNat)) (.agg ⟨[(.int .i64 ((f (σ i)).at_)), (.int .i64 ((f (σ i)).place)), (.int .i64 ((f (σ i)).lo)), (.int .i64 ((f (σ i)).hi)), (.int .i64 ((↑(σ i) : Int))), (.int .i64 (IntKind.i64.wrap ((if IntKind.i64.wrap (mm + IntKind.i64.wrap (p * if IntKind.i64.wrap ((f (σ i)).place - (f i').place) > IntKind.i64.wrap ((f i').place - (f (σ i)).place) then IntKind.i64.wrap ((f (σ i)).place - (f i').place) else IntKind.i64.wrap ((f i').place - (f (σ i)).place))) > (f (σ i)).at_ then IntKind.i64.wrap (mm + IntKind.i64.wrap (p * if IntKind.i64.wrap ((f (σ i)).place - (f i').place) > IntKind.i64.wrap ((f i').place - (f (σ i)).place) then IntKind.i64.wrap ((f (σ i)).place - (f i').place) else IntKind.i64.wrap ((f i').place - (f (σ i)).place))) else (f (σ i)).at_) + (f (σ i)).hi)))]⟩) (es')) ∧
R 0 .normal ⟨⟨[(.int .i64 n), (.int .i64 (IntKind.i64.wrap ((↑i : Int) + (1 : Int)))), (.int .i64 p)], [⟨n, d⟩, ⟨n, n⟩, ⟨n, n⟩, ⟨n, c⟩]⟩, [(ps), (((List.take ((0 : Nat) + (↑(σ i) : Int).toNat * (1 : Nat)) (ls)) ++ [(.int .i64 (IntKind.i64.wrap ((if IntKind.i64.wrap (mm + IntKind.i64.wrap (p * if IntKind.i64.wrap ((f (σ i)).place - (f i').place) > IntKind.i64.wrap ((f i').place - (f (σ i)).place) then IntKind.i64.wrap ((f (σ i)).place - (f i').place) else IntKind.i64.wrap ((f i').place - (f (σ i)).place))) > (f (σ i)).at_ then IntKind.i64.wrap (mm + IntKind.i64.wrap (p * if IntKind.i64.wrap ((f (σ i)).place - (f i').place) > IntKind.i64.wrap ((f i').place - (f (σ i)).place) then IntKind.i64.wrap ((f (σ i)).place - (f i').place) else IntKind.i64.wrap ((f i').place - (f (σ i)).place))) else (f (σ i)).at_) - (f (σ i)).at_)))]) ++ (List.drop ((0 : Nat) + (↑(σ i) : Int).toNat * (1 : Nat) + (1 : Nat)) (ls))), (js)], [(es')]⟩))))))))))) ∧
((decide ((↑i : Int) < (↑n : Int))) = false → R 0 (.exit ((0 : Nat))) ⟨⟨[(.int .i64 n), (.int .i64 i), (.int .i64 p)], [⟨n, d⟩, ⟨n, n⟩, ⟨n, n⟩, ⟨n, c⟩]⟩, [(ps), (ls), (js)], [(es)]⟩))) := by kernel_rfl
theorem b70fn (p : Int) (n c d i : Nat) (f : Nat → Mv) (g : Nat → Int) (σ : Nat → Nat) (ps ls js : List Value) (es es' : List (Value × Value)) (R : Nat → AExit → Hw → Prop) : (vx.code none (.l p70) (leafW [T70 false] R) ((T70 false).inst ⟨⟨[I n, I i, I p], [(n, d), (n, n), (n, n), (n, c)]⟩, [ps, ls, js], [es]⟩) ([(0, .split ((1, .val (.pointer (.some ⟨((5 : Nat)), ((0 : Nat) + i * (5 : Nat)), .none⟩))) :: (0, .val (.agg ⟨[(.int .i64 ((f (σ i)).at_)), (.int .i64 ((f (σ i)).place)), (.int .i64 ((f (σ i)).lo)), (.int .i64 ((f (σ i)).hi)), (.int .i64 ((↑(σ i) : Int)))]⟩)) :: (5, .val (.pointer (.some ⟨((1 : Nat)), ((0 : Nat) + (↑(σ i) : Int).toNat * (1 : Nat)), .none⟩))) :: (0, .val (.int .i64 (g (↑(σ i) : Int).toNat))) :: (7, .val (.tuple ⟨[(.agg ⟨[(.int .i64 0), (.int .i64 0), (.int .i64 0), (.int .i64 0), (.int .i64 0), (.int .i64 0)]⟩), (.bool false)]⟩)) :: (16, .val (.pointer (.some ⟨((4 : Nat)), ((0 : Nat) + (↑(σ i) : Int).toNat * (1 : Nat)), .none⟩))) :: (0, Hint.st) :: (15, Hint.again) :: (2, Hint.mset es') :: [(2, .tm 0 [])]) ([(1, .tm 0 [])]))])) =
((((decide ((↑i : Int) < (↑n : Int))) = true → ((((((0 : Int) ≤ (↑i : Int))) ∧ (((↑i : Int) < (↑n : Int)))) ∧ (((.pointer (.some ⟨((5 : Nat)), ((0 : Nat) + i * (5 : Nat)), .none⟩)) : Value) = (.pointer (.some ⟨((5 : Nat)), ((0 : Nat) + i * (5 : Nat)), .none⟩)))) ∧
(((((0 : Nat) + i * (5 : Nat) + (5 : Nat) ≤ js.length)) ∧ (((.agg ⟨[(.int .i64 ((f (σ i)).at_)), (.int .i64 ((f (σ i)).place)), (.int .i64 ((f (σ i)).lo)), (.int .i64 ((f (σ i)).hi)), (.int .i64 ((↑(σ i) : Int)))]⟩) : Value) = (.agg ⟨(List.take ((5 : Nat)) (List.drop ((0 : Nat) + i * (5 : Nat)) (js)))⟩))) ∧
((((((0 : Int) ≤ (↑(σ i) : Int))) ∧ (((↑(σ i) : Int) < (↑n : Int)))) ∧ (((.pointer (.some ⟨((1 : Nat)), ((0 : Nat) + (↑(σ i) : Int).toNat * (1 : Nat)), .none⟩)) : Value) = (.pointer (.some ⟨((1 : Nat)), ((0 : Nat) + (↑(σ i) : Int).toNat * (1 : Nat)), .none⟩)))) ∧
(((ps[(0 : Nat) + (↑(σ i) : Int).toNat * (1 : Nat)]? = some (.int .i64 (g (↑(σ i) : Int).toNat)))) ∧
((LookC Try.prog (OfNat.ofNat (3 : Nat)) (.agg ⟨[(.int .i64 0), (.int .i64 0), (.int .i64 0), (.int .i64 0), (.int .i64 0), (.int .i64 0)]⟩) (es) (.int .i64 (g (↑(σ i) : Int).toNat)) true (.tuple ⟨[(.agg ⟨[(.int .i64 0), (.int .i64 0), (.int .i64 0), (.int .i64 0), (.int .i64 0), (.int .i64 0)]⟩), (.bool false)]⟩)) ∧
((((((0 : Int) ≤ (↑(σ i) : Int))) ∧ (((↑(σ i) : Int) < (↑n : Int)))) ∧ (((.pointer (.some ⟨((4 : Nat)), ((0 : Nat) + (↑(σ i) : Int).toNat * (1 : Nat)), .none⟩)) : Value) = (.pointer (.some ⟨((4 : Nat)), ((0 : Nat) + (↑(σ i) : Int).toNat * (1 : Nat)), .none⟩)))) ∧
((((0 : Nat) + (↑(σ i) : Int).toNat * (1 : Nat) + (1 : Nat) ≤ ls.length)) ∧
((((((5 : Nat) ≤ (5 : Nat))) ∧ (((.agg ⟨[(.int .i64 ((f (σ i)).at_)), (.int .i64 ((f (σ i)).place)), (.int .i64 ((f (σ i)).lo)), (.int .i64 ((f (σ i)).hi)), (.int .i64 ((↑(σ i) : Int)))]⟩) : Value) = (.agg ⟨[(.int .i64 ((f (σ i)).at_)), (.int .i64 ((f (σ i)).place)), (.int .i64 ((f (σ i)).lo)), (.int .i64 ((f (σ i)).hi)), (.int .i64 ((↑(σ i) : Int)))]⟩))) ∧ (True)) ∧
((SetC Try.prog (OfNat.ofNat (3 : Nat)) (es) (.int .i64 (g (↑(σ i) : Int).toNat)) (.agg ⟨[(.int .i64 ((f (σ i)).at_)), (.int .i64 ((f (σ i)).place)), (.int .i64 ((f (σ i)).lo)), (.int .i64 ((f (σ i)).hi)), (.int .i64 ((↑(σ i) : Int))), (.int .i64 (IntKind.i64.wrap ((f (σ i)).at_ + (f (σ i)).lo)))]⟩) (es')) ∧
R 0 .normal ⟨⟨[(.int .i64 n), (.int .i64 (IntKind.i64.wrap ((↑i : Int) + (1 : Int)))), (.int .i64 p)], [⟨n, d⟩, ⟨n, n⟩, ⟨n, n⟩, ⟨n, c⟩]⟩, [(ps), (((List.take ((0 : Nat) + (↑(σ i) : Int).toNat * (1 : Nat)) (ls)) ++ [(.int .i64 (IntKind.i64.wrap ((f (σ i)).at_ - (f (σ i)).at_)))]) ++ (List.drop ((0 : Nat) + (↑(σ i) : Int).toNat * (1 : Nat) + (1 : Nat)) (ls))), (js)], [(es')]⟩)))))))))) ∧
((decide ((↑i : Int) < (↑n : Int))) = false → R 0 (.exit ((0 : Nat))) ⟨⟨[(.int .i64 n), (.int .i64 i), (.int .i64 p)], [⟨n, d⟩, ⟨n, n⟩, ⟨n, n⟩, ⟨n, c⟩]⟩, [(ps), (ls), (js)], [(es)]⟩))) := by kernel_rfl
theorem b70fs (p : Int) (n c d i i' : Nat) (mm : Int) (f : Nat → Mv) (g : Nat → Int) (σ : Nat → Nat) (ps ls js : List Value) (es es' : List (Value × Value)) (R : Nat → AExit → Hw → Prop) : (vx.code none (.l p70) (leafW [T70 false] R) ((T70 false).inst ⟨⟨[I n, I i, I p], [(n, d), (n, n), (n, n), (n, c)]⟩, [ps, ls, js], [es]⟩) ([(0, .split ((1, .val (.pointer (.some ⟨((5 : Nat)), ((0 : Nat) + i * (5 : Nat)), .none⟩))) :: (0, .val (.agg ⟨[(.int .i64 ((f (σ i)).at_)), (.int .i64 ((f (σ i)).place)), (.int .i64 ((f (σ i)).lo)), (.int .i64 ((f (σ i)).hi)), (.int .i64 ((↑(σ i) : Int)))]⟩)) :: (5, .val (.pointer (.some ⟨((1 : Nat)), ((0 : Nat) + (↑(σ i) : Int).toNat * (1 : Nat)), .none⟩))) :: (0, .val (.int .i64 (g (↑(σ i) : Int).toNat))) :: (7, .val (.tuple ⟨[(.agg ⟨[(.int .i64 ((f i').at_)), (.int .i64 ((f i').place)), (.int .i64 ((f i').lo)), (.int .i64 ((f i').hi)), (.int .i64 ((↑i' : Int))), (.int .i64 mm)]⟩), (.bool true)]⟩)) :: (40, Hint.again) :: (11, .val (.pointer (.some ⟨((4 : Nat)), ((0 : Nat) + (↑(σ i) : Int).toNat * (1 : Nat)), .none⟩))) :: (0, Hint.st) :: (15, Hint.again) :: (2, Hint.mset es') :: [(2, .tm 0 [])]) ([(1, .tm 0 [])]))])) =
((((decide ((↑i : Int) < (↑n : Int))) = true → ((((((0 : Int) ≤ (↑i : Int))) ∧ (((↑i : Int) < (↑n : Int)))) ∧ (((.pointer (.some ⟨((5 : Nat)), ((0 : Nat) + i * (5 : Nat)), .none⟩)) : Value) = (.pointer (.some ⟨((5 : Nat)), ((0 : Nat) + i * (5 : Nat)), .none⟩)))) ∧
(((((0 : Nat) + i * (5 : Nat) + (5 : Nat) ≤ js.length)) ∧ (((.agg ⟨[(.int .i64 ((f (σ i)).at_)), (.int .i64 ((f (σ i)).place)), (.int .i64 ((f (σ i)).lo)), (.int .i64 ((f (σ i)).hi)), (.int .i64 ((↑(σ i) : Int)))]⟩) : Value) = (.agg ⟨(List.take ((5 : Nat)) (List.drop ((0 : Nat) + i * (5 : Nat)) (js)))⟩))) ∧
((((((0 : Int) ≤ (↑(σ i) : Int))) ∧ (((↑(σ i) : Int) < (↑n : Int)))) ∧ (((.pointer (.some ⟨((1 : Nat)), ((0 : Nat) + (↑(σ i) : Int).toNat * (1 : Nat)), .none⟩)) : Value) = (.pointer (.some ⟨((1 : Nat)), ((0 : Nat) + (↑(σ i) : Int).toNat * (1 : Nat)), .none⟩)))) ∧
(((ps[(0 : Nat) + (↑(σ i) : Int).toNat * (1 : Nat)]? = some (.int .i64 (g (↑(σ i) : Int).toNat)))) ∧
((LookC Try.prog (OfNat.ofNat (3 : Nat)) (.agg ⟨[(.int .i64 0), (.int .i64 0), (.int .i64 0), (.int .i64 0), (.int .i64 0), (.int .i64 0)]⟩) (es) (.int .i64 (g (↑(σ i) : Int).toNat)) true (.tuple ⟨[(.agg ⟨[(.int .i64 ((f i').at_)), (.int .i64 ((f i').place)), (.int .i64 ((f i').lo)), (.int .i64 ((f i').hi)), (.int .i64 ((↑i' : Int))), (.int .i64 mm)]⟩), (.bool true)]⟩)) ∧
(((((some (.int .i64 mm) : Option Value) = some (.int .i64 mm))) ∧ (True)) ∧
((((((0 : Int) ≤ (↑(σ i) : Int))) ∧ (((↑(σ i) : Int) < (↑n : Int)))) ∧ (((.pointer (.some ⟨((4 : Nat)), ((0 : Nat) + (↑(σ i) : Int).toNat * (1 : Nat)), .none⟩)) : Value) = (.pointer (.some ⟨((4 : Nat)), ((0 : Nat) + (↑(σ i) : Int).toNat * (1 : Nat)), .none⟩)))) ∧
((((0 : Nat) + (↑(σ i) : Int).toNat * (1 : Nat) + (1 : Nat) ≤ ls.length)) ∧
((((((5 : Nat) ≤ (5 : Nat))) ∧ (((.agg ⟨[(.int .i64 ((f (σ i)).at_)), (.int .i64 ((f (σ i)).place)), (.int .i64 ((f (σ i)).lo)), (.int .i64 ((f (σ i)).hi)), (.int .i64 ((↑(σ i) : Int)))]⟩) : Value) = (.agg ⟨[(.int .i64 ((f (σ i)).at_)), (.int .i64 ((f (σ i)).place)), (.int .i64 ((f (σ i)).lo)), (.int .i64 ((f (σ i)).hi)), (.int .i64 ((↑(σ i) : Int)))]⟩))) ∧ (True)) ∧
((SetC Try.prog (OfNat.ofNat (3 : Nat)) (es) (.int .i64 (g (↑(σ i) : Int).toNat)) (.agg ⟨[(.int .i64 ((f (σ i)).at_)), (.int .i64 ((f (σ i)).place)), (.int .i64 ((f (σ i)).lo)), (.int .i64 ((f (σ i)).hi)), (.int .i64 ((↑(σ i) : Int))), (.int .i64 (IntKind.i64.wrap ((if IntKind.i64.wrap (mm + IntKind.i64.wrap (p * if IntKind.i64.wrap ((f (σ i)).place - (f i').place) > IntKind.i64.wrap ((f i').place - (f (σ i)).place) then IntKind.i64.wrap ((f (σ i)).place - (f i').place) else IntKind.i64.wrap ((f i').place - (f (σ i)).place))) > (f (σ i)).at_ then IntKind.i64.wrap (mm + IntKind.i64.wrap (p * if IntKind.i64.wrap ((f (σ i)).place - (f i').place) > IntKind.i64.wrap ((f i').place - (f (σ i)).place) then IntKind.i64.wrap ((f (σ i)).place - (f i').place) else IntKind.i64.wrap ((f i').place - (f (σ i)).place))) else (f (σ i)).at_) + (f (σ i)).lo)))]⟩) (es')) ∧
R 0 .normal ⟨⟨[(.int .i64 n), (.int .i64 (IntKind.i64.wrap ((↑i : Int) + (1 : Int)))), (.int .i64 p)], [⟨n, d⟩, ⟨n, n⟩, ⟨n, n⟩, ⟨n, c⟩]⟩, [(ps), (((List.take ((0 : Nat) + (↑(σ i) : Int).toNat * (1 : Nat)) (ls)) ++ [(.int .i64 (IntKind.i64.wrap ((if IntKind.i64.wrap (mm + IntKind.i64.wrap (p * if IntKind.i64.wrap ((f (σ i)).place - (f i').place) > IntKind.i64.wrap ((f i').place - (f (σ i)).place) then IntKind.i64.wrap ((f (σ i)).place - (f i').place) else IntKind.i64.wrap ((f i').place - (f (σ i)).place))) > (f (σ i)).at_ then IntKind.i64.wrap (mm + IntKind.i64.wrap (p * if IntKind.i64.wrap ((f (σ i)).place - (f i').place) > IntKind.i64.wrap ((f i').place - (f (σ i)).place) then IntKind.i64.wrap ((f (σ i)).place - (f i').place) else IntKind.i64.wrap ((f i').place - (f (σ i)).place))) else (f (σ i)).at_) - (f (σ i)).at_)))]) ++ (List.drop ((0 : Nat) + (↑(σ i) : Int).toNat * (1 : Nat) + (1 : Nat)) (ls))), (js)], [(es')]⟩))))))))))) ∧
((decide ((↑i : Int) < (↑n : Int))) = false → R 0 (.exit ((0 : Nat))) ⟨⟨[(.int .i64 n), (.int .i64 i), (.int .i64 p)], [⟨n, d⟩, ⟨n, n⟩, ⟨n, n⟩, ⟨n, c⟩]⟩, [(ps), (ls), (js)], [(es)]⟩))) := by kernel_rfl
theorem okH_mv {p : Int} {n : Nat} {f : Nat → Mv} (h : okH p n f = true) : ∀ i, i < n → okMv (f i) = true := fun i hi => by
  simp only [okH, Bool.and_eq_true] at h
  exact allFrom_iff _ n 0 h.2.2.2 i (by omega) (by omega)
def lgS (sure : Bool) (f : Nat → Mv) (i : Nat) : Int := cond sure (f i).hi (f i).lo
theorem lgS_le {p : Int} {n : Nat} {f : Nat → Mv} (h : okH p n f = true) (sure : Bool) : ∀ i, i < n → 0 ≤ lgS sure f i ∧ lgS sure f i ≤ 20 := fun i hi => by
  have h1 := (okH_iff h).mv i hi
  have := h1.lo1; have := h1.lohi; have := h1.hi1
  cases sure <;> simp only [lgS, cond_true, cond_false] <;> omega
theorem walkW {p : Int} {a b : Mv} (hp : 0 ≤ p ∧ p ≤ 3) (ha : MvOK a) (hb : MvOK b) :
    IntKind.i64.wrap (p * if IntKind.i64.wrap (b.place - a.place) > IntKind.i64.wrap (a.place - b.place) then IntKind.i64.wrap (b.place - a.place) else IntKind.i64.wrap (a.place - b.place)) = wkI p a b := by
  have a1 := ha.pl0; have a2 := ha.pl1; have b1 := hb.pl0; have b2 := hb.pl1
  have e1 : IntKind.i64.wrap (b.place - a.place) = b.place - a.place := wrapI (by omega) (by omega)
  have e2 : IntKind.i64.wrap (a.place - b.place) = a.place - b.place := wrapI (by omega) (by omega)
  rw [e1, e2]
  have hw := wkI_le hp ⟨a1, a2⟩ ⟨b1, b2⟩
  have e3 : (if b.place - a.place > a.place - b.place then b.place - a.place else a.place - b.place) = (if a.place - b.place < 0 then b.place - a.place else a.place - b.place) := by split <;> split <;> omega
  rw [e3]
  exact wrapI (by unfold wkI at hw; omega) (by unfold wkI at hw; omega)
noncomputable def encL (f : Nat → Mv) (lg : Nat → Int) (x : Nat × Int) : Value := finV f x.1 (x.2 + lg x.1)
theorem encL_cl (f : Nat → Mv) (lg : Nat → Int) (x : Nat × Int) : cl 50 (encL f lg x) = true := rfl
noncomputable def h70 (sure : Bool) (p : Int) (n c d : Nat) (f : Nat → Mv) (g : Nat → Int) (i : Nat) : Hw :=
  ⟨⟨[I n, I i, I p], [(n, d), (n, n), (n, n), (n, c)]⟩, [ints n g, ints n (lateF p f g (lgS sure f) (srt (atF f) n) i), ordC n f (srt (atF f) n)], [encM (encL f (lgS sure f)) (prc p f g (lgS sure f) (srt (atF f) n) i).M]⟩
theorem h70_cl (sure : Bool) (p : Int) (n c d : Nat) (f : Nat → Mv) (g : Nat → Int) (i : Nat) : ClW (h70 sure p n c d f g i) := by
  refine ⟨fun cs hcs => ?_, fun es hes => ?_⟩
  · simp only [h70, List.mem_cons, List.not_mem_nil, or_false] at hcs
    rcases hcs with rfl | rfl | rfl
    · exact ints_atom n _
    · exact ints_atom n _
    · exact ordC_atoms n f _
  · simp only [h70, List.mem_singleton] at hes
    subst hes
    exact encM_cl (encL_cl f _) _
theorem round70 (sure : Bool) {p : Int} {n c d : Nat} {f : Nat → Mv} {g : Nat → Int} {i : Nat} (hok : okH p n f = true) (hi : i < n) {R : Nat → AExit → Hw → Prop} (hR : R 0 .normal (h70 sure p n c d f g (i + 1))) :
    ∃ hs, vx.code none (.l p70) (leafW [T70 sure] R) ((T70 sure).inst (h70 sure p n c d f g i)) hs := by
  have hH := okH_iff hok
  have h7 := hH.n7
  have hp : 0 ≤ p ∧ p ≤ 3 := ⟨hH.p0, hH.p3⟩
  have hs := srt_ok (atF f) n
  generalize hσ : srt (atF f) n = σ at hs
  have hP := prc_ok (g := g) hs hp (okH_mv hok) (lgS_le hok sure) i (by omega)
  have hall := hP.all
  have hj := hs.lt i hi
  have hm := hH.mv (σ i) hj
  have a1 := hm.at0; have a2 := hm.at1
  have hl := lgS_le hok sure (σ i) hj
  have hb := begI_le hP hp (okH_mv hok) (lgS_le hok sure) hj (g (σ i))
  have hw : IntKind.i64.wrap ((i : Int) + 1) = ((i + 1 : Nat) : Int) := wrapI (by omega) (by omega)
  simp only [h70, hσ, lateF_succ, prc] at hR
  simp only [h70, hσ]
  have e4 := ints_put (n := n) (lateF p f g (lgS sure f) σ i) (begI p f (lgS sure f) (σ i) (getA (prc p f g (lgS sure f) σ i).M (g (σ i))) - (f (σ i)).at_) hj
  rw [← e4] at hR
  have hset := setC_enc (encL f (lgS sure f)) (prc p f g (lgS sure f) σ i).M (g (σ i)) (σ i, begI p f (lgS sure f) (σ i) (getA (prc p f g (lgS sure f) σ i).M (g (σ i))))
  have hlook := fun (z v : Value) hv => lookC_enc (encL f (lgS sure f)) (prc p f g (lgS sure f) σ i).M (g (σ i)) (z := z) (v := v) (ok := true) hv
  generalize (prc p f g (lgS sure f) σ i).M = M at hR hset hlook hb hall
  have l1 := flatC_bound (k := 5) hi
  cases hg : getA M (g (σ i)) with
  | none =>
    rw [hg] at hR hset hlook
    simp only [begI, encL] at hR hset
    have w1 : IntKind.i64.wrap ((f (σ i)).at_ + lgS sure f (σ i)) = (f (σ i)).at_ + lgS sure f (σ i) := wrapI (by omega) (by omega)
    have w2 : IntKind.i64.wrap ((f (σ i)).at_ - (f (σ i)).at_) = (f (σ i)).at_ - (f (σ i)).at_ := wrapI (by omega) (by omega)
    cases sure
    · simp only [lgS, cond_false] at w1
      refine ⟨_, (b70fn p n c d i f g σ (ints n g) (ints n (lateF p f g (lgS false f) σ i)) (ordC n f σ) (encM (encL f (lgS false f)) M) (encM (encL f (lgS false f)) (setA M (g (σ i)) (σ i, (f (σ i)).at_))) R).mpr ⟨fun _ => ?_, fun h => absurd hi (by simpa using h)⟩⟩
      simp only [Int.toNat_natCast]
      rw [hw, w1, w2]
      repeat' (first | with_reducible apply And.intro | with_reducible intro)
      all_goals first
        | trivial
        | omega
        | rfl
        | (rw [ordC_len]; omega)
        | (rw [ordC_part f σ hi]; rfl)
        | exact ints_get g hj
        | exact hlook _ _ rfl
        | (rw [ints_len]; omega)
        | exact hset
        | exact hR
    · simp only [lgS, cond_true] at w1
      refine ⟨_, (b70tn p n c d i f g σ (ints n g) (ints n (lateF p f g (lgS true f) σ i)) (ordC n f σ) (encM (encL f (lgS true f)) M) (encM (encL f (lgS true f)) (setA M (g (σ i)) (σ i, (f (σ i)).at_))) R).mpr ⟨fun _ => ?_, fun h => absurd hi (by simpa using h)⟩⟩
      simp only [Int.toNat_natCast]
      rw [hw, w1, w2]
      repeat' (first | with_reducible apply And.intro | with_reducible intro)
      all_goals first
        | trivial
        | omega
        | rfl
        | (rw [ordC_len]; omega)
        | (rw [ordC_part f σ hi]; rfl)
        | exact ints_get g hj
        | exact hlook _ _ rfl
        | (rw [ints_len]; omega)
        | exact hset
        | exact hR
  | some x =>
    obtain ⟨x1, x2, x3, x4, x5⟩ := hall _ x hg
    obtain ⟨i', b'⟩ := x
    simp only at x1 x4 x5
    have hl' := lgS_le hok sure i' x1
    have hwk := walkW hp (hH.mv i' x1) hm
    have hwl := wkI_le hp ⟨(hH.mv i' x1).pl0, (hH.mv i' x1).pl1⟩ ⟨hm.pl0, hm.pl1⟩
    have w0 : IntKind.i64.wrap (b' + lgS sure f i' + wkI p (f i') (f (σ i))) = b' + lgS sure f i' + wkI p (f i') (f (σ i)) := wrapI (by omega) (by omega)
    rw [hg] at hR hset hlook hb
    have hdef : (if b' + lgS sure f i' + wkI p (f i') (f (σ i)) > (f (σ i)).at_ then b' + lgS sure f i' + wkI p (f i') (f (σ i)) else (f (σ i)).at_) = begI p f (lgS sure f) (σ i) (some (i', b')) := rfl
    generalize begI p f (lgS sure f) (σ i) (some (i', b')) = B at hR hset hb hdef
    have w1 : IntKind.i64.wrap (B + lgS sure f (σ i)) = B + lgS sure f (σ i) := wrapI (by omega) (by omega)
    have w2 : IntKind.i64.wrap (B - (f (σ i)).at_) = B - (f (σ i)).at_ := wrapI (by omega) (by omega)
    simp only [encL] at hset
    cases sure
    · refine ⟨_, (b70fs p n c d i i' (b' + lgS false f i') f g σ (ints n g) (ints n (lateF p f g (lgS false f) σ i)) (ordC n f σ) (encM (encL f (lgS false f)) M) (encM (encL f (lgS false f)) (setA M (g (σ i)) (σ i, B))) R).mpr ⟨fun _ => ?_, fun h => absurd hi (by simpa using h)⟩⟩
      simp only [Int.toNat_natCast]
      have w1' : IntKind.i64.wrap (B + (f (σ i)).lo) = B + (f (σ i)).lo := w1
      rw [hw, hwk, w0, hdef, w1', w2]
      repeat' (first | with_reducible apply And.intro | with_reducible intro)
      all_goals first
        | trivial
        | omega
        | rfl
        | (rw [ordC_len]; omega)
        | (rw [ordC_part f σ hi]; rfl)
        | exact ints_get g hj
        | exact hlook _ _ rfl
        | (rw [ints_len]; omega)
        | exact hset
        | exact hR
    · refine ⟨_, (b70ts p n c d i i' (b' + lgS true f i') f g σ (ints n g) (ints n (lateF p f g (lgS true f) σ i)) (ordC n f σ) (encM (encL f (lgS true f)) M) (encM (encL f (lgS true f)) (setA M (g (σ i)) (σ i, B))) R).mpr ⟨fun _ => ?_, fun h => absurd hi (by simpa using h)⟩⟩
      simp only [Int.toNat_natCast]
      have w1' : IntKind.i64.wrap (B + (f (σ i)).hi) = B + (f (σ i)).hi := w1
      rw [hw, hwk, w0, hdef, w1', w2]
      repeat' (first | with_reducible apply And.intro | with_reducible intro)
      all_goals first
        | trivial
        | omega
        | rfl
        | (rw [ordC_len]; omega)
        | (rw [ordC_part f σ hi]; rfl)
        | exact ints_get g hj
        | exact hlook _ _ rfl
        | (rw [ints_len]; omega)
        | exact hset
        | exact hR
theorem loop70 (sure : Bool) {p : Int} {n c d : Nat} {f : Nat → Mv} {g : Nat → Int} (hok : okH p n f = true) : LoopOW Try.prog none p70 (T70 sure) (h70 sure p n c d f g 0) (.exit 0) (T70 sure) (h70 sure p n c d f g n) := by
  have h7 := (okH_iff hok).n7
  refine loop_forW (Ts := [T70 sure]) (k := 6) (n := n) (st := fun i => (0, h70 sure p n c d f g i)) (e := .exit 0) rfl vx_sound (by intro T hT; simp only [List.mem_singleton] at hT; subst hT; rfl) (by rw [nglob]; omega) ⟨by simp, trivial⟩ (fun i hi => h70_cl sure p n c d f g i)
    (fun i hi R hR => ?_) (fun R hR => ?_) (T0 := T70 sure) (T1 := T70 sure) rfl (Nat.le_of_ble_eq_true rfl) (by decide) rfl
  · obtain ⟨hs, h⟩ := round70 sure hok hi hR
    exact ⟨T70 sure, hs, rfl, h⟩
  · cases sure
    · exact ⟨T70 false, _, rfl, (b70fn p n c d n f g (fun i => i) (ints n g) _ _ _ [] R).mpr ⟨fun h => absurd (of_decide_eq_true h) (by omega), fun _ => hR⟩⟩
    · exact ⟨T70 true, _, rfl, (b70tn p n c d n f g (fun i => i) (ints n g) _ _ _ [] R).mpr ⟨fun h => absurd (of_decide_eq_true h) (by omega), fun _ => hR⟩⟩
theorem f70t (p : Int) (n c d : Nat) (f : Nat → Mv) (ps ls js : List Value) (es : List (Value × Value)) (R : Hx → Prop) : (vx.call 70 [hV p n c, slV 1 n d, .iface (trI true) (.agg ⟨[]⟩)] (retN (rowT 2 3) R) (m2 (mvs n f) ps) ((7, Hint.mk n (ints n fun _ => (0 : Int))) :: (2, Hint.conN (C91 p n c f)) :: (2, Hint.loopW (T70 true) (AExit.exit (0 : Nat)) (T70 true) fun _ => { hs := { vs := [I (↑n : Int), I (↑n : Int), I p], ns := [(n, d), (n, n), (n, n), (n, c)] }, ls := [ps, ls, js], es := [es] }) :: [(2, Hint.tm (0 : Nat) [((2 : Nat), (4 : Nat))])])) =
(((((((↑n : Int) = (↑n : Int))) ∧ (((↑n : Int) = (↑n : Int)))) ∧ (((((↑n : Int) ≤ (2 : Int) ^ (40 : Nat))) ∧ (((↑(8 : Nat) : Int) * (↑n : Int) ≤ (2 : Int) ^ (48 : Nat)))) ∧ ((zCells [Value.int .i64 (0 : Int)] (n * (1 : Nat)) = ints n fun _ => (0 : Int))))) ∧
((ConNOK Try.prog 91 (C91 p n c f)) ∧ (ConN.pre (C91 p n c f) ⟨⟨[(.int .i64 p)], [⟨n, c⟩]⟩, [(mvs n f)]⟩) ∧
((ClW ⟨⟨[(.int .i64 n), (.int .i64 0), (.int .i64 p)], [⟨n, d⟩, ⟨n, n⟩, ⟨n, n⟩, ⟨n, c⟩]⟩, [(ps), (ints n fun _ => (0 : Int)), (ordC n f (srt (atF f) n))], [[]]⟩) ∧ (LoopOW Try.prog .none p70 (T70 true) ⟨⟨[(.int .i64 n), (.int .i64 0), (.int .i64 p)], [⟨n, d⟩, ⟨n, n⟩, ⟨n, n⟩, ⟨n, c⟩]⟩, [(ps), (ints n fun _ => (0 : Int)), (ordC n f (srt (atF f) n))], [[]]⟩ (.exit ((0 : Nat))) (T70 true) ⟨⟨[(.int .i64 n), (.int .i64 n), (.int .i64 p)], [⟨n, d⟩, ⟨n, n⟩, ⟨n, n⟩, ⟨n, c⟩]⟩, [(ps), (ls), (js)], [(es)]⟩) ∧
R ⟨⟨[], [⟨n, n⟩]⟩, [(ls)]⟩)))) := by kernel_rfl
theorem f70f (p : Int) (n c d : Nat) (f : Nat → Mv) (ps ls js : List Value) (es : List (Value × Value)) (R : Hx → Prop) : (vx.call 70 [hV p n c, slV 1 n d, .iface (trI false) (.agg ⟨[]⟩)] (retN (rowT 2 3) R) (m2 (mvs n f) ps) ((7, Hint.mk n (ints n fun _ => (0 : Int))) :: (2, Hint.conN (C91 p n c f)) :: (2, Hint.loopW (T70 false) (AExit.exit (0 : Nat)) (T70 false) fun _ => { hs := { vs := [I (↑n : Int), I (↑n : Int), I p], ns := [(n, d), (n, n), (n, n), (n, c)] }, ls := [ps, ls, js], es := [es] }) :: [(2, Hint.tm (0 : Nat) [((2 : Nat), (4 : Nat))])])) =
(((((((↑n : Int) = (↑n : Int))) ∧ (((↑n : Int) = (↑n : Int)))) ∧ (((((↑n : Int) ≤ (2 : Int) ^ (40 : Nat))) ∧ (((↑(8 : Nat) : Int) * (↑n : Int) ≤ (2 : Int) ^ (48 : Nat)))) ∧ ((zCells [Value.int .i64 (0 : Int)] (n * (1 : Nat)) = ints n fun _ => (0 : Int))))) ∧
((ConNOK Try.prog 91 (C91 p n c f)) ∧ (ConN.pre (C91 p n c f) ⟨⟨[(.int .i64 p)], [⟨n, c⟩]⟩, [(mvs n f)]⟩) ∧
((ClW ⟨⟨[(.int .i64 n), (.int .i64 0), (.int .i64 p)], [⟨n, d⟩, ⟨n, n⟩, ⟨n, n⟩, ⟨n, c⟩]⟩, [(ps), (ints n fun _ => (0 : Int)), (ordC n f (srt (atF f) n))], [[]]⟩) ∧ (LoopOW Try.prog .none p70 (T70 false) ⟨⟨[(.int .i64 n), (.int .i64 0), (.int .i64 p)], [⟨n, d⟩, ⟨n, n⟩, ⟨n, n⟩, ⟨n, c⟩]⟩, [(ps), (ints n fun _ => (0 : Int)), (ordC n f (srt (atF f) n))], [[]]⟩ (.exit ((0 : Nat))) (T70 false) ⟨⟨[(.int .i64 n), (.int .i64 n), (.int .i64 p)], [⟨n, d⟩, ⟨n, n⟩, ⟨n, n⟩, ⟨n, c⟩]⟩, [(ps), (ls), (js)], [(es)]⟩) ∧
R ⟨⟨[], [⟨n, n⟩]⟩, [(ls)]⟩)))) := by kernel_rfl
theorem ints_cons (n : Nat) (g : Nat → Int) : ints n g = (List.range n).map fun i => I (g i) := by
  simp only [ints, flatC]
  exact List.map_eq_flatMap.symm
theorem zCells_ints (n : Nat) : zCells [Value.int .i64 (0 : Int)] (n * 1) = ints n fun _ => (0 : Int) := by
  rw [Nat.mul_one, ints_cons]
  simp only [zCells, List.length_singleton, Nat.mod_one]
  rfl
noncomputable def latS (sure : Bool) (p : Int) (n : Nat) (f : Nat → Mv) (g : Nat → Int) : Nat → Int := lateF p f g (lgS sure f) (srt (atF f) n) n
noncomputable def C70 (sure : Bool) (p : Int) (n c d : Nat) (f : Nat → Mv) (g : Nat → Int) : ConN where
  A := .agg (.hole (.slice 0 0 .nil)) (.slice 1 0 (.iface (trI sure) (.agg .nil .nil) .nil))
  bs := [.list 1 .ro, .list 3 .ro]
  pre x := x = ⟨⟨[I p], [(n, c), (n, d)]⟩, [mvs n f, ints n g]⟩
  news _ := [(ints n (latS sure p n f g), 3)]
  one := true
  res _ := [.sl 0 n]
theorem C70_ok (sure : Bool) (p : Int) (n c d : Nat) (f : Nat → Mv) (g : Nat → Int) (h0 : 0 < n) (hok : okH p n f = true) : ConNOK Try.prog 70 (C70 sure p n c d f g) := by
  have h7 := (okH_iff hok).n7
  have hl := loop70 sure (c := c) (d := d) (g := g) hok
  have hc := h70_cl sure p n c d f g 0
  have e0 : lateF p f g (lgS sure f) (srt (atF f) n) 0 = fun _ => 0 := by funext i; simp [lateF, doneB]
  simp only [h70, e0] at hl hc
  refine conRow_of rfl vx_sound (C := C70 sure p n c d f g) (n := n) (cells := ints n (latS sure p n f g)) (e := 3) ⟨⟨[I p], [(n, c), (n, d)]⟩, [mvs n f, ints n g]⟩ (fun x => Iff.rfl) rfl rfl rfl ?_ ?_ (ints_atom n _) rfl (Nat.le_of_ble_eq_true rfl) (by rw [nglob]; exact Nat.zero_le _)
  · cases sure
    · exact ⟨_, (f70f p n c d f (ints n g) (ints n (latS false p n f g)) (ordC n f (srt (atF f) n)) (encM (encL f (lgS false f)) (prc p f g (lgS false f) (srt (atF f) n) n).M) _).mpr ⟨⟨⟨rfl, rfl⟩, ⟨by omega, by omega⟩, zCells_ints n⟩, C91_ok p n c f h0 h7, rfl, hc, hl, rfl⟩⟩
    · exact ⟨_, (f70t p n c d f (ints n g) (ints n (latS true p n f g)) (ordC n f (srt (atF f) n)) (encM (encL f (lgS true f)) (prc p f g (lgS true f) (srt (atF f) n) n).M) _).mpr ⟨⟨⟨rfl, rfl⟩, ⟨by omega, by omega⟩, zCells_ints n⟩, C91_ok p n c f h0 h7, rfl, hc, hl, rfl⟩⟩
  · intro cs hcs
    simp only [List.mem_cons, List.not_mem_nil, or_false] at hcs
    rcases hcs with rfl | rfl
    · exact mvs_atoms n f _ (by simp)
    · exact ints_atoms n g _ (by simp)
end Go.Ab
set_option maxRecDepth 100000
namespace Go.Ab
open Go Go.RowKit Go.Proofs
def p40 : Loc := .l (.r (.l (.r (.r (.r (.top 40))))))
noncomputable def T40a : Tw := ⟨38, mkS 38 [(5, .slice 3 0 .nil), (6, .slice 4 0 .nil), (7, .val nilS .nil), (20, .hole .nil), (21, .hole .nil)], 5, [.dead, .dead, .dead, .list 3 .row, .list 3 .row]⟩
noncomputable def T40b : Tw := ⟨38, mkS 38 [(5, .slice 3 0 .nil), (6, .slice 4 0 .nil), (7, .slice 5 0 .nil), (20, .hole .nil), (21, .hole .nil)], 5, [.dead, .dead, .dead, .list 3 .row, .list 3 .row, .list 31 .row]⟩
end Go.Ab
set_option maxRecDepth 100000
namespace Go.Ab
open Go Go.RowKit Go.Proofs
end Go.Ab
set_option maxRecDepth 100000
namespace Go.Ab
open Go Go.RowKit Go.Proofs
theorem b40a (n i : Nat) (gl gm : Nat → Int) (xs bs : List Value) (R : Nat → AExit → Hw → Prop) : (vx.code none (.l p40) (leafW [T40a, T40b] R) (T40a.inst ⟨⟨[I n, I i], [(n, n), (n, n)]⟩, [xs, bs], []⟩) ([(0, .split ((6, .val (.pointer (.some ⟨((3 : Nat)), ((0 : Nat) + i * (1 : Nat)), .none⟩))) :: (0, .val (.int .i64 (gl i))) :: (2, .val (.pointer (.some ⟨((4 : Nat)), ((0 : Nat) + i * (1 : Nat)), .none⟩))) :: (0, .val (.int .i64 (gm i))) :: [(5, Hint.tm (1 : Nat) [((5 : Nat), (6 : Nat))])]) ([(1, .tm 0 [])]))])) =
((((decide ((↑i : Int) < (↑n : Int))) = true → ((((((0 : Int) ≤ (↑i : Int))) ∧ (((↑i : Int) < (↑n : Int)))) ∧ (((.pointer (.some ⟨((3 : Nat)), ((0 : Nat) + i * (1 : Nat)), .none⟩)) : Value) = (.pointer (.some ⟨((3 : Nat)), ((0 : Nat) + i * (1 : Nat)), .none⟩)))) ∧
(((xs[(0 : Nat) + i * (1 : Nat)]? = some (.int .i64 (gl i)))) ∧
((((((0 : Int) ≤ (↑i : Int))) ∧ (((↑i : Int) < (↑n : Int)))) ∧ (((.pointer (.some ⟨((4 : Nat)), ((0 : Nat) + i * (1 : Nat)), .none⟩)) : Value) = (.pointer (.some ⟨((4 : Nat)), ((0 : Nat) + i * (1 : Nat)), .none⟩)))) ∧
(((bs[(0 : Nat) + i * (1 : Nat)]? = some (.int .i64 (gm i)))) ∧
R 1 .normal ⟨⟨[(.int .i64 n), (.int .i64 (IntKind.i64.wrap ((↑i : Int) + (1 : Int))))], [⟨n, n⟩, ⟨n, n⟩, ⟨((1 : Nat)), ((1 : Nat))⟩]⟩, [(xs), (bs), [(.int .i64 (gl i)), (.int .i64 (gm i))]], []⟩))))) ∧
((decide ((↑i : Int) < (↑n : Int))) = false → R 0 (.exit ((0 : Nat))) ⟨⟨[(.int .i64 n), (.int .i64 i)], [⟨n, n⟩, ⟨n, n⟩]⟩, [(xs), (bs)], []⟩))) := by kernel_rfl
theorem b40b (n i : Nat) (gl gm : Nat → Int) (xs bs ls : List Value) (R : Nat → AExit → Hw → Prop) : (vx.code none (.l p40) (leafW [T40a, T40b] R) (T40b.inst ⟨⟨[I n, I i], [(n, n), (n, n), (i, i)]⟩, [xs, bs, ls], []⟩) ([(0, .split ((6, .val (.pointer (.some ⟨((3 : Nat)), ((0 : Nat) + i * (1 : Nat)), .none⟩))) :: (0, .val (.int .i64 (gl i))) :: (2, .val (.pointer (.some ⟨((4 : Nat)), ((0 : Nat) + i * (1 : Nat)), .none⟩))) :: (0, .val (.int .i64 (gm i))) :: (1, Hint.grow) :: [(3, Hint.tm (1 : Nat) [((5 : Nat), (7 : Nat))])]) ([(1, Hint.tm (1 : Nat) [((5 : Nat), (5 : Nat))])]))])) =
((((decide ((↑i : Int) < (↑n : Int))) = true → ((((((0 : Int) ≤ (↑i : Int))) ∧ (((↑i : Int) < (↑n : Int)))) ∧ (((.pointer (.some ⟨((3 : Nat)), ((0 : Nat) + i * (1 : Nat)), .none⟩)) : Value) = (.pointer (.some ⟨((3 : Nat)), ((0 : Nat) + i * (1 : Nat)), .none⟩)))) ∧
(((xs[(0 : Nat) + i * (1 : Nat)]? = some (.int .i64 (gl i)))) ∧
((((((0 : Int) ≤ (↑i : Int))) ∧ (((↑i : Int) < (↑n : Int)))) ∧ (((.pointer (.some ⟨((4 : Nat)), ((0 : Nat) + i * (1 : Nat)), .none⟩)) : Value) = (.pointer (.some ⟨((4 : Nat)), ((0 : Nat) + i * (1 : Nat)), .none⟩)))) ∧
(((bs[(0 : Nat) + i * (1 : Nat)]? = some (.int .i64 (gm i)))) ∧
((((¬i + (1 : Nat) ≤ i)) ∧ (((i * (2 : Nat) = ls.length)) ∧ ((((i + (1 : Nat)) * (16 : Nat) ≤ (140737488355328 : Nat))) ∧ ((i + (1 : Nat) ≤ (4611686018427387904 : Nat)))))) ∧
R 1 .normal ⟨⟨[(.int .i64 n), (.int .i64 (IntKind.i64.wrap ((↑i : Int) + (1 : Int))))], [⟨n, n⟩, ⟨n, n⟩, ⟨(i + (1 : Nat)), (i + (1 : Nat))⟩]⟩, [(xs), (bs), ((List.take (i * (2 : Nat)) (ls)) ++ [(.int .i64 (gl i)), (.int .i64 (gm i))])], []⟩)))))) ∧
((decide ((↑i : Int) < (↑n : Int))) = false → R 1 (.exit ((0 : Nat))) ⟨⟨[(.int .i64 n), (.int .i64 i)], [⟨n, n⟩, ⟨n, n⟩, ⟨i, i⟩]⟩, [(xs), (bs), (ls)], []⟩))) := by kernel_rfl
theorem f40 (p : Int) (n c d : Nat) (f : Nat → Mv) (g : Nat → Int) (xs bs ls : List Value) (R : Hx → Prop) : (vx.call 40 [hV p n c, slV 1 n d] (retN (rowT 2 31) R) (m2 (mvs n f) (ints n g)) ((11, Hint.conN (C70 false p n c d f g)) :: (0, Hint.again) :: (0, Hint.conN (C70 true p n c d f g)) :: (6, Hint.loopW T40a (AExit.exit (0 : Nat)) T40b fun _ => { hs := { vs := [I (↑n : Int), I (↑n : Int)], ns := [(n, n), (n, n), (n, n)] }, ls := [xs, bs, ls], es := [] }) :: [(2, Hint.tm (0 : Nat) [((2 : Nat), (5 : Nat))])])) =
(((ConNOK Try.prog 70 (C70 false p n c d f g)) ∧ (ConN.pre (C70 false p n c d f g) ⟨⟨[(.int .i64 p)], [⟨n, c⟩, ⟨n, d⟩]⟩, [(mvs n f), (ints n g)]⟩) ∧
((((((2 : Nat) ≤ (2 : Nat))) ∧ (((.agg ⟨[(.int .i64 p), (.slice (.some ⟨0, 0, .none⟩) (n) (c))]⟩) : Value) = (.agg ⟨[(.int .i64 p), (.slice (.some ⟨0, 0, .none⟩) (n) (c))]⟩))) ∧ (True)) ∧
((ConNOK Try.prog 70 (C70 true p n c d f g)) ∧ (ConN.pre (C70 true p n c d f g) ⟨⟨[(.int .i64 p)], [⟨n, c⟩, ⟨n, d⟩]⟩, [(mvs n f), (ints n g)]⟩) ∧
((ClW ⟨⟨[(.int .i64 n), (.int .i64 0)], [⟨n, n⟩, ⟨n, n⟩]⟩, [(ints n (latS false p n f g)), (ints n (latS true p n f g))], []⟩) ∧ (LoopOW Try.prog .none p40 (T40a) ⟨⟨[(.int .i64 n), (.int .i64 0)], [⟨n, n⟩, ⟨n, n⟩]⟩, [(ints n (latS false p n f g)), (ints n (latS true p n f g))], []⟩ (.exit ((0 : Nat))) (T40b) ⟨⟨[(.int .i64 n), (.int .i64 n)], [⟨n, n⟩, ⟨n, n⟩, ⟨n, n⟩]⟩, [(xs), (bs), (ls)], []⟩) ∧
R ⟨⟨[], [⟨n, n⟩]⟩, [(ls)]⟩))))) := by kernel_rfl
noncomputable def spansC (n : Nat) (a b : Nat → Int) : List Value := flatC n fun i => [I (a i), I (b i)]
theorem spansC_len (n : Nat) (a b : Nat → Int) : (spansC n a b).length = n * 2 := flatC_len fun i _ => rfl
theorem spansC_atoms (n : Nat) (a b : Nat → Int) : ∀ v ∈ spansC n a b, atomic v = true := by
  refine flatC_atomic fun i _ v hv => ?_
  simp only [List.mem_cons, List.not_mem_nil, or_false] at hv
  rcases hv with rfl | rfl <;> rfl
theorem spansC_succ (n : Nat) (a b : Nat → Int) : spansC (n + 1) a b = spansC n a b ++ [I (a n), I (b n)] := flatC_succ
theorem clL {hs : Hs} {ls : List (List Value)} (h : ∀ cs ∈ ls, ∀ v ∈ cs, atomic v = true) : ClW ⟨hs, ls, []⟩ := ⟨h, fun es he => by cases he⟩
noncomputable def st40 (n : Nat) (a b : Nat → Int) (i : Nat) : Nat × Hw := if i = 0 then (0, ⟨⟨[I n, I (0 : Nat)], [(n, n), (n, n)]⟩, [ints n a, ints n b], []⟩) else (1, ⟨⟨[I n, I i], [(n, n), (n, n), (i, i)]⟩, [ints n a, ints n b, spansC i a b], []⟩)
theorem st40_cl (n : Nat) (a b : Nat → Int) (i : Nat) : ClW (st40 n a b i).2 := by
  simp only [st40]
  split
  · refine clL fun cs hcs => ?_
    simp only [List.mem_cons, List.not_mem_nil, or_false] at hcs
    rcases hcs with rfl | rfl
    · exact ints_atom n _
    · exact ints_atom n _
  · refine clL fun cs hcs => ?_
    simp only [List.mem_cons, List.not_mem_nil, or_false] at hcs
    rcases hcs with rfl | rfl | rfl
    · exact ints_atom n _
    · exact ints_atom n _
    · exact spansC_atoms i _ _
theorem loop40 (n : Nat) (a b : Nat → Int) (h0 : 0 < n) (hn : n ≤ 1000000) : LoopOW Try.prog none p40 T40a ⟨⟨[I n, I (0 : Nat)], [(n, n), (n, n)]⟩, [ints n a, ints n b], []⟩ (.exit 0) T40b ⟨⟨[I n, I n], [(n, n), (n, n), (n, n)]⟩, [ints n a, ints n b, spansC n a b], []⟩ := by
  have hst : ∀ i, 0 < i → st40 n a b i = (1, ⟨⟨[I n, I i], [(n, n), (n, n), (i, i)]⟩, [ints n a, ints n b, spansC i a b], []⟩) := fun i hi => by simp only [st40, if_neg (show ¬ i = 0 by omega)]
  have := loop_forW (P := Try.prog) (ro := none) (p := p40) (Ts := [T40a, T40b]) (k := 5) (n := n) (st := st40 n a b) (e := .exit 0) rfl vx_sound (by simp [T40a, T40b]) (by rw [nglob]; omega) ⟨by simp, trivial⟩ (fun i _ => st40_cl n a b i)
    (fun i hi R hR => ?_) (fun R hR => ?_) (T0 := T40a) (T1 := T40b) rfl (Nat.le_of_ble_eq_true rfl) (by decide) (by rw [hst n h0]; rfl)
  · rw [hst n h0] at this
    exact this
  · have hw : IntKind.i64.wrap ((i : Int) + 1) = ((i + 1 : Nat) : Int) := wrapI (by omega) (by omega)
    rw [hst (i + 1) (by omega)] at hR
    by_cases hz : i = 0
    · subst hz
      refine ⟨T40a, _, rfl, (b40a n 0 a b (ints n a) (ints n b) R).mpr ⟨fun _ => ?_, fun h => absurd hi (by simpa using h)⟩⟩
      rw [hw]
      exact ⟨⟨⟨by omega, by omega⟩, rfl⟩, ints_get a hi, ⟨⟨by omega, by omega⟩, rfl⟩, ints_get b hi, hR⟩
    · rw [hst i (by omega)]
      refine ⟨T40b, _, rfl, (b40b n i a b (ints n a) (ints n b) (spansC i a b) R).mpr ⟨fun _ => ?_, fun h => absurd hi (by simpa using h)⟩⟩
      have hl := spansC_len i a b
      rw [hw, List.take_of_length_le (by omega)]
      rw [spansC_succ] at hR
      exact ⟨⟨⟨by omega, by omega⟩, rfl⟩, ints_get a hi, ⟨⟨by omega, by omega⟩, rfl⟩, ints_get b hi, ⟨by omega, by omega, by omega, by omega⟩, hR⟩
  · rw [hst n h0] at hR ⊢
    exact ⟨T40b, _, rfl, (b40b n n a b (ints n a) (ints n b) (spansC n a b) R).mpr ⟨fun h => absurd (of_decide_eq_true h) (by omega), fun _ => hR⟩⟩
noncomputable def C40 (p : Int) (n c d : Nat) (f : Nat → Mv) (g : Nat → Int) : ConN where
  A := .agg (.hole (.slice 0 0 .nil)) (.slice 1 0 .nil)
  bs := [.list 1 .ro, .list 3 .ro]
  pre x := x = ⟨⟨[I p], [(n, c), (n, d)]⟩, [mvs n f, ints n g]⟩
  news _ := [(spansC n (latS false p n f g) (latS true p n f g), 31)]
  one := true
  res _ := [.sl 0 n]
theorem two_atoms {n : Nat} {f : Nat → Mv} {g : Nat → Int} : Atoms [mvs n f, ints n g] := fun cs hcs => by
  simp only [List.mem_cons, List.not_mem_nil, or_false] at hcs
  rcases hcs with rfl | rfl
  · exact mvs_atoms n f _ (by simp)
  · exact ints_atoms n g _ (by simp)
theorem C40_ok (p : Int) (n c d : Nat) (f : Nat → Mv) (g : Nat → Int) (h0 : 0 < n) (hok : okH p n f = true) : ConNOK Try.prog 40 (C40 p n c d f g) := by
  have h7 := (okH_iff hok).n7
  have hl := loop40 n (latS false p n f g) (latS true p n f g) h0 (by omega)
  have hc := st40_cl n (latS false p n f g) (latS true p n f g) 0
  refine conRow_of rfl vx_sound (C := C40 p n c d f g) (n := n) (cells := spansC n (latS false p n f g) (latS true p n f g)) (e := 31) ⟨⟨[I p], [(n, c), (n, d)]⟩, [mvs n f, ints n g]⟩ (fun x => Iff.rfl) rfl rfl rfl ?_ two_atoms (spansC_atoms n _ _) rfl (Nat.le_of_ble_eq_true rfl) (by rw [nglob]; exact Nat.zero_le _)
  refine ⟨_, (f40 p n c d f g (ints n (latS false p n f g)) (ints n (latS true p n f g)) (spansC n (latS false p n f g) (latS true p n f g)) _).mpr ?_⟩
  repeat' (first | with_reducible apply And.intro | with_reducible intro)
  all_goals first | exact C70_ok _ p n c d f g h0 hok | trivial | exact hc | exact hl | rfl
end Go.Ab
