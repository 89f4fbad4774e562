/- the sort: insertion, by the program. -/
import Derived.Test.YtamfplmmfbbabaaVD
set_option maxRecDepth 100000
namespace Go.Ab
open Go Go.RowKit Go.Proofs
theorem b106i (i j n : Nat) (f : Nat → Mv) (τ : Nat → Nat) (js : List Value) (R : Nat → AExit → Hw → Prop) : (vx.code none (.l p106i) (leafW [T106i] R) (T106i.inst ⟨⟨[I n, I i, I (j + 1 : Nat)], [(n, n)]⟩, [js], []⟩) ([(2, .split ((4, .val (.pointer (.some ⟨((2 : Nat)), ((0 : Nat) + (↑(j + (1 : Nat)) : Int).toNat * (5 : Nat)), .none⟩))) :: (0, .val (.agg ⟨[(.int .i64 ((f (τ (↑(j + (1 : Nat)) : Int).toNat)).at_)), (.int .i64 ((f (τ (↑(j + (1 : Nat)) : Int).toNat)).place)), (.int .i64 ((f (τ (↑(j + (1 : Nat)) : Int).toNat)).lo)), (.int .i64 ((f (τ (↑(j + (1 : Nat)) : Int).toNat)).hi)), (.int .i64 ((↑(τ (↑(j + (1 : Nat)) : Int).toNat) : Int)))]⟩)) :: (3, .val (.pointer (.some ⟨((2 : Nat)), ((0 : Nat) + (IntKind.i64.wrap ((↑(j + (1 : Nat)) : Int) - (1 : Int))).toNat * (5 : Nat)), .none⟩))) :: (0, .val (.agg ⟨[(.int .i64 ((f (τ (IntKind.i64.wrap ((↑(j + (1 : Nat)) : Int) - (1 : Int))).toNat)).at_)), (.int .i64 ((f (τ (IntKind.i64.wrap ((↑(j + (1 : Nat)) : Int) - (1 : Int))).toNat)).place)), (.int .i64 ((f (τ (IntKind.i64.wrap ((↑(j + (1 : Nat)) : Int) - (1 : Int))).toNat)).lo)), (.int .i64 ((f (τ (IntKind.i64.wrap ((↑(j + (1 : Nat)) : Int) - (1 : Int))).toNat)).hi)), (.int .i64 ((↑(τ (IntKind.i64.wrap ((↑(j + (1 : Nat)) : Int) - (1 : Int))).toNat) : Int)))]⟩)) :: (17, .val (.bool false)) :: (7, .val (.bool false)) :: [(8, .split ((14, .val (.pointer (.some ⟨((2 : Nat)), ((0 : Nat) + (IntKind.i64.wrap ((↑(j + (1 : Nat)) : Int) - (1 : Int))).toNat * (5 : Nat)), .none⟩))) :: (0, .val (.agg ⟨[(.int .i64 ((f (τ (IntKind.i64.wrap ((↑(j + (1 : Nat)) : Int) - (1 : Int))).toNat)).at_)), (.int .i64 ((f (τ (IntKind.i64.wrap ((↑(j + (1 : Nat)) : Int) - (1 : Int))).toNat)).place)), (.int .i64 ((f (τ (IntKind.i64.wrap ((↑(j + (1 : Nat)) : Int) - (1 : Int))).toNat)).lo)), (.int .i64 ((f (τ (IntKind.i64.wrap ((↑(j + (1 : Nat)) : Int) - (1 : Int))).toNat)).hi)), (.int .i64 ((↑(τ (IntKind.i64.wrap ((↑(j + (1 : Nat)) : Int) - (1 : Int))).toNat) : Int)))]⟩)) :: (2, .val (.pointer (.some ⟨((2 : Nat)), ((0 : Nat) + (↑(j + (1 : Nat)) : Int).toNat * (5 : Nat)), .none⟩))) :: (0, .val (.agg ⟨[(.int .i64 ((f (τ (↑(j + (1 : Nat)) : Int).toNat)).at_)), (.int .i64 ((f (τ (↑(j + (1 : Nat)) : Int).toNat)).place)), (.int .i64 ((f (τ (↑(j + (1 : Nat)) : Int).toNat)).lo)), (.int .i64 ((f (τ (↑(j + (1 : Nat)) : Int).toNat)).hi)), (.int .i64 ((↑(τ (↑(j + (1 : Nat)) : Int).toNat) : Int)))]⟩)) :: (0, .val (.pointer (.some ⟨((2 : Nat)), ((0 : Nat) + (↑(j + (1 : Nat)) : Int).toNat * (5 : Nat)), .none⟩))) :: (0, Hint.st) :: (0, .val (.pointer (.some ⟨((2 : Nat)), ((0 : Nat) + (IntKind.i64.wrap ((↑(j + (1 : Nat)) : Int) - (1 : Int))).toNat * (5 : Nat)), .none⟩))) :: (0, Hint.st) :: [(3, .tm 0 [])]) ([(3, .split ([(6, .tm 0 [])]) ([(6, .tm 0 [])]))]))]) ([(3, .tm 0 [])]))])) =
((((decide ((↑(j + (1 : Nat)) : Int) > (0 : Int))) = true → ((((((0 : Int) ≤ (↑(j + (1 : Nat)) : Int))) ∧ (((↑(j + (1 : Nat)) : Int) < (↑n : Int)))) ∧ (((.pointer (.some ⟨((2 : Nat)), ((0 : Nat) + (↑(j + (1 : Nat)) : Int).toNat * (5 : Nat)), .none⟩)) : Value) = (.pointer (.some ⟨((2 : Nat)), ((0 : Nat) + (↑(j + (1 : Nat)) : Int).toNat * (5 : Nat)), .none⟩)))) ∧
(((((0 : Nat) + (↑(j + (1 : Nat)) : Int).toNat * (5 : Nat) + (5 : Nat) ≤ js.length)) ∧ (((.agg ⟨[(.int .i64 ((f (τ (↑(j + (1 : Nat)) : Int).toNat)).at_)), (.int .i64 ((f (τ (↑(j + (1 : Nat)) : Int).toNat)).place)), (.int .i64 ((f (τ (↑(j + (1 : Nat)) : Int).toNat)).lo)), (.int .i64 ((f (τ (↑(j + (1 : Nat)) : Int).toNat)).hi)), (.int .i64 ((↑(τ (↑(j + (1 : Nat)) : Int).toNat) : Int)))]⟩) : Value) = (.agg ⟨(List.take ((5 : Nat)) (List.drop ((0 : Nat) + (↑(j + (1 : Nat)) : Int).toNat * (5 : Nat)) (js)))⟩))) ∧
((((((0 : Int) ≤ IntKind.i64.wrap ((↑(j + (1 : Nat)) : Int) - (1 : Int)))) ∧ ((IntKind.i64.wrap ((↑(j + (1 : Nat)) : Int) - (1 : Int)) < (↑n : Int)))) ∧ (((.pointer (.some ⟨((2 : Nat)), ((0 : Nat) + (IntKind.i64.wrap ((↑(j + (1 : Nat)) : Int) - (1 : Int))).toNat * (5 : Nat)), .none⟩)) : Value) = (.pointer (.some ⟨((2 : Nat)), ((0 : Nat) + (IntKind.i64.wrap ((↑(j + (1 : Nat)) : Int) - (1 : Int))).toNat * (5 : Nat)), .none⟩)))) ∧
(((((0 : Nat) + (IntKind.i64.wrap ((↑(j + (1 : Nat)) : Int) - (1 : Int))).toNat * (5 : Nat) + (5 : Nat) ≤ js.length)) ∧ (((.agg ⟨[(.int .i64 ((f (τ (IntKind.i64.wrap ((↑(j + (1 : Nat)) : Int) - (1 : Int))).toNat)).at_)), (.int .i64 ((f (τ (IntKind.i64.wrap ((↑(j + (1 : Nat)) : Int) - (1 : Int))).toNat)).place)), (.int .i64 ((f (τ (IntKind.i64.wrap ((↑(j + (1 : Nat)) : Int) - (1 : Int))).toNat)).lo)), (.int .i64 ((f (τ (IntKind.i64.wrap ((↑(j + (1 : Nat)) : Int) - (1 : Int))).toNat)).hi)), (.int .i64 ((↑(τ (IntKind.i64.wrap ((↑(j + (1 : Nat)) : Int) - (1 : Int))).toNat) : Int)))]⟩) : Value) = (.agg ⟨(List.take ((5 : Nat)) (List.drop ((0 : Nat) + (IntKind.i64.wrap ((↑(j + (1 : Nat)) : Int) - (1 : Int))).toNat * (5 : Nat)) (js)))⟩))) ∧
((((some (.bool ((f (τ (↑(j + (1 : Nat)) : Int).toNat)).at_ != (f (τ (↑(j + (1 : Nat)) : Int).toNat)).at_)) : Option Value) = some (.bool false))) ∧
((((some (.bool ((f (τ (IntKind.i64.wrap ((↑(j + (1 : Nat)) : Int) - (1 : Int))).toNat)).at_ != (f (τ (IntKind.i64.wrap ((↑(j + (1 : Nat)) : Int) - (1 : Int))).toNat)).at_)) : Option Value) = some (.bool false))) ∧
(((decide ((f (τ (↑(j + (1 : Nat)) : Int).toNat)).at_ < (f (τ (IntKind.i64.wrap ((↑(j + (1 : Nat)) : Int) - (1 : Int))).toNat)).at_)) = true → ((((((0 : Int) ≤ IntKind.i64.wrap ((↑(j + (1 : Nat)) : Int) - (1 : Int)))) ∧ ((IntKind.i64.wrap ((↑(j + (1 : Nat)) : Int) - (1 : Int)) < (↑n : Int)))) ∧ (((.pointer (.some ⟨((2 : Nat)), ((0 : Nat) + (IntKind.i64.wrap ((↑(j + (1 : Nat)) : Int) - (1 : Int))).toNat * (5 : Nat)), .none⟩)) : Value) = (.pointer (.some ⟨((2 : Nat)), ((0 : Nat) + (IntKind.i64.wrap ((↑(j + (1 : Nat)) : Int) - (1 : Int))).toNat * (5 : Nat)), .none⟩)))) ∧
(((((0 : Nat) + (IntKind.i64.wrap ((↑(j + (1 : Nat)) : Int) - (1 : Int))).toNat * (5 : Nat) + (5 : Nat) ≤ js.length)) ∧ (((.agg ⟨[(.int .i64 ((f (τ (IntKind.i64.wrap ((↑(j + (1 : Nat)) : Int) - (1 : Int))).toNat)).at_)), (.int .i64 ((f (τ (IntKind.i64.wrap ((↑(j + (1 : Nat)) : Int) - (1 : Int))).toNat)).place)), (.int .i64 ((f (τ (IntKind.i64.wrap ((↑(j + (1 : Nat)) : Int) - (1 : Int))).toNat)).lo)), (.int .i64 ((f (τ (IntKind.i64.wrap ((↑(j + (1 : Nat)) : Int) - (1 : Int))).toNat)).hi)), (.int .i64 ((↑(τ (IntKind.i64.wrap ((↑(j + (1 : Nat)) : Int) - (1 : Int))).toNat) : Int)))]⟩) : Value) = (.agg ⟨(List.take ((5 : Nat)) (List.drop ((0 : Nat) + (IntKind.i64.wrap ((↑(j + (1 : Nat)) : Int) - (1 : Int))).toNat * (5 : Nat)) (js)))⟩))) ∧
((((((0 : Int) ≤ (↑(j + (1 : Nat)) : Int))) ∧ (((↑(j + (1 : Nat)) : Int) < (↑n : Int)))) ∧ (((.pointer (.some ⟨((2 : Nat)), ((0 : Nat) + (↑(j + (1 : Nat)) : Int).toNat * (5 : Nat)), .none⟩)) : Value) = (.pointer (.some ⟨((2 : Nat)), ((0 : Nat) + (↑(j + (1 : Nat)) : Int).toNat * (5 : Nat)), .none⟩)))) ∧
(((((0 : Nat) + (↑(j + (1 : Nat)) : Int).toNat * (5 : Nat) + (5 : Nat) ≤ js.length)) ∧ (((.agg ⟨[(.int .i64 ((f (τ (↑(j + (1 : Nat)) : Int).toNat)).at_)), (.int .i64 ((f (τ (↑(j + (1 : Nat)) : Int).toNat)).place)), (.int .i64 ((f (τ (↑(j + (1 : Nat)) : Int).toNat)).lo)), (.int .i64 ((f (τ (↑(j + (1 : Nat)) : Int).toNat)).hi)), (.int .i64 ((↑(τ (↑(j + (1 : Nat)) : Int).toNat) : Int)))]⟩) : Value) = (.agg ⟨(List.take ((5 : Nat)) (List.drop ((0 : Nat) + (↑(j + (1 : Nat)) : Int).toNat * (5 : Nat)) (js)))⟩))) ∧
((((((0 : Int) ≤ (↑(j + (1 : Nat)) : Int))) ∧ (((↑(j + (1 : Nat)) : Int) < (↑n : Int)))) ∧ (((.pointer (.some ⟨((2 : Nat)), ((0 : Nat) + (↑(j + (1 : Nat)) : Int).toNat * (5 : Nat)), .none⟩)) : Value) = (.pointer (.some ⟨((2 : Nat)), ((0 : Nat) + (↑(j + (1 : Nat)) : Int).toNat * (5 : Nat)), .none⟩)))) ∧
((((0 : Nat) + (↑(j + (1 : Nat)) : Int).toNat * (5 : Nat) + (5 : Nat) ≤ js.length)) ∧
((((((0 : Int) ≤ IntKind.i64.wrap ((↑(j + (1 : Nat)) : Int) - (1 : Int)))) ∧ ((IntKind.i64.wrap ((↑(j + (1 : Nat)) : Int) - (1 : Int)) < (↑n : Int)))) ∧ (((.pointer (.some ⟨((2 : Nat)), ((0 : Nat) + (IntKind.i64.wrap ((↑(j + (1 : Nat)) : Int) - (1 : Int))).toNat * (5 : Nat)), .none⟩)) : Value) = (.pointer (.some ⟨((2 : Nat)), ((0 : Nat) + (IntKind.i64.wrap ((↑(j + (1 : Nat)) : Int) - (1 : Int))).toNat * (5 : Nat)), .none⟩)))) ∧
((((0 : Nat) + (IntKind.i64.wrap ((↑(j + (1 : Nat)) : Int) - (1 : Int))).toNat * (5 : Nat) + (5 : Nat) ≤ (List.take ((0 : Nat) + (↑(j + (1 : Nat)) : Int).toNat * (5 : Nat)) js ++ [Value.int .i64 (f (τ (IntKind.i64.wrap ((↑(j + (1 : Nat)) : Int) - (1 : Int))).toNat)).at_, Value.int .i64 (f (τ (IntKind.i64.wrap ((↑(j + (1 : Nat)) : Int) - (1 : Int))).toNat)).place, Value.int .i64 (f (τ (IntKind.i64.wrap ((↑(j + (1 : Nat)) : Int) - (1 : Int))).toNat)).lo, Value.int .i64 (f (τ (IntKind.i64.wrap ((↑(j + (1 : Nat)) : Int) - (1 : Int))).toNat)).hi, Value.int .i64 (↑(τ (IntKind.i64.wrap ((↑(j + (1 : Nat)) : Int) - (1 : Int))).toNat) : Int)] ++ List.drop ((0 : Nat) + (↑(j + (1 : Nat)) : Int).toNat * (5 : Nat) + (5 : Nat)) js).length)) ∧
R 0 .normal ⟨⟨[(.int .i64 n), (.int .i64 i), (.int .i64 (IntKind.i64.wrap ((↑(j + (1 : Nat)) : Int) - (1 : Int))))], [⟨n, n⟩]⟩, [(((List.take ((0 : Nat) + (IntKind.i64.wrap ((↑(j + (1 : Nat)) : Int) - (1 : Int))).toNat * (5 : Nat)) (((List.take ((0 : Nat) + (↑(j + (1 : Nat)) : Int).toNat * (5 : Nat)) (js)) ++ [(.int .i64 ((f (τ (IntKind.i64.wrap ((↑(j + (1 : Nat)) : Int) - (1 : Int))).toNat)).at_)), (.int .i64 ((f (τ (IntKind.i64.wrap ((↑(j + (1 : Nat)) : Int) - (1 : Int))).toNat)).place)), (.int .i64 ((f (τ (IntKind.i64.wrap ((↑(j + (1 : Nat)) : Int) - (1 : Int))).toNat)).lo)), (.int .i64 ((f (τ (IntKind.i64.wrap ((↑(j + (1 : Nat)) : Int) - (1 : Int))).toNat)).hi)), (.int .i64 ((↑(τ (IntKind.i64.wrap ((↑(j + (1 : Nat)) : Int) - (1 : Int))).toNat) : Int)))]) ++ (List.drop ((0 : Nat) + (↑(j + (1 : Nat)) : Int).toNat * (5 : Nat) + (5 : Nat)) (js)))) ++ [(.int .i64 ((f (τ (↑(j + (1 : Nat)) : Int).toNat)).at_)), (.int .i64 ((f (τ (↑(j + (1 : Nat)) : Int).toNat)).place)), (.int .i64 ((f (τ (↑(j + (1 : Nat)) : Int).toNat)).lo)), (.int .i64 ((f (τ (↑(j + (1 : Nat)) : Int).toNat)).hi)), (.int .i64 ((↑(τ (↑(j + (1 : Nat)) : Int).toNat) : Int)))]) ++ (List.drop ((0 : Nat) + (IntKind.i64.wrap ((↑(j + (1 : Nat)) : Int) - (1 : Int))).toNat * (5 : Nat) + (5 : Nat)) (((List.take ((0 : Nat) + (↑(j + (1 : Nat)) : Int).toNat * (5 : Nat)) (js)) ++ [(.int .i64 ((f (τ (IntKind.i64.wrap ((↑(j + (1 : Nat)) : Int) - (1 : Int))).toNat)).at_)), (.int .i64 ((f (τ (IntKind.i64.wrap ((↑(j + (1 : Nat)) : Int) - (1 : Int))).toNat)).place)), (.int .i64 ((f (τ (IntKind.i64.wrap ((↑(j + (1 : Nat)) : Int) - (1 : Int))).toNat)).lo)), (.int .i64 ((f (τ (IntKind.i64.wrap ((↑(j + (1 : Nat)) : Int) - (1 : Int))).toNat)).hi)), (.int .i64 ((↑(τ (IntKind.i64.wrap ((↑(j + (1 : Nat)) : Int) - (1 : Int))).toNat) : Int)))]) ++ (List.drop ((0 : Nat) + (↑(j + (1 : Nat)) : Int).toNat * (5 : Nat) + (5 : Nat)) (js)))))], []⟩))))))))) ∧
((decide ((f (τ (↑(j + (1 : Nat)) : Int).toNat)).at_ < (f (τ (IntKind.i64.wrap ((↑(j + (1 : Nat)) : Int) - (1 : Int))).toNat)).at_)) = false → (((decide ((f (τ (↑(j + (1 : Nat)) : Int).toNat)).at_ > (f (τ (IntKind.i64.wrap ((↑(j + (1 : Nat)) : Int) - (1 : Int))).toNat)).at_)) = true → R 0 (.exit ((2 : Nat))) ⟨⟨[(.int .i64 n), (.int .i64 i), (.int .i64 ((↑(j + (1 : Nat)) : Int)))], [⟨n, n⟩]⟩, [(js)], []⟩) ∧
((decide ((f (τ (↑(j + (1 : Nat)) : Int).toNat)).at_ > (f (τ (IntKind.i64.wrap ((↑(j + (1 : Nat)) : Int) - (1 : Int))).toNat)).at_)) = false → R 0 (.exit ((2 : Nat))) ⟨⟨[(.int .i64 n), (.int .i64 i), (.int .i64 ((↑(j + (1 : Nat)) : Int)))], [⟨n, n⟩]⟩, [(js)], []⟩))))))))))) ∧
((decide ((↑(j + (1 : Nat)) : Int) > (0 : Int))) = false → R 0 (.exit ((2 : Nat))) ⟨⟨[(.int .i64 n), (.int .i64 i), (.int .i64 ((↑(j + (1 : Nat)) : Int)))], [⟨n, n⟩]⟩, [(js)], []⟩))) := by kernel_rfl
theorem b106z (i n : Nat) (js : List Value) (R : Nat → AExit → Hw → Prop) : (vx.code none (.l p106i) (leafW [T106i] R) (T106i.inst ⟨⟨[I n, I i, I (0 : Nat)], [(n, n)]⟩, [js], []⟩) ([(6, .tm 0 [])])) =
(R 0 (.exit ((2 : Nat))) ⟨⟨[(.int .i64 n), (.int .i64 i), (.int .i64 ((↑(0 : Nat) : Int)))], [⟨n, n⟩]⟩, [(js)], []⟩) := by kernel_rfl
theorem b106o (i j n : Nat) (js js' : List Value) (R : Nat → AExit → Hw → Prop) : (vx.code none (.l p106o) (leafW [T106o] R) (T106o.inst ⟨⟨[I n, I i], [(n, n)]⟩, [js], []⟩) ([(2, .split ((3, Hint.loopW T106i (AExit.exit (2 : Nat)) T106i fun _ => { hs := { vs := [I (↑n : Int), I (↑i : Int), I (↑j : Int)], ns := [(n, n)] }, ls := [js'], es := [] }) :: [(3, .tm 0 [])]) ([(1, .tm 0 [])]))])) =
((((decide ((↑i : Int) < (↑n : Int))) = true → ((ClW ⟨⟨[(.int .i64 n), (.int .i64 i), (.int .i64 i)], [⟨n, n⟩]⟩, [(js)], []⟩) ∧ (LoopOW Try.prog .none p106i (T106i) ⟨⟨[(.int .i64 n), (.int .i64 i), (.int .i64 i)], [⟨n, n⟩]⟩, [(js)], []⟩ (.exit ((2 : Nat))) (T106i) ⟨⟨[(.int .i64 n), (.int .i64 i), (.int .i64 j)], [⟨n, n⟩]⟩, [(js')], []⟩) ∧
R 0 .normal ⟨⟨[(.int .i64 n), (.int .i64 (IntKind.i64.wrap ((↑i : Int) + (1 : Int))))], [⟨n, n⟩]⟩, [(js')], []⟩)) ∧
((decide ((↑i : Int) < (↑n : Int))) = false → R 0 (.exit ((0 : Nat))) ⟨⟨[(.int .i64 n), (.int .i64 i)], [⟨n, n⟩]⟩, [(js)], []⟩))) := by kernel_rfl
theorem ordC_len (n : Nat) (f : Nat → Mv) (τ : Nat → Nat) : (ordC n f τ).length = n * 5 := flatC_len fun i _ => rfl
theorem ordC_part {n i : Nat} (f : Nat → Mv) (τ : Nat → Nat) (h : i < n) : ((ordC n f τ).drop (0 + i * 5)).take 5 = jobV f (τ i) := by
  rw [Nat.zero_add]; exact flatC_part (k := 5) (fun i _ => rfl) h
theorem ordC_atoms (n : Nat) (f : Nat → Mv) (τ : Nat → Nat) : ∀ v ∈ ordC n f τ, atomic v = true := by
  refine flatC_atomic fun i _ v hv => ?_
  simp only [jobV, List.mem_cons, List.not_mem_nil, or_false] at hv
  rcases hv with rfl | rfl | rfl | rfl | rfl <;> rfl
theorem ordC_put {n i : Nat} (f : Nat → Mv) (τ : Nat → Nat) (m : Nat) (h : i < n) : (ordC n f τ).take (0 + i * 5) ++ jobV f m ++ (ordC n f τ).drop (0 + i * 5 + 5) = ordC n f (fun x => if x = i then m else τ x) := by
  have e := flatC_set (n := n) (k := 5) (g := fun i => jobV f (τ i)) (fun _ _ => rfl) h (v := jobV f m) rfl
  rw [Nat.zero_add]
  refine (show _ = _ from e).trans ?_
  refine flatC_congr fun x _ => ?_
  simp only
  split <;> rfl
theorem ordC_swap {n j : Nat} (f : Nat → Mv) (τ : Nat → Nat) (h : j + 1 < n) :
    ((ordC n f τ).take (0 + (j + 1) * 5) ++ jobV f (τ j) ++ (ordC n f τ).drop (0 + (j + 1) * 5 + 5)).take (0 + j * 5) ++ jobV f (τ (j + 1)) ++ ((ordC n f τ).take (0 + (j + 1) * 5) ++ jobV f (τ j) ++ (ordC n f τ).drop (0 + (j + 1) * 5 + 5)).drop (0 + j * 5 + 5) = ordC n f (swp τ (j + 1) j) := by
  rw [ordC_put f τ (τ j) h, ordC_put f _ (τ (j + 1)) (show j < n by omega)]
  congr 1
  funext x
  simp only [swp]
  by_cases h1 : x = j
  · subst h1
    rw [if_pos rfl, if_neg (by omega), if_pos rfl]
  · rw [if_neg h1]
    by_cases h2 : x = j + 1
    · rw [if_pos h2, if_pos h2]
    · rw [if_neg h2, if_neg h2, if_neg h1]
def sinkJ (A : Nat → Int) : Nat → (Nat → Nat) → Nat
  | 0, _ => 0
  | j + 1, τ => if A (τ (j + 1)) < A (τ j) then sinkJ A j (swp τ (j + 1) j) else j + 1
noncomputable def h106i (n i : Nat) (f : Nat → Mv) (x : Nat × (Nat → Nat)) : Hw := ⟨⟨[I n, I i, I x.1], [(n, n)]⟩, [ordC n f x.2], []⟩
theorem cl1 {cs : List Value} (h : ∀ v ∈ cs, atomic v = true) {hs : Hs} : ClW ⟨hs, [cs], []⟩ := ⟨fun c hc => by simp only [List.mem_singleton] at hc; subst hc; exact h, fun es he => by cases he⟩
theorem round106i {n i j : Nat} {f : Nat → Mv} {τ : Nat → Nat} (hn : n ≤ 1000000) (hj : j + 1 < n) {R : Nat → AExit → Hw → Prop}
    (h1 : (f (τ (j + 1))).at_ < (f (τ j)).at_ → R 0 .normal (h106i n i f (j, swp τ (j + 1) j))) (h2 : ¬ (f (τ (j + 1))).at_ < (f (τ j)).at_ → R 0 (.exit 2) (h106i n i f (j + 1, τ))) :
    ∃ hs, vx.code none (.l p106i) (leafW [T106i] R) (T106i.inst (h106i n i f (j + 1, τ))) hs := by
  refine ⟨_, (b106i i j n f τ (ordC n f τ) R).mpr ?_⟩
  have hw : IntKind.i64.wrap (((j + 1 : Nat) : Int) - 1) = (j : Int) := by rw [wrapI (by omega) (by omega)]; omega
  rw [hw]
  simp only [Int.toNat_natCast]
  have e := ordC_swap f τ hj
  have e1 := ordC_put f τ (τ j) hj
  have el := ordC_len n f (fun x => if x = j + 1 then τ j else τ x)
  rw [← e1] at el
  simp only [h106i, ← e] at h1
  have l1 := flatC_bound (k := 5) hj
  have l2 := flatC_bound (k := 5) (show j < n by omega)
  repeat' (first | with_reducible apply And.intro | with_reducible intro)
  all_goals first
    | omega
    | rfl
    | (rw [ordC_len]; omega)
    | (rw [ordC_part f τ hj]; rfl)
    | (rw [ordC_part f τ (show j < n by omega)]; rfl)
    | (show _ ≤ ((ordC n f τ).take (0 + (j + 1) * 5) ++ jobV f (τ j) ++ (ordC n f τ).drop (0 + (j + 1) * 5 + 5)).length; rw [el]; omega)
    | (refine h1 ?_; simp_all; done)
    | (refine h2 ?_; simp_all; done)
    | (refine h2 ?_; simp_all; omega)
    | (simp; done)
theorem loop106i {n i : Nat} {f : Nat → Mv} {τ : Nat → Nat} (hn : n ≤ 1000000) (hi : i < n) : LoopOW Try.prog none p106i T106i (h106i n i f (i, τ)) (.exit 2) T106i (h106i n i f (sinkJ (fun i => (f i).at_) i τ, sink (fun i => (f i).at_) i τ)) := by
  refine loop_vcW (Ts := [T106i]) (k := 3) (X := Nat × (Nat → Nat)) (inv := fun x => x.1 ≤ i) (μ := fun x => x.1) (st := fun x => (0, h106i n i f x)) (out := fun x => (.exit 2, 0, h106i n i f (sinkJ (fun i => (f i).at_) x.1 x.2, sink (fun i => (f i).at_) x.1 x.2))) rfl vx_sound (by simp [T106i]) (by rw [nglob]; omega) (fun x hx => ?_) (x := (i, τ)) (Nat.le_refl i) rfl (Nat.le_of_ble_eq_true rfl) (by decide) rfl
  obtain ⟨j, τ⟩ := x
  cases j with
  | zero => exact ⟨T106i, _, rfl, (b106z i n (ordC n f τ) _).mpr ⟨⟨cl1 (ordC_atoms n f τ), trivial⟩, .inr ⟨by simp, rfl⟩⟩⟩
  | succ j =>
    have hj : j + 1 ≤ i := hx
    obtain ⟨hs, h⟩ := round106i (n := n) (i := i) (j := j) (f := f) (τ := τ) hn (by omega) (R := RoundW (fun x => x.1 ≤ i) (fun x => x.1) (fun x => (0, h106i n i f x)) (fun x => (.exit 2, 0, h106i n i f (sinkJ (fun i => (f i).at_) x.1 x.2, sink (fun i => (f i).at_) x.1 x.2))) (j + 1, τ))
      (fun h => ⟨⟨cl1 (ordC_atoms n f _), trivial⟩, .inl ⟨rfl, (j, swp τ (j + 1) j), by show j ≤ i; omega, Nat.lt_succ_self j, rfl, by simp only [sinkJ, sink, if_pos h]⟩⟩)
      (fun h => ⟨⟨cl1 (ordC_atoms n f _), trivial⟩, .inr ⟨by simp, by simp only [sinkJ, sink, if_neg h]⟩⟩)
    exact ⟨T106i, hs, rfl, h⟩
noncomputable def h106o (n : Nat) (f : Nat → Mv) (i : Nat) : Hw := ⟨⟨[I n, I i], [(n, n)]⟩, [ordC n f (srt (fun i => (f i).at_) i)], []⟩
theorem loop106o {n : Nat} {f : Nat → Mv} (h0 : 0 < n) (hn : n ≤ 1000000) : LoopOW Try.prog none p106o T106o (h106o n f 1) (.exit 0) T106o (h106o n f n) := by
  have := loop_forW (P := Try.prog) (ro := none) (p := p106o) (Ts := [T106o]) (k := 3) (n := n - 1) (st := fun i => (0, h106o n f (i + 1))) (e := .exit 0) rfl vx_sound (by simp [T106o]) (by rw [nglob]; omega) ⟨by simp, trivial⟩ (fun i hi => cl1 (ordC_atoms n f _))
    (fun i hi R hR => ?_) (fun R hR => ?_) (T0 := T106o) (T1 := T106o) rfl (Nat.le_of_ble_eq_true rfl) (by decide) rfl
  · have e : n - 1 + 1 = n := by omega
    simp only [e] at this
    exact this
  · refine ⟨T106o, _, rfl, (b106o (i + 1) (sinkJ (fun i => (f i).at_) (i + 1) (srt (fun i => (f i).at_) (i + 1))) n (ordC n f (srt (fun i => (f i).at_) (i + 1))) (ordC n f (srt (fun i => (f i).at_) (i + 2))) R).mpr ⟨fun h => ?_, fun h => ?_⟩⟩
    · have hw : IntKind.i64.wrap (((i + 1 : Nat) : Int) + 1) = ((i + 1 + 1 : Nat) : Int) := wrapI (by omega) (by omega)
      rw [hw]
      exact ⟨cl1 (ordC_atoms n f _), loop106i hn (by omega), hR⟩
    · have h := of_decide_eq_false h
      omega
  · have e : n - 1 + 1 = n := by omega
    simp only [e] at hR ⊢
    refine ⟨T106o, _, rfl, (b106o n 0 n (ordC n f (srt (fun i => (f i).at_) n)) [] R).mpr ⟨fun h => ?_, fun h => hR⟩⟩
    have h := of_decide_eq_true h
    omega
end Go.Ab
set_option maxRecDepth 100000
namespace Go.Ab
open Go Go.RowKit Go.Proofs
theorem f91 (p : Int) (n c : Nat) (f : Nat → Mv) (js : List Value) (R : Hx → Prop) : (vx.call 91 [hV p n c] (retN (rowT 1 97) R) (m1 (mvs n f)) ((4, Hint.conN (C49 p n c f)) :: (15, .val (.bool false)) :: (9, Hint.loopW T106o (AExit.exit (0 : Nat)) T106o fun _ => { hs := { vs := [I (↑n : Int), I (↑n : Int)], ns := [(n, n)] }, ls := [js], es := [] }) :: (3, .val (.bool false)) :: [(3, Hint.tm (0 : Nat) [((1 : Nat), (2 : Nat))])])) =
(((ConNOK Try.prog 49 (C49 p n c f)) ∧ (ConN.pre (C49 p n c f) ⟨⟨[(.int .i64 p)], [⟨n, c⟩]⟩, [(mvs n f)]⟩) ∧
((((some (.bool (decide ((20 : Int) ≤ (↑n : Int)))) : Option Value) = some (.bool false))) ∧
((ClW ⟨⟨[(.int .i64 n), (.int .i64 (IntKind.i64.wrap ((0 : Int) + (1 : Int))))], [⟨n, n⟩]⟩, [(jobsC n f)], []⟩) ∧ (LoopOW Try.prog .none p106o (T106o) ⟨⟨[(.int .i64 n), (.int .i64 (IntKind.i64.wrap ((0 : Int) + (1 : Int))))], [⟨n, n⟩]⟩, [(jobsC n f)], []⟩ (.exit ((0 : Nat))) (T106o) ⟨⟨[(.int .i64 n), (.int .i64 n)], [⟨n, n⟩]⟩, [(js)], []⟩) ∧
((((some (.bool (decide ((20 : Int) < (↑n : Int)))) : Option Value) = some (.bool false))) ∧
R ⟨⟨[], [⟨n, n⟩]⟩, [(js)]⟩))))) := by kernel_rfl
def atF (f : Nat → Mv) (i : Nat) : Int := (f i).at_
noncomputable def C91 (p : Int) (n c : Nat) (f : Nat → Mv) : ConN where
  A := .agg (.hole (.slice 0 0 .nil)) .nil
  bs := [.list 1 .ro]
  pre x := x = ⟨⟨[I p], [(n, c)]⟩, [mvs n f]⟩
  news _ := [(ordC n f (srt (atF f) n), 97)]
  one := true
  res _ := [.sl 0 n]
theorem C91_ok (p : Int) (n c : Nat) (f : Nat → Mv) (h0 : 0 < n) (hn : n ≤ 7) : ConNOK Try.prog 91 (C91 p n c f) := by
  refine conRow_of rfl vx_sound (C := C91 p n c f) (n := n) (cells := ordC n f (srt (atF f) n)) (e := 97) ⟨⟨[I p], [(n, c)]⟩, [mvs n f]⟩ (fun x => Iff.rfl) rfl rfl rfl ⟨_, (f91 p n c f (ordC n f (srt (atF f) n)) _).mpr ⟨C49_ok p n c f h0 (by omega), rfl, ?_, cl1 (jobsC_atoms n f), loop106o h0 (by omega), ?_, rfl⟩⟩ (mvs_atoms n f) (ordC_atoms n f _) rfl (Nat.le_of_ble_eq_true rfl) (by rw [nglob]; exact Nat.zero_le _)
  · rw [decide_eq_false (by omega)]
  · rw [decide_eq_false (by omega)]
end Go.Ab
set_option maxRecDepth 100000
namespace Go.Ab
open Go Go.RowKit Go.Proofs
def p70 : Loc := .l (.r (.l (.r (.r (.r (.top 70))))))
noncomputable def T70 (sure : Bool) : Tw := ⟨72, mkS 72 [(1, .slice 1 0 .nil), (2, .iface (trI sure) (.agg .nil .nil) .nil), (3, .ptr 2 0 .nil), (7, .map 3 .nil), (8, .slice 4 0 .nil), (20, .slice 5 0 .nil), (21, .hole .nil), (22, .hole .nil)], 6, [.dead, .list 3 .ro, .cells (.hole (.slice 0 0 .nil)) 73 .var, .map, .list 3 .row, .list 97 .row]⟩
noncomputable def finV (f : Nat → Mv) (i : Nat) (m : Int) : Value := .agg ⟨[I (f i).at_, I (f i).place, I (f i).lo, I (f i).hi, I i, I m]⟩
end Go.Ab
