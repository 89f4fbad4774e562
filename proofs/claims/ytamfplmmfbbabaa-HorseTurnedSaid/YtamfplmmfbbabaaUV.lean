/- package horse: which move can follow which one. -/
import Derived.Test.YtamfplmmfbbabaaUU
import Derived.Laws.BitsLemmas
set_option maxRecDepth 100000
namespace Go.Ab
open Go Go.RowKit Go.Proofs
noncomputable def mj (a b : Int) : Mem := ⟨fillX [.cells [I a, I b] 25 .ro] 0 .nil, 1⟩
theorem f74 (a b : Int) (R : ARes → Prop) : (vx.call 74 [slV 0 2 2] (retK R) (mj a b) ([])) =
(R (.ret (.int .i64 (bits BinOp.or IntKind.i64 (bits BinOp.or IntKind.i64 (0 : Int) a) b)))) := by kernel_rfl
def joinI (a b : Int) : Int := bits .or .i64 (bits .or .i64 0 a) b
noncomputable def C74 (a b : Int) : Con where
  A := .slice 0 0 .nil
  bs := [.list 25 .ro]
  pre x := x = ⟨⟨[], [(2, 2)]⟩, [[I a, I b]]⟩
  res _ := .ret (I (joinI a b))
theorem C74_ok (a b : Int) : ConOK Try.prog 74 (C74 a b) := by
  refine con_of vx_sound ⟨⟨[], [(2, 2)]⟩, [[I a, I b]]⟩ (fun x hx => ?_) rfl (fun _ _ => rfl) (fun x hx => ?_) rfl (Nat.le_of_ble_eq_true rfl) (by rw [nglob]; exact Nat.zero_le _)
  · cases hx
    exact ⟨_, (f74 a b _).mpr rfl⟩
  · cases hx
    intro cs hcs
    simp only [List.mem_singleton] at hcs
    subst hcs
    intro v hv
    simp only [List.mem_cons, List.not_mem_nil, or_false] at hv
    rcases hv with rfl | rfl <;> rfl
end Go.Ab
set_option maxRecDepth 100000
namespace Go.Ab
open Go Go.RowKit Go.Proofs
theorem b44it (p done : Int) (i j n c d : Nat) (ms rs os js : List Value) (f : Nat → Mv) (o : Nat → Int) (R : Nat → AExit → Hx → Prop) : (vx.code none (.l p44i) (leafK [T44i true] R) ((T44i true).inst ⟨⟨[I done, I n, I i, I n, I j, I p], [(n, d), (n, d), (n, d), (n, c)]⟩, [ms, rs, os, js, jobV f i]⟩) ([(0, .split ((1, .val (.pointer (.some ⟨((4 : Nat)), ((0 : Nat) + j * (5 : Nat)), .none⟩))) :: (0, .val (.agg ⟨[(.int .i64 ((f j).at_)), (.int .i64 ((f j).place)), (.int .i64 ((f j).lo)), (.int .i64 ((f j).hi)), (.int .i64 j)]⟩)) :: (34, Hint.again) :: [(1, .split ((5, .val (.pointer (.some ⟨((3 : Nat)), ((0 : Nat) + i * (1 : Nat)), .none⟩))) :: (0, .val (.int .i64 (o i))) :: (5, .val (.int .i64 (IntKind.i64.wrap ((1 : Int) * (2 : Int) ^ j)))) :: (1, Hint.again) :: (0, Hint.con (C74 (o i) (IntKind.i64.wrap ((1 : Int) * (2 : Int) ^ j)))) :: (0, Hint.again) :: (0, .val (.pointer (.some ⟨((3 : Nat)), ((0 : Nat) + i * (1 : Nat)), .none⟩))) :: (0, Hint.st) :: [(2, .tm 0 [])]) ([(3, .tm 0 [])]))]) ([(1, .tm 0 [])]))])) =
((((decide ((↑j : Int) < (↑n : Int))) = true → ((((((0 : Int) ≤ (↑j : Int))) ∧ (((↑j : Int) < (↑n : Int)))) ∧ (((.pointer (.some ⟨((4 : Nat)), ((0 : Nat) + j * (5 : Nat)), .none⟩)) : Value) = (.pointer (.some ⟨((4 : Nat)), ((0 : Nat) + j * (5 : Nat)), .none⟩)))) ∧
(((((0 : Nat) + j * (5 : Nat) + (5 : Nat) ≤ js.length)) ∧ (((.agg ⟨[(.int .i64 ((f j).at_)), (.int .i64 ((f j).place)), (.int .i64 ((f j).lo)), (.int .i64 ((f j).hi)), (.int .i64 j)]⟩) : Value) = (.agg ⟨(List.take ((5 : Nat)) (List.drop ((0 : Nat) + j * (5 : Nat)) (js)))⟩))) ∧
(((((some (.int .i64 ((f j).at_)) : Option Value) = some (.int .i64 ((f j).at_)))) ∧ (True)) ∧
(((decide ((f j).at_ ≥ IntKind.i64.wrap (done + IntKind.i64.wrap (p * if IntKind.i64.wrap ((f j).place - (f i).place) > IntKind.i64.wrap ((f i).place - (f j).place) then IntKind.i64.wrap ((f j).place - (f i).place) else IntKind.i64.wrap ((f i).place - (f j).place))))) = true → ((((((0 : Int) ≤ (↑i : Int))) ∧ (((↑i : Int) < (↑(7 : Nat) : Int)))) ∧ (((.pointer (.some ⟨((3 : Nat)), ((0 : Nat) + i * (1 : Nat)), .none⟩)) : Value) = (.pointer (.some ⟨((3 : Nat)), ((0 : Nat) + i * (1 : Nat)), .none⟩)))) ∧
(((os[(0 : Nat) + i * (1 : Nat)]? = some (.int .i64 (o i)))) ∧
((((((0 : Int) ≤ (↑j : Int))) ∧ (((↑j : Int) ≤ (↑(64 : Nat) : Int)))) ∧ (((.int .i64 (IntKind.i64.wrap ((1 : Int) * (2 : Int) ^ j))) : Value) = (.int .i64 (IntKind.i64.wrap ((1 : Int) * (2 : Int) ^ j))))) ∧
((((os[(0 : Nat) + i * (1 : Nat)]? = some (.int .i64 (o i)))) ∧ ((((some (.int .i64 i) : Option Value) = some (.int .i64 i))) ∧ ((((some (.int .i64 i) : Option Value) = some (.int .i64 i))) ∧ (True)))) ∧
((ConOK Try.prog 74 (C74 (o i) (IntKind.i64.wrap ((1 : Int) * (2 : Int) ^ j)))) ∧ (Con.pre (C74 (o i) (IntKind.i64.wrap ((1 : Int) * (2 : Int) ^ j))) ⟨⟨[], [⟨((2 : Nat)), ((2 : Nat))⟩]⟩, [[(.int .i64 (o i)), (.int .i64 (IntKind.i64.wrap ((1 : Int) * (2 : Int) ^ j)))]]⟩) ∧
(((((some (.int .i64 i) : Option Value) = some (.int .i64 i))) ∧ (True)) ∧
((((((0 : Int) ≤ (↑i : Int))) ∧ (((↑i : Int) < (↑(7 : Nat) : Int)))) ∧ (((.pointer (.some ⟨((3 : Nat)), ((0 : Nat) + i * (1 : Nat)), .none⟩)) : Value) = (.pointer (.some ⟨((3 : Nat)), ((0 : Nat) + i * (1 : Nat)), .none⟩)))) ∧
((((0 : Nat) + i * (1 : Nat) + (1 : Nat) ≤ os.length)) ∧
R 0 .normal ⟨⟨[(.int .i64 done), (.int .i64 n), (.int .i64 i), (.int .i64 n), (.int .i64 (IntKind.i64.wrap ((↑j : Int) + (1 : Int)))), (.int .i64 p)], [⟨n, d⟩, ⟨n, d⟩, ⟨n, d⟩, ⟨n, c⟩]⟩, [(ms), (rs), (((List.take ((0 : Nat) + i * (1 : Nat)) (os)) ++ [(.int .i64 (bits BinOp.or IntKind.i64 (bits BinOp.or IntKind.i64 (0 : Int) (o i)) (IntKind.i64.wrap ((1 : Int) * (2 : Int) ^ j))))]) ++ (List.drop ((0 : Nat) + i * (1 : Nat) + (1 : Nat)) (os))), (js), [(.int .i64 ((f i).at_)), (.int .i64 ((f i).place)), (.int .i64 ((f i).lo)), (.int .i64 ((f i).hi)), (.int .i64 i)]]⟩))))))))) ∧
((decide ((f j).at_ ≥ IntKind.i64.wrap (done + IntKind.i64.wrap (p * if IntKind.i64.wrap ((f j).place - (f i).place) > IntKind.i64.wrap ((f i).place - (f j).place) then IntKind.i64.wrap ((f j).place - (f i).place) else IntKind.i64.wrap ((f i).place - (f j).place))))) = false → R 0 .normal ⟨⟨[(.int .i64 done), (.int .i64 n), (.int .i64 i), (.int .i64 n), (.int .i64 (IntKind.i64.wrap ((↑j : Int) + (1 : Int)))), (.int .i64 p)], [⟨n, d⟩, ⟨n, d⟩, ⟨n, d⟩, ⟨n, c⟩]⟩, [(ms), (rs), (os), (js), [(.int .i64 ((f i).at_)), (.int .i64 ((f i).place)), (.int .i64 ((f i).lo)), (.int .i64 ((f i).hi)), (.int .i64 i)]]⟩)))))) ∧
((decide ((↑j : Int) < (↑n : Int))) = false → R 0 (.exit ((2 : Nat))) ⟨⟨[(.int .i64 done), (.int .i64 n), (.int .i64 i), (.int .i64 n), (.int .i64 j), (.int .i64 p)], [⟨n, d⟩, ⟨n, d⟩, ⟨n, d⟩, ⟨n, c⟩]⟩, [(ms), (rs), (os), (js), [(.int .i64 ((f i).at_)), (.int .i64 ((f i).place)), (.int .i64 ((f i).lo)), (.int .i64 ((f i).hi)), (.int .i64 i)]]⟩))) := by kernel_rfl
theorem b44if (p done : Int) (i j n c d : Nat) (ms rs os js : List Value) (f : Nat → Mv) (o : Nat → Int) (R : Nat → AExit → Hx → Prop) : (vx.code none (.l p44i) (leafK [T44i false] R) ((T44i false).inst ⟨⟨[I done, I n, I i, I n, I j, I p], [(n, d), (n, d), (n, d), (n, c)]⟩, [ms, rs, os, js, jobV f i]⟩) ([(0, .split ((1, .val (.pointer (.some ⟨((4 : Nat)), ((0 : Nat) + j * (5 : Nat)), .none⟩))) :: (0, .val (.agg ⟨[(.int .i64 ((f j).at_)), (.int .i64 ((f j).place)), (.int .i64 ((f j).lo)), (.int .i64 ((f j).hi)), (.int .i64 j)]⟩)) :: (34, Hint.again) :: [(1, .split ((5, .val (.pointer (.some ⟨((3 : Nat)), ((0 : Nat) + i * (1 : Nat)), .none⟩))) :: (0, .val (.int .i64 (o i))) :: (5, .val (.int .i64 (IntKind.i64.wrap ((1 : Int) * (2 : Int) ^ j)))) :: (1, Hint.again) :: (0, Hint.con (C74 (o i) (IntKind.i64.wrap ((1 : Int) * (2 : Int) ^ j)))) :: (0, Hint.again) :: (0, .val (.pointer (.some ⟨((3 : Nat)), ((0 : Nat) + i * (1 : Nat)), .none⟩))) :: (0, Hint.st) :: [(2, .tm 0 [])]) ([(3, .tm 0 [])]))]) ([(1, .tm 0 [])]))])) =
((((decide ((↑j : Int) < (↑n : Int))) = true → ((((((0 : Int) ≤ (↑j : Int))) ∧ (((↑j : Int) < (↑n : Int)))) ∧ (((.pointer (.some ⟨((4 : Nat)), ((0 : Nat) + j * (5 : Nat)), .none⟩)) : Value) = (.pointer (.some ⟨((4 : Nat)), ((0 : Nat) + j * (5 : Nat)), .none⟩)))) ∧
(((((0 : Nat) + j * (5 : Nat) + (5 : Nat) ≤ js.length)) ∧ (((.agg ⟨[(.int .i64 ((f j).at_)), (.int .i64 ((f j).place)), (.int .i64 ((f j).lo)), (.int .i64 ((f j).hi)), (.int .i64 j)]⟩) : Value) = (.agg ⟨(List.take ((5 : Nat)) (List.drop ((0 : Nat) + j * (5 : Nat)) (js)))⟩))) ∧
(((((some (.int .i64 ((f j).at_)) : Option Value) = some (.int .i64 ((f j).at_)))) ∧ (True)) ∧
(((decide ((f j).at_ ≥ IntKind.i64.wrap (done + IntKind.i64.wrap (p * if IntKind.i64.wrap ((f j).place - (f i).place) > IntKind.i64.wrap ((f i).place - (f j).place) then IntKind.i64.wrap ((f j).place - (f i).place) else IntKind.i64.wrap ((f i).place - (f j).place))))) = true → ((((((0 : Int) ≤ (↑i : Int))) ∧ (((↑i : Int) < (↑(7 : Nat) : Int)))) ∧ (((.pointer (.some ⟨((3 : Nat)), ((0 : Nat) + i * (1 : Nat)), .none⟩)) : Value) = (.pointer (.some ⟨((3 : Nat)), ((0 : Nat) + i * (1 : Nat)), .none⟩)))) ∧
(((os[(0 : Nat) + i * (1 : Nat)]? = some (.int .i64 (o i)))) ∧
((((((0 : Int) ≤ (↑j : Int))) ∧ (((↑j : Int) ≤ (↑(64 : Nat) : Int)))) ∧ (((.int .i64 (IntKind.i64.wrap ((1 : Int) * (2 : Int) ^ j))) : Value) = (.int .i64 (IntKind.i64.wrap ((1 : Int) * (2 : Int) ^ j))))) ∧
((((os[(0 : Nat) + i * (1 : Nat)]? = some (.int .i64 (o i)))) ∧ ((((some (.int .i64 i) : Option Value) = some (.int .i64 i))) ∧ ((((some (.int .i64 i) : Option Value) = some (.int .i64 i))) ∧ (True)))) ∧
((ConOK Try.prog 74 (C74 (o i) (IntKind.i64.wrap ((1 : Int) * (2 : Int) ^ j)))) ∧ (Con.pre (C74 (o i) (IntKind.i64.wrap ((1 : Int) * (2 : Int) ^ j))) ⟨⟨[], [⟨((2 : Nat)), ((2 : Nat))⟩]⟩, [[(.int .i64 (o i)), (.int .i64 (IntKind.i64.wrap ((1 : Int) * (2 : Int) ^ j)))]]⟩) ∧
(((((some (.int .i64 i) : Option Value) = some (.int .i64 i))) ∧ (True)) ∧
((((((0 : Int) ≤ (↑i : Int))) ∧ (((↑i : Int) < (↑(7 : Nat) : Int)))) ∧ (((.pointer (.some ⟨((3 : Nat)), ((0 : Nat) + i * (1 : Nat)), .none⟩)) : Value) = (.pointer (.some ⟨((3 : Nat)), ((0 : Nat) + i * (1 : Nat)), .none⟩)))) ∧
((((0 : Nat) + i * (1 : Nat) + (1 : Nat) ≤ os.length)) ∧
R 0 .normal ⟨⟨[(.int .i64 done), (.int .i64 n), (.int .i64 i), (.int .i64 n), (.int .i64 (IntKind.i64.wrap ((↑j : Int) + (1 : Int)))), (.int .i64 p)], [⟨n, d⟩, ⟨n, d⟩, ⟨n, d⟩, ⟨n, c⟩]⟩, [(ms), (rs), (((List.take ((0 : Nat) + i * (1 : Nat)) (os)) ++ [(.int .i64 (bits BinOp.or IntKind.i64 (bits BinOp.or IntKind.i64 (0 : Int) (o i)) (IntKind.i64.wrap ((1 : Int) * (2 : Int) ^ j))))]) ++ (List.drop ((0 : Nat) + i * (1 : Nat) + (1 : Nat)) (os))), (js), [(.int .i64 ((f i).at_)), (.int .i64 ((f i).place)), (.int .i64 ((f i).lo)), (.int .i64 ((f i).hi)), (.int .i64 i)]]⟩))))))))) ∧
((decide ((f j).at_ ≥ IntKind.i64.wrap (done + IntKind.i64.wrap (p * if IntKind.i64.wrap ((f j).place - (f i).place) > IntKind.i64.wrap ((f i).place - (f j).place) then IntKind.i64.wrap ((f j).place - (f i).place) else IntKind.i64.wrap ((f i).place - (f j).place))))) = false → R 0 .normal ⟨⟨[(.int .i64 done), (.int .i64 n), (.int .i64 i), (.int .i64 n), (.int .i64 (IntKind.i64.wrap ((↑j : Int) + (1 : Int)))), (.int .i64 p)], [⟨n, d⟩, ⟨n, d⟩, ⟨n, d⟩, ⟨n, c⟩]⟩, [(ms), (rs), (os), (js), [(.int .i64 ((f i).at_)), (.int .i64 ((f i).place)), (.int .i64 ((f i).lo)), (.int .i64 ((f i).hi)), (.int .i64 i)]]⟩)))))) ∧
((decide ((↑j : Int) < (↑n : Int))) = false → R 0 (.exit ((2 : Nat))) ⟨⟨[(.int .i64 done), (.int .i64 n), (.int .i64 i), (.int .i64 n), (.int .i64 j), (.int .i64 p)], [⟨n, d⟩, ⟨n, d⟩, ⟨n, d⟩, ⟨n, c⟩]⟩, [(ms), (rs), (os), (js), [(.int .i64 ((f i).at_)), (.int .i64 ((f i).place)), (.int .i64 ((f i).lo)), (.int .i64 ((f i).hi)), (.int .i64 i)]]⟩))) := by kernel_rfl
theorem b44ot (p done : Int) (i n c d : Nat) (ms rs os os2 js : List Value) (f : Nat → Mv) (R : Nat → AExit → Hx → Prop) : (vx.code none (.l p44o) (leafK [T44o true] R) ((T44o true).inst ⟨⟨[I n, I i, I p], [(n, d), (n, d), (n, c)]⟩, [ms, rs, os, js]⟩) ([(0, .split ((1, .val (.pointer (.some ⟨((4 : Nat)), ((0 : Nat) + i * (5 : Nat)), .none⟩))) :: (0, .val (.agg ⟨[(.int .i64 ((f i).at_)), (.int .i64 ((f i).place)), (.int .i64 ((f i).lo)), (.int .i64 ((f i).hi)), (.int .i64 i)]⟩)) :: (16, Hint.again) :: (5, Hint.loopT (T44i true) (AExit.exit (2 : Nat)) (T44i true) fun _ => { hs := { vs := [I done, I (↑n : Int), I (↑i : Int), I (↑n : Int), I (↑n : Int), I p], ns := [(n, d), (n, d), (n, d), (n, c)] }, ls := [ms, rs, os2, js, jobV f i] }) :: [(2, .tm 0 [])]) ([(1, .tm 0 [])]))])) =
((((decide ((↑i : Int) < (↑n : Int))) = true → ((((((0 : Int) ≤ (↑i : Int))) ∧ (((↑i : Int) < (↑n : Int)))) ∧ (((.pointer (.some ⟨((4 : Nat)), ((0 : Nat) + i * (5 : Nat)), .none⟩)) : Value) = (.pointer (.some ⟨((4 : Nat)), ((0 : Nat) + i * (5 : Nat)), .none⟩)))) ∧
(((((0 : Nat) + i * (5 : Nat) + (5 : Nat) ≤ js.length)) ∧ (((.agg ⟨[(.int .i64 ((f i).at_)), (.int .i64 ((f i).place)), (.int .i64 ((f i).lo)), (.int .i64 ((f i).hi)), (.int .i64 i)]⟩) : Value) = (.agg ⟨(List.take ((5 : Nat)) (List.drop ((0 : Nat) + i * (5 : Nat)) (js)))⟩))) ∧
(((((some (.int .i64 ((f i).at_)) : Option Value) = some (.int .i64 ((f i).at_)))) ∧ (True)) ∧
((Atoms [(ms), (rs), (os), (js), [(.int .i64 ((f i).at_)), (.int .i64 ((f i).place)), (.int .i64 ((f i).lo)), (.int .i64 ((f i).hi)), (.int .i64 i)]]) ∧ (LoopOK Try.prog .none p44i (T44i true) ⟨⟨[(.int .i64 (IntKind.i64.wrap ((f i).at_ + (f i).hi))), (.int .i64 n), (.int .i64 i), (.int .i64 n), (.int .i64 0), (.int .i64 p)], [⟨n, d⟩, ⟨n, d⟩, ⟨n, d⟩, ⟨n, c⟩]⟩, [(ms), (rs), (os), (js), [(.int .i64 ((f i).at_)), (.int .i64 ((f i).place)), (.int .i64 ((f i).lo)), (.int .i64 ((f i).hi)), (.int .i64 i)]]⟩ (.exit ((2 : Nat))) (T44i true) ⟨⟨[(.int .i64 done), (.int .i64 n), (.int .i64 i), (.int .i64 n), (.int .i64 n), (.int .i64 p)], [⟨n, d⟩, ⟨n, d⟩, ⟨n, d⟩, ⟨n, c⟩]⟩, [(ms), (rs), (os2), (js), [(.int .i64 ((f i).at_)), (.int .i64 ((f i).place)), (.int .i64 ((f i).lo)), (.int .i64 ((f i).hi)), (.int .i64 i)]]⟩) ∧
R 0 .normal ⟨⟨[(.int .i64 n), (.int .i64 (IntKind.i64.wrap ((↑i : Int) + (1 : Int)))), (.int .i64 p)], [⟨n, d⟩, ⟨n, d⟩, ⟨n, c⟩]⟩, [(ms), (rs), (os2), (js)]⟩))))) ∧
((decide ((↑i : Int) < (↑n : Int))) = false → R 0 (.exit ((0 : Nat))) ⟨⟨[(.int .i64 n), (.int .i64 i), (.int .i64 p)], [⟨n, d⟩, ⟨n, d⟩, ⟨n, c⟩]⟩, [(ms), (rs), (os), (js)]⟩))) := by kernel_rfl
theorem b44of (p done : Int) (i n c d : Nat) (ms rs os os2 js : List Value) (f : Nat → Mv) (R : Nat → AExit → Hx → Prop) : (vx.code none (.l p44o) (leafK [T44o false] R) ((T44o false).inst ⟨⟨[I n, I i, I p], [(n, d), (n, d), (n, c)]⟩, [ms, rs, os, js]⟩) ([(0, .split ((1, .val (.pointer (.some ⟨((4 : Nat)), ((0 : Nat) + i * (5 : Nat)), .none⟩))) :: (0, .val (.agg ⟨[(.int .i64 ((f i).at_)), (.int .i64 ((f i).place)), (.int .i64 ((f i).lo)), (.int .i64 ((f i).hi)), (.int .i64 i)]⟩)) :: (16, Hint.again) :: (5, Hint.loopT (T44i false) (AExit.exit (2 : Nat)) (T44i false) fun _ => { hs := { vs := [I done, I (↑n : Int), I (↑i : Int), I (↑n : Int), I (↑n : Int), I p], ns := [(n, d), (n, d), (n, d), (n, c)] }, ls := [ms, rs, os2, js, jobV f i] }) :: [(2, .tm 0 [])]) ([(1, .tm 0 [])]))])) =
((((decide ((↑i : Int) < (↑n : Int))) = true → ((((((0 : Int) ≤ (↑i : Int))) ∧ (((↑i : Int) < (↑n : Int)))) ∧ (((.pointer (.some ⟨((4 : Nat)), ((0 : Nat) + i * (5 : Nat)), .none⟩)) : Value) = (.pointer (.some ⟨((4 : Nat)), ((0 : Nat) + i * (5 : Nat)), .none⟩)))) ∧
(((((0 : Nat) + i * (5 : Nat) + (5 : Nat) ≤ js.length)) ∧ (((.agg ⟨[(.int .i64 ((f i).at_)), (.int .i64 ((f i).place)), (.int .i64 ((f i).lo)), (.int .i64 ((f i).hi)), (.int .i64 i)]⟩) : Value) = (.agg ⟨(List.take ((5 : Nat)) (List.drop ((0 : Nat) + i * (5 : Nat)) (js)))⟩))) ∧
(((((some (.int .i64 ((f i).at_)) : Option Value) = some (.int .i64 ((f i).at_)))) ∧ (True)) ∧
((Atoms [(ms), (rs), (os), (js), [(.int .i64 ((f i).at_)), (.int .i64 ((f i).place)), (.int .i64 ((f i).lo)), (.int .i64 ((f i).hi)), (.int .i64 i)]]) ∧ (LoopOK Try.prog .none p44i (T44i false) ⟨⟨[(.int .i64 (IntKind.i64.wrap ((f i).at_ + (f i).lo))), (.int .i64 n), (.int .i64 i), (.int .i64 n), (.int .i64 0), (.int .i64 p)], [⟨n, d⟩, ⟨n, d⟩, ⟨n, d⟩, ⟨n, c⟩]⟩, [(ms), (rs), (os), (js), [(.int .i64 ((f i).at_)), (.int .i64 ((f i).place)), (.int .i64 ((f i).lo)), (.int .i64 ((f i).hi)), (.int .i64 i)]]⟩ (.exit ((2 : Nat))) (T44i false) ⟨⟨[(.int .i64 done), (.int .i64 n), (.int .i64 i), (.int .i64 n), (.int .i64 n), (.int .i64 p)], [⟨n, d⟩, ⟨n, d⟩, ⟨n, d⟩, ⟨n, c⟩]⟩, [(ms), (rs), (os2), (js), [(.int .i64 ((f i).at_)), (.int .i64 ((f i).place)), (.int .i64 ((f i).lo)), (.int .i64 ((f i).hi)), (.int .i64 i)]]⟩) ∧
R 0 .normal ⟨⟨[(.int .i64 n), (.int .i64 (IntKind.i64.wrap ((↑i : Int) + (1 : Int)))), (.int .i64 p)], [⟨n, d⟩, ⟨n, d⟩, ⟨n, c⟩]⟩, [(ms), (rs), (os2), (js)]⟩))))) ∧
((decide ((↑i : Int) < (↑n : Int))) = false → R 0 (.exit ((0 : Nat))) ⟨⟨[(.int .i64 n), (.int .i64 i), (.int .i64 p)], [⟨n, d⟩, ⟨n, d⟩, ⟨n, c⟩]⟩, [(ms), (rs), (os), (js)]⟩))) := by kernel_rfl
theorem f44t (p : Int) (n c : Nat) (ms : List Value) (f : Nat → Mv) (o : Nat → Int) (R : ARes → Prop) : (vx.call 44 [hV p n c, tr true] (retK R) (m1 ms) ((5, Hint.conN (C49 p n c f)) :: (4, Hint.loopT (T44o true) (AExit.exit (0 : Nat)) (T44o true) fun _ => { hs := { vs := [I (↑n : Int), I (↑n : Int), I p], ns := [(n, n), (n, n), (n, c)] }, ls := [ms, Is [(0 : Int), (0 : Int), (0 : Int), (0 : Int), (0 : Int), (0 : Int), (0 : Int)], Is [o (0 : Nat), o (1 : Nat), o (2 : Nat), o (3 : Nat), o (4 : Nat), o (5 : Nat), o (6 : Nat)], jobsC n f] }) :: [])) =
(((ConNOK Try.prog 49 (C49 p n c f)) ∧ (ConN.pre (C49 p n c f) ⟨⟨[(.int .i64 p)], [⟨n, c⟩]⟩, [(ms)]⟩) ∧
((Atoms [(ms), [(.int .i64 0), (.int .i64 0), (.int .i64 0), (.int .i64 0), (.int .i64 0), (.int .i64 0), (.int .i64 0)], [(.int .i64 0), (.int .i64 0), (.int .i64 0), (.int .i64 0), (.int .i64 0), (.int .i64 0), (.int .i64 0)], (jobsC n f)]) ∧ (LoopOK Try.prog .none p44o (T44o true) ⟨⟨[(.int .i64 n), (.int .i64 0), (.int .i64 p)], [⟨n, n⟩, ⟨n, n⟩, ⟨n, c⟩]⟩, [(ms), [(.int .i64 0), (.int .i64 0), (.int .i64 0), (.int .i64 0), (.int .i64 0), (.int .i64 0), (.int .i64 0)], [(.int .i64 0), (.int .i64 0), (.int .i64 0), (.int .i64 0), (.int .i64 0), (.int .i64 0), (.int .i64 0)], (jobsC n f)]⟩ (.exit ((0 : Nat))) (T44o true) ⟨⟨[(.int .i64 n), (.int .i64 n), (.int .i64 p)], [⟨n, n⟩, ⟨n, n⟩, ⟨n, c⟩]⟩, [(ms), [(.int .i64 0), (.int .i64 0), (.int .i64 0), (.int .i64 0), (.int .i64 0), (.int .i64 0), (.int .i64 0)], [(.int .i64 (o (0 : Nat))), (.int .i64 (o (1 : Nat))), (.int .i64 (o (2 : Nat))), (.int .i64 (o (3 : Nat))), (.int .i64 (o (4 : Nat))), (.int .i64 (o (5 : Nat))), (.int .i64 (o (6 : Nat)))], (jobsC n f)]⟩) ∧
R (.ret (.agg ⟨[(.int .i64 (o (0 : Nat))), (.int .i64 (o (1 : Nat))), (.int .i64 (o (2 : Nat))), (.int .i64 (o (3 : Nat))), (.int .i64 (o (4 : Nat))), (.int .i64 (o (5 : Nat))), (.int .i64 (o (6 : Nat)))]⟩))))) := by kernel_rfl
theorem f44f (p : Int) (n c : Nat) (ms : List Value) (f : Nat → Mv) (o : Nat → Int) (R : ARes → Prop) : (vx.call 44 [hV p n c, tr false] (retK R) (m1 ms) ((5, Hint.conN (C49 p n c f)) :: (4, Hint.loopT (T44o false) (AExit.exit (0 : Nat)) (T44o false) fun _ => { hs := { vs := [I (↑n : Int), I (↑n : Int), I p], ns := [(n, n), (n, n), (n, c)] }, ls := [ms, Is [(0 : Int), (0 : Int), (0 : Int), (0 : Int), (0 : Int), (0 : Int), (0 : Int)], Is [o (0 : Nat), o (1 : Nat), o (2 : Nat), o (3 : Nat), o (4 : Nat), o (5 : Nat), o (6 : Nat)], jobsC n f] }) :: [])) =
(((ConNOK Try.prog 49 (C49 p n c f)) ∧ (ConN.pre (C49 p n c f) ⟨⟨[(.int .i64 p)], [⟨n, c⟩]⟩, [(ms)]⟩) ∧
((Atoms [(ms), [(.int .i64 0), (.int .i64 0), (.int .i64 0), (.int .i64 0), (.int .i64 0), (.int .i64 0), (.int .i64 0)], [(.int .i64 0), (.int .i64 0), (.int .i64 0), (.int .i64 0), (.int .i64 0), (.int .i64 0), (.int .i64 0)], (jobsC n f)]) ∧ (LoopOK Try.prog .none p44o (T44o false) ⟨⟨[(.int .i64 n), (.int .i64 0), (.int .i64 p)], [⟨n, n⟩, ⟨n, n⟩, ⟨n, c⟩]⟩, [(ms), [(.int .i64 0), (.int .i64 0), (.int .i64 0), (.int .i64 0), (.int .i64 0), (.int .i64 0), (.int .i64 0)], [(.int .i64 0), (.int .i64 0), (.int .i64 0), (.int .i64 0), (.int .i64 0), (.int .i64 0), (.int .i64 0)], (jobsC n f)]⟩ (.exit ((0 : Nat))) (T44o false) ⟨⟨[(.int .i64 n), (.int .i64 n), (.int .i64 p)], [⟨n, n⟩, ⟨n, n⟩, ⟨n, c⟩]⟩, [(ms), [(.int .i64 0), (.int .i64 0), (.int .i64 0), (.int .i64 0), (.int .i64 0), (.int .i64 0), (.int .i64 0)], [(.int .i64 (o (0 : Nat))), (.int .i64 (o (1 : Nat))), (.int .i64 (o (2 : Nat))), (.int .i64 (o (3 : Nat))), (.int .i64 (o (4 : Nat))), (.int .i64 (o (5 : Nat))), (.int .i64 (o (6 : Nat)))], (jobsC n f)]⟩) ∧
R (.ret (.agg ⟨[(.int .i64 (o (0 : Nat))), (.int .i64 (o (1 : Nat))), (.int .i64 (o (2 : Nat))), (.int .i64 (o (3 : Nat))), (.int .i64 (o (4 : Nat))), (.int .i64 (o (5 : Nat))), (.int .i64 (o (6 : Nat)))]⟩))))) := by kernel_rfl
theorem z44t (p : Int) (c : Nat) (ms : List Value) (R : ARes → Prop) : (vx.call 44 [hV p 0 c, tr true] (retK R) (m1 ms) ([])) =
(R (.ret (.agg ⟨[(.int .i64 0), (.int .i64 0), (.int .i64 0), (.int .i64 0), (.int .i64 0), (.int .i64 0), (.int .i64 0)]⟩))) := by kernel_rfl
theorem z44f (p : Int) (c : Nat) (ms : List Value) (R : ARes → Prop) : (vx.call 44 [hV p 0 c, tr false] (retK R) (m1 ms) ([])) =
(R (.ret (.agg ⟨[(.int .i64 0), (.int .i64 0), (.int .i64 0), (.int .i64 0), (.int .i64 0), (.int .i64 0), (.int .i64 0)]⟩))) := by kernel_rfl
def canW (p done : Int) (a b : Mv) : Bool := decide (b.at_ ≥ IntKind.i64.wrap (done + IntKind.i64.wrap (p * if IntKind.i64.wrap (b.place - a.place) > IntKind.i64.wrap (a.place - b.place) then IntKind.i64.wrap (b.place - a.place) else IntKind.i64.wrap (a.place - b.place))))
def doneW (sure : Bool) (a : Mv) : Int := IntKind.i64.wrap (a.at_ + cond sure a.hi a.lo)
def canB (sure : Bool) (p : Int) (f : Nat → Mv) (i j : Nat) : Bool := canW p (doneW sure (f i)) (f i) (f j)
def oneI (j : Nat) : Int := IntKind.i64.wrap (1 * 2 ^ j)
def rowI (b : Nat → Bool) (x : Int) : Nat → Int
  | 0 => x
  | j + 1 => if b j then joinI (rowI b x j) (oneI j) else rowI b x j
def updF (o : Nat → Int) (i : Nat) (v : Int) : Nat → Int := fun k => if k = i then v else o k
theorem updF_same (o : Nat → Int) (i : Nat) (v : Int) : updF o i v i = v := by simp [updF]
theorem updF_twice (o : Nat → Int) (i : Nat) (v w : Int) : updF (updF o i v) i w = updF o i w := by funext k; simp only [updF]; split <;> rfl
theorem updF_id (o : Nat → Int) (i : Nat) : updF o i (o i) = o := by funext k; simp only [updF]; split <;> simp_all
theorem ints_len (n : Nat) (o : Nat → Int) : (ints n o).length = n := by have := flatC_len (n := n) (k := 1) (g := fun i => [I (o i)]) (fun _ _ => rfl); simpa [ints] using this
theorem ints_set {i : Nat} (o : Nat → Int) (v : Int) (hi : i < 7) : ((ints 7 o).take (0 + i * 1) ++ [I v]) ++ (ints 7 o).drop (0 + i * 1 + 1) = ints 7 (updF o i v) := by
  have hi' : i = 0 ∨ i = 1 ∨ i = 2 ∨ i = 3 ∨ i = 4 ∨ i = 5 ∨ i = 6 := by omega
  rcases hi' with rfl | rfl | rfl | rfl | rfl | rfl | rfl <;> rfl
noncomputable def h44i (p done : Int) (n c d : Nat) (f : Nat → Mv) (o : Nat → Int) (i j : Nat) : Hx := ⟨⟨[I done, I n, I i, I n, I j, I p], [(n, d), (n, d), (n, d), (n, c)]⟩, [mvs n f, Is [0, 0, 0, 0, 0, 0, 0], ints 7 (updF o i (rowI (fun j => canW p done (f i) (f j)) (o i) j)), jobsC n f, jobV f i]⟩
theorem atoms44 (n : Nat) (f : Nat → Mv) (o : Nat → Int) (i : Nat) : Atoms [mvs n f, Is [0, 0, 0, 0, 0, 0, 0], ints 7 o, jobsC n f, jobV f i] := by
  intro cs hcs
  simp only [List.mem_cons, List.not_mem_nil, or_false] at hcs
  rcases hcs with rfl | rfl | rfl | rfl | rfl
  · exact mvs_atoms n f _ (by simp)
  · intro v hv
    simp only [Is, List.map_cons, List.map_nil, List.mem_cons, List.not_mem_nil, or_false] at hv
    rcases hv with rfl | rfl | rfl | rfl | rfl | rfl | rfl <;> rfl
  · exact ints_atoms 7 o _ (by simp)
  · exact jobsC_atoms n f
  · intro v hv
    simp only [jobV, List.mem_cons, List.not_mem_nil, or_false] at hv
    rcases hv with rfl | rfl | rfl | rfl | rfl <;> rfl
theorem jobs_part {n i : Nat} (f : Nat → Mv) (h : i < n) : ((jobsC n f).drop (0 + i * 5)).take 5 = jobV f i := by
  rw [Nat.zero_add]; exact flatC_part (k := 5) (fun i _ => rfl) h
theorem round44i (sure : Bool) {p done : Int} {n c d : Nat} {f : Nat → Mv} {o : Nat → Int} {i j : Nat} (hn : n ≤ 7) (hi : i < n) {R : Nat → AExit → Hx → Prop} (h1 : j < n → R 0 .normal (h44i p done n c d f o i (j + 1))) (h2 : ¬ j < n → R 0 (.exit 2) (h44i p done n c d f o i j)) :
    ∃ hs, vx.code none (.l p44i) (leafK [T44i sure] R) ((T44i sure).inst (h44i p done n c d f o i j)) hs := by
  have key : ∀ (v : Int), (j < n → canW p done (f i) (f j) = true → v = joinI (rowI (fun j => canW p done (f i) (f j)) (o i) j) (oneI j) → ints 7 (updF (updF o i (rowI (fun j => canW p done (f i) (f j)) (o i) j)) i v) = ints 7 (updF o i (rowI (fun j => canW p done (f i) (f j)) (o i) (j + 1)))) := fun v _ hc hv => by
    rw [updF_twice, hv]
    simp only [rowI, hc, if_true]
  have keyF : canW p done (f i) (f j) = false → rowI (fun j => canW p done (f i) (f j)) (o i) (j + 1) = rowI (fun j => canW p done (f i) (f j)) (o i) j := fun hc => by simp [rowI, hc]
  have hw : j < n → IntKind.i64.wrap ((j : Int) + 1) = ((j + 1 : Nat) : Int) := fun _ => wrapI (by omega) (by omega)
  cases sure
  · refine ⟨_, (b44if p done i j n c d (mvs n f) (Is [0, 0, 0, 0, 0, 0, 0]) (ints 7 (updF o i (rowI (fun j => canW p done (f i) (f j)) (o i) j))) (jobsC n f) f (updF o i (rowI (fun j => canW p done (f i) (f j)) (o i) j)) R).mpr ⟨fun h => ?_, fun h => ?_⟩⟩
    · have hj : j < n := by simpa using h
      have h1 := h1 hj
      refine ⟨⟨⟨by omega, by omega⟩, rfl⟩, ⟨by rw [jobsC_len]; have := flatC_bound (k := 5) hj; omega, by rw [jobs_part f hj]; rfl⟩, ⟨rfl, trivial⟩, fun hc => ?_, fun hc => ?_⟩
      · refine ⟨⟨⟨by omega, by omega⟩, rfl⟩, ints_get _ (by omega), ⟨⟨by omega, by omega⟩, rfl⟩, ⟨ints_get _ (by omega), rfl, rfl, trivial⟩, C74_ok _ _, rfl, ⟨rfl, trivial⟩, ⟨⟨by omega, by omega⟩, rfl⟩, by rw [ints_len]; omega, ?_⟩
        rw [hw hj]
        have e := key (joinI (updF o i (rowI (fun j => canW p done (f i) (f j)) (o i) j) i) (oneI j)) hj hc (by rw [updF_same])
        have e2 := ints_set (updF o i (rowI (fun j => canW p done (f i) (f j)) (o i) j)) (joinI (updF o i (rowI (fun j => canW p done (f i) (f j)) (o i) j) i) (oneI j)) (show i < 7 by omega)
        have e3 := e2.trans e
        simp only [h44i, ← e3] at h1
        exact h1
      · rw [hw hj]
        simp only [h44i, keyF hc] at h1
        exact h1
    · exact h2 (by simpa using h)
  · refine ⟨_, (b44it p done i j n c d (mvs n f) (Is [0, 0, 0, 0, 0, 0, 0]) (ints 7 (updF o i (rowI (fun j => canW p done (f i) (f j)) (o i) j))) (jobsC n f) f (updF o i (rowI (fun j => canW p done (f i) (f j)) (o i) j)) R).mpr ⟨fun h => ?_, fun h => ?_⟩⟩
    · have hj : j < n := by simpa using h
      have h1 := h1 hj
      refine ⟨⟨⟨by omega, by omega⟩, rfl⟩, ⟨by rw [jobsC_len]; have := flatC_bound (k := 5) hj; omega, by rw [jobs_part f hj]; rfl⟩, ⟨rfl, trivial⟩, fun hc => ?_, fun hc => ?_⟩
      · refine ⟨⟨⟨by omega, by omega⟩, rfl⟩, ints_get _ (by omega), ⟨⟨by omega, by omega⟩, rfl⟩, ⟨ints_get _ (by omega), rfl, rfl, trivial⟩, C74_ok _ _, rfl, ⟨rfl, trivial⟩, ⟨⟨by omega, by omega⟩, rfl⟩, by rw [ints_len]; omega, ?_⟩
        rw [hw hj]
        have e := key (joinI (updF o i (rowI (fun j => canW p done (f i) (f j)) (o i) j) i) (oneI j)) hj hc (by rw [updF_same])
        have e2 := ints_set (updF o i (rowI (fun j => canW p done (f i) (f j)) (o i) j)) (joinI (updF o i (rowI (fun j => canW p done (f i) (f j)) (o i) j) i) (oneI j)) (show i < 7 by omega)
        have e3 := e2.trans e
        simp only [h44i, ← e3] at h1
        exact h1
      · rw [hw hj]
        simp only [h44i, keyF hc] at h1
        exact h1
    · exact h2 (by simpa using h)
theorem loop44i (sure : Bool) {p done : Int} {n c d : Nat} {f : Nat → Mv} {o : Nat → Int} {i : Nat} (hn : n ≤ 7) (hi : i < n) : LoopOK Try.prog none p44i (T44i sure) (h44i p done n c d f o i 0) (.exit 2) (T44i sure) (h44i p done n c d f o i n) := by
  refine loop_vc (Ts := [T44i sure]) (k := 8) (X := Nat) (inv := fun j => j ≤ n) (μ := fun j => n - j) (st := fun j => (0, h44i p done n c d f o i j)) (out := fun _ => (.exit 2, 0, h44i p done n c d f o i n)) rfl vx_sound ?_ (by rw [nglob]; omega) (fun j hj => ?_) (Nat.zero_le n) (x := 0) rfl (Nat.le_of_ble_eq_true rfl) (by decide) rfl
  · intro T hT; simp only [List.mem_singleton] at hT; subst hT; rfl
  · obtain ⟨hs, hr⟩ := round44i sure (p := p) (done := done) (c := c) (d := d) (f := f) (o := o) (j := j) hn hi (R := RoundR (fun j => j ≤ n) (fun j => n - j) (fun j => (0, h44i p done n c d f o i j)) (fun _ => (.exit 2, 0, h44i p done n c d f o i n)) j)
      (fun h => ⟨⟨atoms44 n f _ i, trivial⟩, .inl ⟨rfl, j + 1, by omega, by show n - (j + 1) < n - j; omega, rfl, rfl⟩⟩)
      (fun h => ⟨⟨atoms44 n f _ i, trivial⟩, .inr ⟨by simp, by
        have e : j = n := by omega
        subst e; rfl⟩⟩)
    exact ⟨T44i sure, hs, rfl, hr⟩
def ordF (sure : Bool) (p : Int) (n : Nat) (f : Nat → Mv) (i k : Nat) : Int := if k < i then rowI (canB sure p f k) 0 n else 0
noncomputable def h44o (sure : Bool) (p : Int) (n c d : Nat) (f : Nat → Mv) (i : Nat) : Hx := ⟨⟨[I n, I i, I p], [(n, d), (n, d), (n, c)]⟩, [mvs n f, Is [0, 0, 0, 0, 0, 0, 0], ints 7 (ordF sure p n f i), jobsC n f]⟩
theorem atoms44o (n : Nat) (f : Nat → Mv) (o : Nat → Int) : Atoms [mvs n f, Is [0, 0, 0, 0, 0, 0, 0], ints 7 o, jobsC n f] := fun cs hcs => atoms44 n f o 0 cs (by
  simp only [List.mem_cons, List.not_mem_nil, or_false] at hcs ⊢
  rcases hcs with rfl | rfl | rfl | rfl <;> simp)
theorem ord_next (sure : Bool) (p : Int) (n : Nat) (f : Nat → Mv) (i : Nat) : updF (ordF sure p n f i) i (rowI (fun j => canW p (doneW sure (f i)) (f i) (f j)) (ordF sure p n f i i) n) = ordF sure p n f (i + 1) := by
  have e0 : ordF sure p n f i i = 0 := by simp [ordF]
  rw [e0]
  funext k
  simp only [updF, ordF]
  by_cases h : k = i
  · subst h
    rw [if_pos rfl, if_pos (by omega)]
    rfl
  · rw [if_neg h]
    by_cases h2 : k < i
    · rw [if_pos h2, if_pos (by omega)]
    · rw [if_neg h2, if_neg (by omega)]
theorem round44o (sure : Bool) {p : Int} {n c d : Nat} {f : Nat → Mv} {i : Nat} (hn : n ≤ 7) {R : Nat → AExit → Hx → Prop} (h1 : i < n → R 0 .normal (h44o sure p n c d f (i + 1))) (h2 : ¬ i < n → R 0 (.exit 0) (h44o sure p n c d f i)) :
    ∃ hs, vx.code none (.l p44o) (leafK [T44o sure] R) ((T44o sure).inst (h44o sure p n c d f i)) hs := by
  have hw : i < n → IntKind.i64.wrap ((i : Int) + 1) = ((i + 1 : Nat) : Int) := fun _ => wrapI (by omega) (by omega)
  have hl := fun hi : i < n => loop44i sure (p := p) (done := doneW sure (f i)) (c := c) (d := d) (f := f) (o := ordF sure p n f i) hn hi
  simp only [h44i, rowI, updF_id, ord_next] at hl
  cases sure
  · refine ⟨_, (b44of p (doneW false (f i)) i n c d (mvs n f) (Is [0, 0, 0, 0, 0, 0, 0]) (ints 7 (ordF false p n f i)) (ints 7 (ordF false p n f (i + 1))) (jobsC n f) f R).mpr ⟨fun h => ?_, fun h => ?_⟩⟩
    · have hi : i < n := by simpa using h
      refine ⟨⟨⟨by omega, by omega⟩, rfl⟩, ⟨by rw [jobsC_len]; have := flatC_bound (k := 5) hi; omega, by rw [jobs_part f hi]; rfl⟩, ⟨rfl, trivial⟩, atoms44 n f _ i, hl hi, ?_⟩
      rw [hw hi]
      exact h1 hi
    · exact h2 (by simpa using h)
  · refine ⟨_, (b44ot p (doneW true (f i)) i n c d (mvs n f) (Is [0, 0, 0, 0, 0, 0, 0]) (ints 7 (ordF true p n f i)) (ints 7 (ordF true p n f (i + 1))) (jobsC n f) f R).mpr ⟨fun h => ?_, fun h => ?_⟩⟩
    · have hi : i < n := by simpa using h
      refine ⟨⟨⟨by omega, by omega⟩, rfl⟩, ⟨by rw [jobsC_len]; have := flatC_bound (k := 5) hi; omega, by rw [jobs_part f hi]; rfl⟩, ⟨rfl, trivial⟩, atoms44 n f _ i, hl hi, ?_⟩
      rw [hw hi]
      exact h1 hi
    · exact h2 (by simpa using h)
theorem loop44o (sure : Bool) {p : Int} {n c d : Nat} {f : Nat → Mv} (hn : n ≤ 7) : LoopOK Try.prog none p44o (T44o sure) (h44o sure p n c d f 0) (.exit 0) (T44o sure) (h44o sure p n c d f n) := by
  refine loop_vc (Ts := [T44o sure]) (k := 5) (X := Nat) (inv := fun j => j ≤ n) (μ := fun j => n - j) (st := fun j => (0, h44o sure p n c d f j)) (out := fun _ => (.exit 0, 0, h44o sure p n c d f n)) rfl vx_sound ?_ (by rw [nglob]; omega) (fun j hj => ?_) (Nat.zero_le n) (x := 0) rfl (Nat.le_of_ble_eq_true rfl) (by decide) rfl
  · intro T hT; simp only [List.mem_singleton] at hT; subst hT; rfl
  · obtain ⟨hs, hr⟩ := round44o sure (p := p) (c := c) (d := d) (f := f) (i := j) hn (R := RoundR (fun j => j ≤ n) (fun j => n - j) (fun j => (0, h44o sure p n c d f j)) (fun _ => (.exit 0, 0, h44o sure p n c d f n)) j)
      (fun h => ⟨⟨atoms44o n f _, trivial⟩, .inl ⟨rfl, j + 1, by omega, by show n - (j + 1) < n - j; omega, rfl, rfl⟩⟩)
      (fun h => ⟨⟨atoms44o n f _, trivial⟩, .inr ⟨by simp, by
        have e : j = n := by omega
        subst e; rfl⟩⟩)
    exact ⟨T44o sure, hs, rfl, hr⟩
noncomputable def C44 (sure : Bool) (p : Int) (n c : Nat) (f : Nat → Mv) : Con where
  A := .agg (.hole (.slice 0 0 .nil)) (.iface (trI sure) (.agg .nil .nil) .nil)
  bs := [.list 1 .ro]
  pre x := x = ⟨⟨[I p], [(n, c)]⟩, [mvs n f]⟩
  res _ := .ret (.agg ⟨ints 7 (ordF sure p n f n)⟩)
theorem C44_ok (sure : Bool) (p : Int) (n c : Nat) (f : Nat → Mv) (hn : n ≤ 7) : ConOK Try.prog 44 (C44 sure p n c f) := by
  refine con_of vx_sound ⟨⟨[I p], [(n, c)]⟩, [mvs n f]⟩ (fun x hx => ?_) rfl (fun _ _ => rfl) (fun x hx => by cases hx; exact mvs_atoms n f) rfl (Nat.le_of_ble_eq_true rfl) (by rw [nglob]; exact Nat.zero_le _)
  cases hx
  rcases Nat.eq_zero_or_pos n with h0 | h0
  · subst h0
    cases sure
    · exact ⟨_, (z44f p c (mvs 0 f) _).mpr rfl⟩
    · exact ⟨_, (z44t p c (mvs 0 f) _).mpr rfl⟩
  · have hl := loop44o sure (p := p) (c := c) (d := n) (f := f) hn
    have hp : ∀ b, (C49 p n b f).pre ⟨⟨[I p], [(n, b)]⟩, [mvs n f]⟩ := fun _ => rfl
    cases sure
    · exact ⟨_, (f44f p n c (mvs n f) f (ordF false p n f n) _).mpr ⟨C49_ok p n c f h0 (by omega), hp c, atoms44o n f (ordF false p n f 0), hl, rfl⟩⟩
    · exact ⟨_, (f44t p n c (mvs n f) f (ordF true p n f n) _).mpr ⟨C49_ok p n c f h0 (by omega), hp c, atoms44o n f (ordF true p n f 0), hl, rfl⟩⟩
end Go.Ab
set_option maxRecDepth 100000
namespace Go.Ab
open Go Go.RowKit Go.Proofs
noncomputable def C68t (p : Int) (n c : Nat) (f : Nat → Mv) : Con := { C68 p n c f with pre := fun x => x = ⟨⟨[I p], [(n, c)]⟩, [mvs n f]⟩ ∧ okH p n f = true, res := fun _ => .ret (.bool true) }
noncomputable def C39t (p : Int) (n c : Nat) (f : Nat → Mv) (k d : Nat) (g : Nat → Int) : Con := { C39 p n c f k d g with pre := fun x => x = ⟨⟨[I p], [(n, c), (k, d)]⟩, [mvs n f, ints k g]⟩ ∧ okP n k g = true, res := fun _ => .ret (.bool true) }
theorem con_true {f : FuncId} {C : Con} {q : Bool} (h : ConOK Try.prog f C) (hr : ∀ x, C.res x = .ret (.bool q)) : ConOK Try.prog f { C with pre := fun x => C.pre x ∧ q = true, res := fun _ => .ret (.bool true) } where
  calls := h.calls
  says x hp := (h.says x hp.1).mono fun r H hr' => by rw [hr', hr, hp.2]
  closed _ _ := rfl
  atoms x hp := h.atoms x hp.1
  ro := h.ro
  small := h.small
  glob := h.glob
theorem C68t_ok (p : Int) (n c : Nat) (f : Nat → Mv) (hn : n ≤ 1000000) : ConOK Try.prog 68 (C68t p n c f) := con_true (C68_ok p n c f hn) fun _ => rfl
theorem C39t_ok (p : Int) (n c : Nat) (f : Nat → Mv) (k d : Nat) (g : Nat → Int) (hn : n ≤ 1000000) (hk : k ≤ 1000000) : ConOK Try.prog 39 (C39t p n c f k d g) := con_true (C39_ok p n c f k d g hn hk) fun _ => rfl
end Go.Ab
set_option maxRecDepth 100000
namespace Go.Ab
open Go Go.RowKit Go.Proofs
theorem f18 (p : Int) (i j n c : Nat) (f : Nat → Mv) (R : ARes → Prop) : (vx.call 18 [hV p n c, I i, I j] (retK R) (m1 (mvs n f)) ((20, Hint.con (C68t p n c f)) :: [(27, .split ([(22, .split ((9, Hint.conN (C49 p n c f)) :: (4, .val (.pointer (.some ⟨((11 : Nat)), ((0 : Nat) + i * (5 : Nat)), .none⟩))) :: (0, .val (.agg ⟨[(.int .i64 ((f i).at_)), (.int .i64 ((f i).place)), (.int .i64 ((f i).lo)), (.int .i64 ((f i).hi)), (.int .i64 i)]⟩)) :: (2, .val (.pointer (.some ⟨((11 : Nat)), ((0 : Nat) + j * (5 : Nat)), .none⟩))) :: (0, .val (.agg ⟨[(.int .i64 ((f j).at_)), (.int .i64 ((f j).place)), (.int .i64 ((f j).lo)), (.int .i64 ((f j).hi)), (.int .i64 j)]⟩)) :: (10, Hint.con (C44 true p n c f)) :: (0, Hint.again) :: (7, .val (.pointer (.some ⟨((15 : Nat)), ((0 : Nat) + i * (1 : Nat)), .none⟩))) :: (0, .val (.int .i64 (ordF true p n f n i))) :: (6, .val (.int .i64 (ordF true p n f n i / (2 : Int) ^ j))) :: [(1, .split ([]) ((9, Hint.con (C44 false p n c f)) :: (0, Hint.again) :: (7, .val (.pointer (.some ⟨((18 : Nat)), ((0 : Nat) + i * (1 : Nat)), .none⟩))) :: (0, .val (.int .i64 (ordF false p n f n i))) :: (6, .val (.int .i64 (ordF false p n f n i / (2 : Int) ^ j))) :: [(1, .split ([]) ([]))]))]) ([]))]) ([]))])) =
(((ConOK Try.prog 68 (C68t p n c f)) ∧ (Con.pre (C68t p n c f) ⟨⟨[(.int .i64 p)], [⟨n, c⟩]⟩, [(mvs n f)]⟩) ∧
(((decide ((↑i : Int) ≤ IntKind.i64.wrap ((↑n : Int) - (1 : Int)))) = true → (((decide ((↑j : Int) ≤ IntKind.i64.wrap ((↑n : Int) - (1 : Int)))) = true → ((ConNOK Try.prog 49 (C49 p n c f)) ∧ (ConN.pre (C49 p n c f) ⟨⟨[(.int .i64 p)], [⟨n, c⟩]⟩, [(mvs n f)]⟩) ∧
((((((0 : Int) ≤ (↑i : Int))) ∧ (((↑i : Int) < (↑n : Int)))) ∧ (((.pointer (.some ⟨((11 : Nat)), ((0 : Nat) + i * (5 : Nat)), .none⟩)) : Value) = (.pointer (.some ⟨((11 : Nat)), ((0 : Nat) + i * (5 : Nat)), .none⟩)))) ∧
(((((0 : Nat) + i * (5 : Nat) + (5 : Nat) ≤ (jobsC n f).length)) ∧ (((.agg ⟨[(.int .i64 ((f i).at_)), (.int .i64 ((f i).place)), (.int .i64 ((f i).lo)), (.int .i64 ((f i).hi)), (.int .i64 i)]⟩) : Value) = (.agg ⟨(List.take ((5 : Nat)) (List.drop ((0 : Nat) + i * (5 : Nat)) (jobsC n f)))⟩))) ∧
((((((0 : Int) ≤ (↑j : Int))) ∧ (((↑j : Int) < (↑n : Int)))) ∧ (((.pointer (.some ⟨((11 : Nat)), ((0 : Nat) + j * (5 : Nat)), .none⟩)) : Value) = (.pointer (.some ⟨((11 : Nat)), ((0 : Nat) + j * (5 : Nat)), .none⟩)))) ∧
(((((0 : Nat) + j * (5 : Nat) + (5 : Nat) ≤ (jobsC n f).length)) ∧ (((.agg ⟨[(.int .i64 ((f j).at_)), (.int .i64 ((f j).place)), (.int .i64 ((f j).lo)), (.int .i64 ((f j).hi)), (.int .i64 j)]⟩) : Value) = (.agg ⟨(List.take ((5 : Nat)) (List.drop ((0 : Nat) + j * (5 : Nat)) (jobsC n f)))⟩))) ∧
((ConOK Try.prog 44 (C44 true p n c f)) ∧ (Con.pre (C44 true p n c f) ⟨⟨[(.int .i64 p)], [⟨n, c⟩]⟩, [(mvs n f)]⟩) ∧
((((((5 : Nat) ≤ (5 : Nat))) ∧ (((.agg ⟨[(.int .i64 ((f j).at_)), (.int .i64 ((f j).place)), (.int .i64 ((f j).lo)), (.int .i64 ((f j).hi)), (.int .i64 j)]⟩) : Value) = (.agg ⟨[(.int .i64 ((f j).at_)), (.int .i64 ((f j).place)), (.int .i64 ((f j).lo)), (.int .i64 ((f j).hi)), (.int .i64 j)]⟩))) ∧ (((((5 : Nat) ≤ (5 : Nat))) ∧ (((.agg ⟨[(.int .i64 ((f i).at_)), (.int .i64 ((f i).place)), (.int .i64 ((f i).lo)), (.int .i64 ((f i).hi)), (.int .i64 i)]⟩) : Value) = (.agg ⟨[(.int .i64 ((f i).at_)), (.int .i64 ((f i).place)), (.int .i64 ((f i).lo)), (.int .i64 ((f i).hi)), (.int .i64 i)]⟩))) ∧ (True))) ∧
((((((0 : Int) ≤ (↑i : Int))) ∧ (((↑i : Int) < (↑(7 : Nat) : Int)))) ∧ (((.pointer (.some ⟨((15 : Nat)), ((0 : Nat) + i * (1 : Nat)), .none⟩)) : Value) = (.pointer (.some ⟨((15 : Nat)), ((0 : Nat) + i * (1 : Nat)), .none⟩)))) ∧
((((ints (7 : Nat) (ordF true p n f n))[(0 : Nat) + i * (1 : Nat)]? = some (.int .i64 (ordF true p n f n i)))) ∧
((((((0 : Int) ≤ (↑j : Int))) ∧ (((↑j : Int) ≤ (↑(64 : Nat) : Int)))) ∧ (((.int .i64 (ordF true p n f n i / (2 : Int) ^ j)) : Value) = (.int .i64 (ordF true p n f n i / (2 : Int) ^ j)))) ∧
(((bits BinOp.and IntKind.i64 (ordF true p n f n i / (2 : Int) ^ j) (1 : Int) == (1 : Int)) = true → R (.ret (.tuple ⟨[(.int .i64 2), (.int .i64 0)]⟩))) ∧
((bits BinOp.and IntKind.i64 (ordF true p n f n i / (2 : Int) ^ j) (1 : Int) == (1 : Int)) = false → ((ConOK Try.prog 44 (C44 false p n c f)) ∧ (Con.pre (C44 false p n c f) ⟨⟨[(.int .i64 p)], [⟨n, c⟩]⟩, [(mvs n f)]⟩) ∧
((((((5 : Nat) ≤ (5 : Nat))) ∧ (((.agg ⟨[(.int .i64 ((f j).at_)), (.int .i64 ((f j).place)), (.int .i64 ((f j).lo)), (.int .i64 ((f j).hi)), (.int .i64 j)]⟩) : Value) = (.agg ⟨[(.int .i64 ((f j).at_)), (.int .i64 ((f j).place)), (.int .i64 ((f j).lo)), (.int .i64 ((f j).hi)), (.int .i64 j)]⟩))) ∧ (((((5 : Nat) ≤ (5 : Nat))) ∧ (((.agg ⟨[(.int .i64 ((f i).at_)), (.int .i64 ((f i).place)), (.int .i64 ((f i).lo)), (.int .i64 ((f i).hi)), (.int .i64 i)]⟩) : Value) = (.agg ⟨[(.int .i64 ((f i).at_)), (.int .i64 ((f i).place)), (.int .i64 ((f i).lo)), (.int .i64 ((f i).hi)), (.int .i64 i)]⟩))) ∧ (True))) ∧
((((((0 : Int) ≤ (↑i : Int))) ∧ (((↑i : Int) < (↑(7 : Nat) : Int)))) ∧ (((.pointer (.some ⟨((18 : Nat)), ((0 : Nat) + i * (1 : Nat)), .none⟩)) : Value) = (.pointer (.some ⟨((18 : Nat)), ((0 : Nat) + i * (1 : Nat)), .none⟩)))) ∧
((((ints (7 : Nat) (ordF false p n f n))[(0 : Nat) + i * (1 : Nat)]? = some (.int .i64 (ordF false p n f n i)))) ∧
((((((0 : Int) ≤ (↑j : Int))) ∧ (((↑j : Int) ≤ (↑(64 : Nat) : Int)))) ∧ (((.int .i64 (ordF false p n f n i / (2 : Int) ^ j)) : Value) = (.int .i64 (ordF false p n f n i / (2 : Int) ^ j)))) ∧
(((bits BinOp.and IntKind.i64 (ordF false p n f n i / (2 : Int) ^ j) (1 : Int) == (1 : Int)) = true → R (.ret (.tuple ⟨[(.int .i64 1), (.int .i64 0)]⟩))) ∧
((bits BinOp.and IntKind.i64 (ordF false p n f n i / (2 : Int) ^ j) (1 : Int) == (1 : Int)) = false → R (.ret (.tuple ⟨[(.int .i64 0), (.int .i64 0)]⟩)))))))))))))))))))))) ∧
((decide ((↑j : Int) ≤ IntKind.i64.wrap ((↑n : Int) - (1 : Int)))) = false → R (.ret (.tuple ⟨[(.int .i64 0), (.int .i64 2)]⟩))))) ∧
((decide ((↑i : Int) ≤ IntKind.i64.wrap ((↑n : Int) - (1 : Int)))) = false → R (.ret (.tuple ⟨[(.int .i64 0), (.int .i64 2)]⟩)))))) := by kernel_rfl
def hasI (x : Int) (j : Nat) : Bool := bits .and .i64 (x / 2 ^ j) 1 == 1
def folV (p : Int) (n : Nat) (f : Nat → Mv) (i j : Nat) : Int := if hasI (ordF true p n f n i) j then 2 else if hasI (ordF false p n f n i) j then 1 else 0
noncomputable def C18 (p : Int) (i j n c : Nat) (f : Nat → Mv) : Con where
  A := .agg (.hole (.slice 0 0 .nil)) (.hole (.hole .nil))
  bs := [.list 1 .ro]
  pre x := x = ⟨⟨[I p, I i, I j], [(n, c)]⟩, [mvs n f]⟩
  res _ := .ret (.tuple ⟨[I (folV p n f i j), I 0]⟩)
theorem C18_ok (p : Int) (i j n c : Nat) (f : Nat → Mv) (hok : okH p n f = true) (hi : i < n) (hj : j < n) (hn : n ≤ 7) : ConOK Try.prog 18 (C18 p i j n c f) := by
  refine con_of vx_sound ⟨⟨[I p, I i, I j], [(n, c)]⟩, [mvs n f]⟩ (fun x hx => ?_) rfl (fun _ _ => rfl) (fun x hx => by cases hx; exact mvs_atoms n f) rfl (Nat.le_of_ble_eq_true rfl) (by rw [nglob]; exact Nat.zero_le _)
  cases hx
  have hw : IntKind.i64.wrap ((n : Int) - 1) = (n : Int) - 1 := wrapI (by omega) (by omega)
  have key : ∀ R : ARes → Prop, (∀ v, folV p n f i j = v → R (.ret (.tuple ⟨[I v, I 0]⟩))) → ∃ hs, vx.call 18 [hV p n c, I i, I j] (retK R) (m1 (mvs n f)) hs := by
    intro R hR
    refine ⟨_, (f18 p i j n c f R).mpr ?_⟩
    rw [hw]
    repeat' (first | with_reducible apply And.intro | with_reducible intro)
    all_goals first
      | exact C68t_ok p n c f (by omega)
      | exact ⟨rfl, hok⟩
      | exact C49_ok p n c f (by omega) (by omega)
      | exact C44_ok _ p n c f hn
      | trivial
      | omega
      | (rw [jobsC_len]; have := flatC_bound (k := 5) hi; have := flatC_bound (k := 5) hj; omega)
      | (rw [jobs_part f hi]; rfl)
      | (rw [jobs_part f hj]; rfl)
      | exact ints_get _ (by omega)
      | rfl
      | (refine hR _ ?_; simp only [folV, hasI, *]; rfl)
      | (refine hR _ ?_; simp [folV, hasI, *]; done)
      | (exfalso; rename_i h; have h2 := of_decide_eq_false h; omega)
  obtain ⟨hs, h⟩ := key (fun r => r = (C18 p i j n c f).res ⟨⟨[I p, I i, I j], [(n, c)]⟩, [mvs n f]⟩) fun v hv => by subst hv; rfl
  exact ⟨hs, h⟩
end Go.Ab
set_option maxRecDepth 100000
namespace Go.Ab
open Go Go.RowKit Go.Proofs
def p43o : Loc := .l (.r (.l (.r (.top 43))))
def p43i : Loc := .l (.r (.r (.l (.l (.r (.r (.l (.l (.r (.l (.r (.top 43))))))))))))
noncomputable def T43o : Tm := ⟨43, mkS 43 [(1, .slice 1 0 .nil), (5, .ptr 3 0 .nil), (6, .ptr 4 0 .nil), (10, .hole .nil), (11, .hole .nil)], 5, [.dead, .list 3 .ro, .dead, .list 85 .var, .list 79 .var]⟩
noncomputable def T43i : Tm := ⟨43, mkS 43 [(1, .slice 1 0 .nil), (5, .ptr 3 0 .nil), (6, .ptr 4 0 .nil), (7, .hole .nil), (8, .hole .nil), (10, .hole .nil), (11, .hole .nil)], 5, [.dead, .list 3 .ro, .dead, .list 85 .var, .list 79 .var]⟩
noncomputable def oV (o : Nat → Int) : Value := .agg ⟨ints 7 o⟩
end Go.Ab
