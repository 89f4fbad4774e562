/- package horse: the first two moves of one horse of which none can follow the other one. -/
import Derived.Test.YtamfplmmfbbabaaUV
set_option maxRecDepth 100000
namespace Go.Ab
open Go Go.RowKit Go.Proofs
theorem b43i (k d i j : Nat) (ps : List Value) (g o : Nat → Int) (R : Nat → AExit → Hx → Prop) : (vx.code none (.l p43i) (leafK [T43i] R) (T43i.inst ⟨⟨[I i, I j, I k, I i], [(k, d)]⟩, [ps, ints 7 o, [I 0, I 0]]⟩) ([(3, .split ((3, .val (.pointer (.some ⟨((1 : Nat)), ((0 : Nat) + i * (1 : Nat)), .none⟩))) :: (0, .val (.int .i64 (g i))) :: (2, .val (.pointer (.some ⟨((1 : Nat)), ((0 : Nat) + j * (1 : Nat)), .none⟩))) :: (0, .val (.int .i64 (g j))) :: [(0, .split ((8, .val (.pointer (.some ⟨((5 : Nat)), ((0 : Nat) + i * (1 : Nat)), .none⟩))) :: (0, .val (.int .i64 (o i))) :: (5, .val (.int .i64 (o i / (2 : Int) ^ j))) :: [(1, .split ([(10, .tm 0 [])]) ((3, .val (.pointer (.some ⟨((5 : Nat)), ((0 : Nat) + j * (1 : Nat)), .none⟩))) :: (0, .val (.int .i64 (o j))) :: (5, .val (.int .i64 (o j / (2 : Int) ^ i))) :: [(1, .split ([(9, .tm 0 [])]) ([(10, .tm 0 [])]))]))]) ([(6, .tm 0 [])]))]) ([(1, .tm 0 [])]))])) =
((((decide ((↑j : Int) < (↑k : Int))) = true → ((((((0 : Int) ≤ (↑i : Int))) ∧ (((↑i : Int) < (↑k : Int)))) ∧ (((.pointer (.some ⟨((1 : Nat)), ((0 : Nat) + i * (1 : Nat)), .none⟩)) : Value) = (.pointer (.some ⟨((1 : Nat)), ((0 : Nat) + i * (1 : Nat)), .none⟩)))) ∧
(((ps[(0 : Nat) + i * (1 : Nat)]? = some (.int .i64 (g i)))) ∧
((((((0 : Int) ≤ (↑j : Int))) ∧ (((↑j : Int) < (↑k : Int)))) ∧ (((.pointer (.some ⟨((1 : Nat)), ((0 : Nat) + j * (1 : Nat)), .none⟩)) : Value) = (.pointer (.some ⟨((1 : Nat)), ((0 : Nat) + j * (1 : Nat)), .none⟩)))) ∧
(((ps[(0 : Nat) + j * (1 : Nat)]? = some (.int .i64 (g j)))) ∧
(((g i == g j) = true → ((((((0 : Int) ≤ (↑i : Int))) ∧ (((↑i : Int) < (↑(7 : Nat) : Int)))) ∧ (((.pointer (.some ⟨((5 : Nat)), ((0 : Nat) + i * (1 : Nat)), .none⟩)) : Value) = (.pointer (.some ⟨((5 : Nat)), ((0 : Nat) + i * (1 : Nat)), .none⟩)))) ∧
((([Value.int .i64 (o (0 : Nat)), Value.int .i64 (o (1 : Nat)), Value.int .i64 (o (2 : Nat)), Value.int .i64 (o (3 : Nat)), Value.int .i64 (o (4 : Nat)), Value.int .i64 (o (5 : Nat)), Value.int .i64 (o (6 : Nat))][(0 : Nat) + i * (1 : Nat)]? = some (.int .i64 (o i)))) ∧
((((((0 : Int) ≤ (↑j : Int))) ∧ (((↑j : Int) ≤ (↑(64 : Nat) : Int)))) ∧ (((.int .i64 (o i / (2 : Int) ^ j)) : Value) = (.int .i64 (o i / (2 : Int) ^ j)))) ∧
(((bits BinOp.and IntKind.i64 (o i / (2 : Int) ^ j) (1 : Int) == (1 : Int)) = true → R 0 .normal ⟨⟨[(.int .i64 i), (.int .i64 (IntKind.i64.wrap ((↑j : Int) + (1 : Int)))), (.int .i64 k), (.int .i64 i)], [⟨k, d⟩]⟩, [(ps), [(.int .i64 (o (0 : Nat))), (.int .i64 (o (1 : Nat))), (.int .i64 (o (2 : Nat))), (.int .i64 (o (3 : Nat))), (.int .i64 (o (4 : Nat))), (.int .i64 (o (5 : Nat))), (.int .i64 (o (6 : Nat)))], [(.int .i64 0), (.int .i64 0)]]⟩) ∧
((bits BinOp.and IntKind.i64 (o i / (2 : Int) ^ j) (1 : Int) == (1 : Int)) = false → ((((((0 : Int) ≤ (↑j : Int))) ∧ (((↑j : Int) < (↑(7 : Nat) : Int)))) ∧ (((.pointer (.some ⟨((5 : Nat)), ((0 : Nat) + j * (1 : Nat)), .none⟩)) : Value) = (.pointer (.some ⟨((5 : Nat)), ((0 : Nat) + j * (1 : Nat)), .none⟩)))) ∧
((([Value.int .i64 (o (0 : Nat)), Value.int .i64 (o (1 : Nat)), Value.int .i64 (o (2 : Nat)), Value.int .i64 (o (3 : Nat)), Value.int .i64 (o (4 : Nat)), Value.int .i64 (o (5 : Nat)), Value.int .i64 (o (6 : Nat))][(0 : Nat) + j * (1 : Nat)]? = some (.int .i64 (o j)))) ∧
((((((0 : Int) ≤ (↑i : Int))) ∧ (((↑i : Int) ≤ (↑(64 : Nat) : Int)))) ∧ (((.int .i64 (o j / (2 : Int) ^ i)) : Value) = (.int .i64 (o j / (2 : Int) ^ i)))) ∧
(((bits BinOp.and IntKind.i64 (o j / (2 : Int) ^ i) (1 : Int) == (1 : Int)) = true → R 0 .normal ⟨⟨[(.int .i64 i), (.int .i64 (IntKind.i64.wrap ((↑j : Int) + (1 : Int)))), (.int .i64 k), (.int .i64 i)], [⟨k, d⟩]⟩, [(ps), [(.int .i64 (o (0 : Nat))), (.int .i64 (o (1 : Nat))), (.int .i64 (o (2 : Nat))), (.int .i64 (o (3 : Nat))), (.int .i64 (o (4 : Nat))), (.int .i64 (o (5 : Nat))), (.int .i64 (o (6 : Nat)))], [(.int .i64 0), (.int .i64 0)]]⟩) ∧
((bits BinOp.and IntKind.i64 (o j / (2 : Int) ^ i) (1 : Int) == (1 : Int)) = false → R 0 .ret ⟨⟨[(.int .i64 i), (.int .i64 j), (.int .i64 k), (.int .i64 i)], [⟨k, d⟩]⟩, [(ps), [(.int .i64 (o (0 : Nat))), (.int .i64 (o (1 : Nat))), (.int .i64 (o (2 : Nat))), (.int .i64 (o (3 : Nat))), (.int .i64 (o (4 : Nat))), (.int .i64 (o (5 : Nat))), (.int .i64 (o (6 : Nat)))], [(.int .i64 i), (.int .i64 j)]]⟩))))))))))) ∧
((g i == g j) = false → R 0 .normal ⟨⟨[(.int .i64 i), (.int .i64 (IntKind.i64.wrap ((↑j : Int) + (1 : Int)))), (.int .i64 k), (.int .i64 i)], [⟨k, d⟩]⟩, [(ps), [(.int .i64 (o (0 : Nat))), (.int .i64 (o (1 : Nat))), (.int .i64 (o (2 : Nat))), (.int .i64 (o (3 : Nat))), (.int .i64 (o (4 : Nat))), (.int .i64 (o (5 : Nat))), (.int .i64 (o (6 : Nat)))], [(.int .i64 0), (.int .i64 0)]]⟩))))))) ∧
((decide ((↑j : Int) < (↑k : Int))) = false → R 0 (.exit ((2 : Nat))) ⟨⟨[(.int .i64 i), (.int .i64 j), (.int .i64 k), (.int .i64 i)], [⟨k, d⟩]⟩, [(ps), [(.int .i64 (o (0 : Nat))), (.int .i64 (o (1 : Nat))), (.int .i64 (o (2 : Nat))), (.int .i64 (o (3 : Nat))), (.int .i64 (o (4 : Nat))), (.int .i64 (o (5 : Nat))), (.int .i64 (o (6 : Nat)))], [(.int .i64 0), (.int .i64 0)]]⟩))) := by kernel_rfl
theorem b43on (k d i : Nat) (ps : List Value) (o : Nat → Int) (R : Nat → AExit → Hx → Prop) : (vx.code none (.l p43o) (leafK [T43o] R) (T43o.inst ⟨⟨[I k, I i], [(k, d)]⟩, [ps, ints 7 o, [I 0, I 0]]⟩) ([(0, .split ((6, Hint.loopT T43i (AExit.exit (2 : Nat)) T43i fun _ => { hs := { vs := [I (↑i : Int), I (↑k : Int), I (↑k : Int), I (↑i : Int)], ns := [(k, d)] }, ls := [ps, ints (7 : Nat) o, [I (0 : Int), I (0 : Int)]] }) :: [(2, .tm 0 [])]) ([(1, .tm 0 [])]))])) =
((((decide ((↑i : Int) < (↑k : Int))) = true → ((Atoms [(ps), [(.int .i64 (o (0 : Nat))), (.int .i64 (o (1 : Nat))), (.int .i64 (o (2 : Nat))), (.int .i64 (o (3 : Nat))), (.int .i64 (o (4 : Nat))), (.int .i64 (o (5 : Nat))), (.int .i64 (o (6 : Nat)))], [(.int .i64 0), (.int .i64 0)]]) ∧ (LoopOK Try.prog .none p43i (T43i) ⟨⟨[(.int .i64 i), (.int .i64 (IntKind.i64.wrap ((↑i : Int) + (1 : Int)))), (.int .i64 k), (.int .i64 i)], [⟨k, d⟩]⟩, [(ps), [(.int .i64 (o (0 : Nat))), (.int .i64 (o (1 : Nat))), (.int .i64 (o (2 : Nat))), (.int .i64 (o (3 : Nat))), (.int .i64 (o (4 : Nat))), (.int .i64 (o (5 : Nat))), (.int .i64 (o (6 : Nat)))], [(.int .i64 0), (.int .i64 0)]]⟩ (.exit ((2 : Nat))) (T43i) ⟨⟨[(.int .i64 i), (.int .i64 k), (.int .i64 k), (.int .i64 i)], [⟨k, d⟩]⟩, [(ps), [(.int .i64 (o (0 : Nat))), (.int .i64 (o (1 : Nat))), (.int .i64 (o (2 : Nat))), (.int .i64 (o (3 : Nat))), (.int .i64 (o (4 : Nat))), (.int .i64 (o (5 : Nat))), (.int .i64 (o (6 : Nat)))], [(.int .i64 0), (.int .i64 0)]]⟩) ∧
R 0 .normal ⟨⟨[(.int .i64 k), (.int .i64 (IntKind.i64.wrap ((↑i : Int) + (1 : Int))))], [⟨k, d⟩]⟩, [(ps), [(.int .i64 (o (0 : Nat))), (.int .i64 (o (1 : Nat))), (.int .i64 (o (2 : Nat))), (.int .i64 (o (3 : Nat))), (.int .i64 (o (4 : Nat))), (.int .i64 (o (5 : Nat))), (.int .i64 (o (6 : Nat)))], [(.int .i64 0), (.int .i64 0)]]⟩)) ∧
((decide ((↑i : Int) < (↑k : Int))) = false → R 0 (.exit ((0 : Nat))) ⟨⟨[(.int .i64 k), (.int .i64 i)], [⟨k, d⟩]⟩, [(ps), [(.int .i64 (o (0 : Nat))), (.int .i64 (o (1 : Nat))), (.int .i64 (o (2 : Nat))), (.int .i64 (o (3 : Nat))), (.int .i64 (o (4 : Nat))), (.int .i64 (o (5 : Nat))), (.int .i64 (o (6 : Nat)))], [(.int .i64 0), (.int .i64 0)]]⟩))) := by kernel_rfl
theorem b43or (k d i j : Nat) (ps : List Value) (o : Nat → Int) (R : Nat → AExit → Hx → Prop) : (vx.code none (.l p43o) (leafK [T43o] R) (T43o.inst ⟨⟨[I k, I i], [(k, d)]⟩, [ps, ints 7 o, [I 0, I 0]]⟩) ([(0, .split ((6, Hint.loopT T43i AExit.ret T43i fun _ => { hs := { vs := [I (↑i : Int), I (↑j : Int), I (↑k : Int), I (↑i : Int)], ns := [(k, d)] }, ls := [ps, ints (7 : Nat) o, [I (↑i : Int), I (↑j : Int)]] }) :: [(0, .tm 0 [])]) ([(1, .tm 0 [])]))])) =
((((decide ((↑i : Int) < (↑k : Int))) = true → ((Atoms [(ps), [(.int .i64 (o (0 : Nat))), (.int .i64 (o (1 : Nat))), (.int .i64 (o (2 : Nat))), (.int .i64 (o (3 : Nat))), (.int .i64 (o (4 : Nat))), (.int .i64 (o (5 : Nat))), (.int .i64 (o (6 : Nat)))], [(.int .i64 0), (.int .i64 0)]]) ∧ (LoopOK Try.prog .none p43i (T43i) ⟨⟨[(.int .i64 i), (.int .i64 (IntKind.i64.wrap ((↑i : Int) + (1 : Int)))), (.int .i64 k), (.int .i64 i)], [⟨k, d⟩]⟩, [(ps), [(.int .i64 (o (0 : Nat))), (.int .i64 (o (1 : Nat))), (.int .i64 (o (2 : Nat))), (.int .i64 (o (3 : Nat))), (.int .i64 (o (4 : Nat))), (.int .i64 (o (5 : Nat))), (.int .i64 (o (6 : Nat)))], [(.int .i64 0), (.int .i64 0)]]⟩ .ret (T43i) ⟨⟨[(.int .i64 i), (.int .i64 j), (.int .i64 k), (.int .i64 i)], [⟨k, d⟩]⟩, [(ps), [(.int .i64 (o (0 : Nat))), (.int .i64 (o (1 : Nat))), (.int .i64 (o (2 : Nat))), (.int .i64 (o (3 : Nat))), (.int .i64 (o (4 : Nat))), (.int .i64 (o (5 : Nat))), (.int .i64 (o (6 : Nat)))], [(.int .i64 i), (.int .i64 j)]]⟩) ∧
R 0 .ret ⟨⟨[(.int .i64 k), (.int .i64 i)], [⟨k, d⟩]⟩, [(ps), [(.int .i64 (o (0 : Nat))), (.int .i64 (o (1 : Nat))), (.int .i64 (o (2 : Nat))), (.int .i64 (o (3 : Nat))), (.int .i64 (o (4 : Nat))), (.int .i64 (o (5 : Nat))), (.int .i64 (o (6 : Nat)))], [(.int .i64 i), (.int .i64 j)]]⟩)) ∧
((decide ((↑i : Int) < (↑k : Int))) = false → R 0 (.exit ((0 : Nat))) ⟨⟨[(.int .i64 k), (.int .i64 i)], [⟨k, d⟩]⟩, [(ps), [(.int .i64 (o (0 : Nat))), (.int .i64 (o (1 : Nat))), (.int .i64 (o (2 : Nat))), (.int .i64 (o (3 : Nat))), (.int .i64 (o (4 : Nat))), (.int .i64 (o (5 : Nat))), (.int .i64 (o (6 : Nat)))], [(.int .i64 0), (.int .i64 0)]]⟩))) := by kernel_rfl
theorem f43n (p : Int) (n c k d : Nat) (ms ps : List Value) (o : Nat → Int) (R : ARes → Prop) : (vx.call 43 [hV p n c, slV 1 k d, oV o] (retK R) (m2 ms ps) ((7, Hint.loopT T43o (AExit.exit (0 : Nat)) T43o fun _ => { hs := { vs := [I (↑k : Int), I (↑k : Int)], ns := [(k, d)] }, ls := [ps, ints (7 : Nat) o, [I (0 : Int), I (0 : Int)]] }) :: [])) =
(((Atoms [(ps), [(.int .i64 (o (0 : Nat))), (.int .i64 (o (1 : Nat))), (.int .i64 (o (2 : Nat))), (.int .i64 (o (3 : Nat))), (.int .i64 (o (4 : Nat))), (.int .i64 (o (5 : Nat))), (.int .i64 (o (6 : Nat)))], [(.int .i64 0), (.int .i64 0)]]) ∧ (LoopOK Try.prog .none p43o (T43o) ⟨⟨[(.int .i64 k), (.int .i64 0)], [⟨k, d⟩]⟩, [(ps), [(.int .i64 (o (0 : Nat))), (.int .i64 (o (1 : Nat))), (.int .i64 (o (2 : Nat))), (.int .i64 (o (3 : Nat))), (.int .i64 (o (4 : Nat))), (.int .i64 (o (5 : Nat))), (.int .i64 (o (6 : Nat)))], [(.int .i64 0), (.int .i64 0)]]⟩ (.exit ((0 : Nat))) (T43o) ⟨⟨[(.int .i64 k), (.int .i64 k)], [⟨k, d⟩]⟩, [(ps), [(.int .i64 (o (0 : Nat))), (.int .i64 (o (1 : Nat))), (.int .i64 (o (2 : Nat))), (.int .i64 (o (3 : Nat))), (.int .i64 (o (4 : Nat))), (.int .i64 (o (5 : Nat))), (.int .i64 (o (6 : Nat)))], [(.int .i64 0), (.int .i64 0)]]⟩) ∧
R (.pan (.iface ((36 : Nat)) (.int .i64 4))))) := by kernel_rfl
theorem f43r (p : Int) (n c k d i j : Nat) (ms ps : List Value) (o : Nat → Int) (R : ARes → Prop) : (vx.call 43 [hV p n c, slV 1 k d, oV o] (retK R) (m2 ms ps) ((7, Hint.loopT T43o AExit.ret T43o fun _ => { hs := { vs := [I (↑k : Int), I (↑i : Int)], ns := [(k, d)] }, ls := [ps, ints (7 : Nat) o, [I (↑i : Int), I (↑j : Int)]] }) :: [])) =
(((Atoms [(ps), [(.int .i64 (o (0 : Nat))), (.int .i64 (o (1 : Nat))), (.int .i64 (o (2 : Nat))), (.int .i64 (o (3 : Nat))), (.int .i64 (o (4 : Nat))), (.int .i64 (o (5 : Nat))), (.int .i64 (o (6 : Nat)))], [(.int .i64 0), (.int .i64 0)]]) ∧ (LoopOK Try.prog .none p43o (T43o) ⟨⟨[(.int .i64 k), (.int .i64 0)], [⟨k, d⟩]⟩, [(ps), [(.int .i64 (o (0 : Nat))), (.int .i64 (o (1 : Nat))), (.int .i64 (o (2 : Nat))), (.int .i64 (o (3 : Nat))), (.int .i64 (o (4 : Nat))), (.int .i64 (o (5 : Nat))), (.int .i64 (o (6 : Nat)))], [(.int .i64 0), (.int .i64 0)]]⟩ .ret (T43o) ⟨⟨[(.int .i64 k), (.int .i64 i)], [⟨k, d⟩]⟩, [(ps), [(.int .i64 (o (0 : Nat))), (.int .i64 (o (1 : Nat))), (.int .i64 (o (2 : Nat))), (.int .i64 (o (3 : Nat))), (.int .i64 (o (4 : Nat))), (.int .i64 (o (5 : Nat))), (.int .i64 (o (6 : Nat)))], [(.int .i64 i), (.int .i64 j)]]⟩) ∧
R (.ret (.agg ⟨[(.int .i64 i), (.int .i64 j)]⟩)))) := by kernel_rfl
def search (b : Nat → Bool) : Nat → Nat → Option Nat
  | 0, _ => none
  | r + 1, m => if b m then some m else search b r (m + 1)
def linkB (o : Nat → Int) (i j : Nat) : Bool := hasI (o i) j || hasI (o j) i
def badB (g o : Nat → Int) (i j : Nat) : Bool := (g i == g j) && !linkB o i j
noncomputable def h43i (k d : Nat) (g o : Nat → Int) (i j : Nat) (a b : Int) : Hx := ⟨⟨[I i, I j, I k, I i], [(k, d)]⟩, [ints k g, ints 7 o, [I a, I b]]⟩
noncomputable def out43i (k d : Nat) (g o : Nat → Int) (i j : Nat) : AExit × Nat × Hx := match search (badB g o i) (k - j) j with
  | some m => (.ret, 0, h43i k d g o i m i m)
  | none => (.exit 2, 0, h43i k d g o i k 0 0)
theorem atoms43 (k : Nat) (g o : Nat → Int) (a b : Int) : Atoms [ints k g, ints 7 o, [I a, I b]] := by
  intro cs hcs
  simp only [List.mem_cons, List.not_mem_nil, or_false] at hcs
  rcases hcs with rfl | rfl | rfl
  · exact ints_atoms k g _ (by simp)
  · exact ints_atoms 7 o _ (by simp)
  · intro v hv
    simp only [List.mem_cons, List.not_mem_nil, or_false] at hv
    rcases hv with rfl | rfl <;> rfl
theorem round43i {k d : Nat} {g o : Nat → Int} {i j : Nat} (hk : k ≤ 7) (hi : i < k) {R : Nat → AExit → Hx → Prop} (h1 : j < k → badB g o i j = false → R 0 .normal (h43i k d g o i (j + 1) 0 0)) (h2 : j < k → badB g o i j = true → R 0 .ret (h43i k d g o i j i j))
    (h3 : ¬ j < k → R 0 (.exit 2) (h43i k d g o i j 0 0)) : ∃ hs, vx.code none (.l p43i) (leafK [T43i] R) (T43i.inst (h43i k d g o i j 0 0)) hs := by
  refine ⟨_, (b43i k d i j (ints k g) g o R).mpr ⟨fun h => ?_, fun h => h3 (by simpa using h)⟩⟩
  have hj : j < k := by simpa using h
  have hw : IntKind.i64.wrap ((j : Int) + 1) = ((j + 1 : Nat) : Int) := wrapI (by omega) (by omega)
  have h1 := h1 hj
  have h2 := h2 hj
  have e7 : ints 7 o = [Value.int .i64 (o 0), Value.int .i64 (o 1), Value.int .i64 (o 2), Value.int .i64 (o 3), Value.int .i64 (o 4), Value.int .i64 (o 5), Value.int .i64 (o 6)] := rfl
  have g7 : ∀ m, m < 7 → (ints 7 o)[0 + m * 1]? = some (I (o m)) := fun m hm => ints_get o hm
  rw [e7] at g7
  rw [hw]
  repeat' (first | with_reducible apply And.intro | with_reducible intro)
  all_goals first
    | omega
    | exact ints_get g hi
    | exact ints_get g hj
    | exact g7 _ (by omega)
    | rfl
    | (refine h2 ?_; simp only [badB, linkB, hasI, *]; rfl)
    | (refine h1 ?_; simp only [badB, linkB, hasI, *]; rfl)
    | (refine h1 ?_; simp [badB, linkB, hasI, *]; done)
theorem loop43i {k d : Nat} {g o : Nat → Int} {i j : Nat} (hk : k ≤ 7) (hi : i < k) (hj : j ≤ k) : LoopOK Try.prog none p43i T43i (h43i k d g o i j 0 0) (out43i k d g o i j).1 T43i (out43i k d g o i j).2.2 := by
  refine loop_vc (Ts := [T43i]) (k := 5) (X := Nat) (inv := fun j => j ≤ k) (μ := fun j => k - j) (st := fun j => (0, h43i k d g o i j 0 0)) (out := out43i k d g o i) rfl vx_sound ?_ (by rw [nglob]; omega) (fun j hj => ?_) hj rfl (Nat.le_of_ble_eq_true rfl) (by decide) ?_
  · intro T hT; simp only [List.mem_singleton] at hT; subst hT; rfl
  · have step : j < k → out43i k d g o i j = if badB g o i j then (.ret, 0, h43i k d g o i j i j) else out43i k d g o i (j + 1) := fun h => by
      have e : k - j = (k - (j + 1)) + 1 := by omega
      simp only [out43i, e, search]
      cases badB g o i j <;> simp
    obtain ⟨hs, hr⟩ := round43i (d := d) (g := g) (o := o) hk hi (j := j) (R := RoundR (fun j => j ≤ k) (fun j => k - j) (fun j => (0, h43i k d g o i j 0 0)) (out43i k d g o i) j)
      (fun h hb => ⟨⟨atoms43 k g o _ _, trivial⟩, .inl ⟨rfl, j + 1, by omega, by show k - (j + 1) < k - j; omega, rfl, by rw [step h, hb]; rfl⟩⟩)
      (fun h hb => ⟨⟨atoms43 k g o _ _, trivial⟩, .inr ⟨by simp, by rw [step h, hb]; rfl⟩⟩)
      (fun h => ⟨⟨atoms43 k g o _ _, trivial⟩, .inr ⟨by simp, by
        have e : j = k := by omega
        subst e
        simp [out43i, search]⟩⟩)
    exact ⟨T43i, hs, rfl, hr⟩
  · simp only [out43i]
    split <;> rfl
noncomputable def h43o (k d : Nat) (g o : Nat → Int) (i : Nat) (a b : Int) : Hx := ⟨⟨[I k, I i], [(k, d)]⟩, [ints k g, ints 7 o, [I a, I b]]⟩
def rowS (g o : Nat → Int) (k i : Nat) : Option Nat := search (badB g o i) (k - (i + 1)) (i + 1)
def pairS (g o : Nat → Int) (k : Nat) : Nat → Nat → Option (Nat × Nat)
  | 0, _ => none
  | r + 1, i => match rowS g o k i with
    | some j => some (i, j)
    | none => pairS g o k r (i + 1)
noncomputable def out43o (k d : Nat) (g o : Nat → Int) (i : Nat) : AExit × Nat × Hx := match pairS g o k (k - i) i with
  | some m => (.ret, 0, h43o k d g o m.1 m.1 m.2)
  | none => (.exit 0, 0, h43o k d g o k 0 0)
theorem round43o {k d : Nat} {g o : Nat → Int} {i : Nat} (hk : k ≤ 7) {R : Nat → AExit → Hx → Prop} (h1 : i < k → rowS g o k i = none → R 0 .normal (h43o k d g o (i + 1) 0 0)) (h2 : i < k → ∀ j, rowS g o k i = some j → R 0 .ret (h43o k d g o i i j))
    (h3 : ¬ i < k → R 0 (.exit 0) (h43o k d g o i 0 0)) : ∃ hs, vx.code none (.l p43o) (leafK [T43o] R) (T43o.inst (h43o k d g o i 0 0)) hs := by
  by_cases hi : i < k
  · have hw : IntKind.i64.wrap ((i : Int) + 1) = ((i + 1 : Nat) : Int) := wrapI (by omega) (by omega)
    have hl := loop43i (d := d) (g := g) (o := o) hk hi (show i + 1 ≤ k by omega)
    simp only [out43i] at hl
    cases hs : rowS g o k i with
    | none =>
      have hs' : search (badB g o i) (k - (i + 1)) (i + 1) = none := hs
      simp only [hs'] at hl
      refine ⟨_, (b43on k d i (ints k g) o R).mpr ⟨fun _ => ?_, fun h => h3 (by simpa using h)⟩⟩
      rw [hw]
      exact ⟨atoms43 k g o 0 0, hl, h1 hi hs⟩
    | some j =>
      have hs' : search (badB g o i) (k - (i + 1)) (i + 1) = some j := hs
      simp only [hs'] at hl
      refine ⟨_, (b43or k d i j (ints k g) o R).mpr ⟨fun _ => ?_, fun h => h3 (by simpa using h)⟩⟩
      rw [hw]
      exact ⟨atoms43 k g o 0 0, hl, h2 hi j hs⟩
  · refine ⟨_, (b43on k d i (ints k g) o R).mpr ⟨fun h => absurd (by simpa using h) hi, fun _ => h3 hi⟩⟩
theorem loop43o {k d : Nat} {g o : Nat → Int} (hk : k ≤ 7) : LoopOK Try.prog none p43o T43o (h43o k d g o 0 0 0) (out43o k d g o 0).1 T43o (out43o k d g o 0).2.2 := by
  refine loop_vc (Ts := [T43o]) (k := 5) (X := Nat) (inv := fun j => j ≤ k) (μ := fun j => k - j) (st := fun j => (0, h43o k d g o j 0 0)) (out := out43o k d g o) rfl vx_sound ?_ (by rw [nglob]; omega) (fun j hj => ?_) (Nat.zero_le k) rfl (Nat.le_of_ble_eq_true rfl) (by decide) ?_
  · intro T hT; simp only [List.mem_singleton] at hT; subst hT; rfl
  · have step : j < k → out43o k d g o j = match rowS g o k j with | some m => (.ret, 0, h43o k d g o j j m) | none => out43o k d g o (j + 1) := fun h => by
      have e : k - j = (k - (j + 1)) + 1 := by omega
      simp only [out43o, e, pairS]
      cases rowS g o k j <;> rfl
    obtain ⟨hs, hr⟩ := round43o (d := d) (g := g) (o := o) hk (i := j) (R := RoundR (fun j => j ≤ k) (fun j => k - j) (fun j => (0, h43o k d g o j 0 0)) (out43o k d g o) j)
      (fun h hb => ⟨⟨atoms43 k g o _ _, trivial⟩, .inl ⟨rfl, j + 1, by omega, by show k - (j + 1) < k - j; omega, rfl, by rw [step h, hb]⟩⟩)
      (fun h m hb => ⟨⟨atoms43 k g o _ _, trivial⟩, .inr ⟨by simp, by rw [step h, hb]⟩⟩)
      (fun h => ⟨⟨atoms43 k g o _ _, trivial⟩, .inr ⟨by simp, by
        have e : j = k := by omega
        subst e
        simp [out43o, pairS]⟩⟩)
    exact ⟨T43o, hs, rfl, hr⟩
  · simp only [out43o]
    split <;> rfl
noncomputable def wrongR (g o : Nat → Int) (k : Nat) : ARes := match pairS g o k k 0 with
  | some m => .ret (.agg ⟨[I m.1, I m.2]⟩)
  | none => .pan (.iface 36 (I 4))
noncomputable def C43 (p : Int) (n c k d : Nat) (f : Nat → Mv) (g o : Nat → Int) : Con where
  A := .agg (.hole (.slice 0 0 .nil)) (.slice 1 0 (.agg (.hole (.hole (.hole (.hole (.hole (.hole (.hole .nil))))))) .nil))
  bs := [.list 1 .ro, .list 3 .ro]
  pre x := x = ⟨⟨I p :: ints 7 o, [(n, c), (k, d)]⟩, [mvs n f, ints k g]⟩
  res _ := wrongR g o k
theorem C43_ok (p : Int) (n c k d : Nat) (f : Nat → Mv) (g o : Nat → Int) (hk : k ≤ 7) : ConOK Try.prog 43 (C43 p n c k d f g o) := by
  refine con_of vx_sound ⟨⟨I p :: ints 7 o, [(n, c), (k, d)]⟩, [mvs n f, ints k g]⟩ (fun x hx => ?_) rfl (fun _ _ => ?_) (fun x hx => ?_) rfl (Nat.le_of_ble_eq_true rfl) (by rw [nglob]; exact Nat.zero_le _)
  · cases hx
    have hl := loop43o (d := d) (g := g) (o := o) hk
    simp only [out43o, Nat.sub_zero] at hl
    cases hs : pairS g o k k 0 with
    | none =>
      simp only [hs] at hl
      refine ⟨_, (f43n p n c k d (mvs n f) (ints k g) o _).mpr ⟨atoms43 k g o 0 0, hl, ?_⟩⟩
      simp only [C43, wrongR, hs]; rfl
    | some m =>
      simp only [hs] at hl
      refine ⟨_, (f43r p n c k d m.1 m.2 (mvs n f) (ints k g) o _).mpr ⟨atoms43 k g o 0 0, hl, ?_⟩⟩
      simp only [C43, wrongR, hs]; rfl
  · simp only [C43, wrongR]
    split <;> rfl
  · cases hx
    intro cs hcs
    simp only [List.mem_cons, List.not_mem_nil, or_false] at hcs
    rcases hcs with rfl | rfl
    · exact mvs_atoms n f _ (by simp)
    · exact ints_atoms k g _ (by simp)
end Go.Ab
set_option maxRecDepth 100000
namespace Go.Ab
open Go Go.RowKit Go.Proofs
noncomputable def Con.when (C : Con) (r : ARes) : Con := { C with pre := fun x => C.pre x ∧ C.res x = r, res := fun _ => r }
theorem con_when {f : FuncId} {C : Con} (h : ConOK Try.prog f C) (r : ARes) : ConOK Try.prog f (C.when r) where
  calls := h.calls
  says x hp := (h.says x hp.1).mono fun r' H hr' => by rw [hr', hp.2]; rfl
  closed x hp := by have := h.closed x hp.1; rw [hp.2] at this; exact this
  atoms x hp := h.atoms x hp.1
  ro := h.ro
  small := h.small
  glob := h.glob
end Go.Ab
set_option maxRecDepth 100000
namespace Go.Ab
open Go Go.RowKit Go.Proofs
theorem f16nt (p : Int) (n c k d : Nat) (f : Nat → Mv) (g : Nat → Int) (R : ARes → Prop) : (vx.call 16 [hV p n c, slV 1 k d, .bool true] (retK R) (m2 (mvs n f) (ints k g)) ((21, Hint.con (C68t p n c f)) :: (11, Hint.con (C39t p n c f k d g)) :: (15, Hint.again) :: (0, Hint.con (C44 true p n c f)) :: (0, Hint.again) :: (0, Hint.con ((C43 p n c k d f g (ordF true p n f n)).when (ARes.pan (Value.iface (36 : TypeId) (I (4 : Int)))))) :: [])) =
(((ConOK Try.prog 68 (C68t p n c f)) ∧ (Con.pre (C68t p n c f) ⟨⟨[(.int .i64 p)], [⟨n, c⟩]⟩, [(mvs n f)]⟩) ∧
((ConOK Try.prog 39 (C39t p n c f k d g)) ∧ (Con.pre (C39t p n c f k d g) ⟨⟨[(.int .i64 p)], [⟨n, c⟩, ⟨k, d⟩]⟩, [(mvs n f), (ints k g)]⟩) ∧
((((((2 : Nat) ≤ (2 : Nat))) ∧ (((.agg ⟨[(.int .i64 p), (.slice (.some ⟨0, 0, .none⟩) (n) (c))]⟩) : Value) = (.agg ⟨[(.int .i64 p), (.slice (.some ⟨0, 0, .none⟩) (n) (c))]⟩))) ∧ ((((some (.slice (.some ⟨1, 0, .none⟩) (k) (d)) : Option Value) = some (.slice (.some ⟨1, 0, .none⟩) (k) (d)))) ∧ (((((2 : Nat) ≤ (2 : Nat))) ∧ (((.agg ⟨[(.int .i64 p), (.slice (.some ⟨0, 0, .none⟩) (n) (c))]⟩) : Value) = (.agg ⟨[(.int .i64 p), (.slice (.some ⟨0, 0, .none⟩) (n) (c))]⟩))) ∧ (True)))) ∧
((ConOK Try.prog 44 (C44 true p n c f)) ∧ (Con.pre (C44 true p n c f) ⟨⟨[(.int .i64 p)], [⟨n, c⟩]⟩, [(mvs n f)]⟩) ∧
(((((some (.slice (.some ⟨1, 0, .none⟩) (k) (d)) : Option Value) = some (.slice (.some ⟨1, 0, .none⟩) (k) (d)))) ∧ (((((2 : Nat) ≤ (2 : Nat))) ∧ (((.agg ⟨[(.int .i64 p), (.slice (.some ⟨0, 0, .none⟩) (n) (c))]⟩) : Value) = (.agg ⟨[(.int .i64 p), (.slice (.some ⟨0, 0, .none⟩) (n) (c))]⟩))) ∧ (True))) ∧
((ConOK Try.prog 43 ((C43 p n c k d f g (ordF true p n f n)).when (ARes.pan (Value.iface (36 : TypeId) (I (4 : Int)))))) ∧ (Con.pre ((C43 p n c k d f g (ordF true p n f n)).when (ARes.pan (Value.iface (36 : TypeId) (I (4 : Int))))) ⟨⟨[(.int .i64 p), (.int .i64 (ordF true p n f n (0 : Nat))), (.int .i64 (ordF true p n f n (1 : Nat))), (.int .i64 (ordF true p n f n (2 : Nat))), (.int .i64 (ordF true p n f n (3 : Nat))), (.int .i64 (ordF true p n f n (4 : Nat))), (.int .i64 (ordF true p n f n (5 : Nat))), (.int .i64 (ordF true p n f n (6 : Nat)))], [⟨n, c⟩, ⟨k, d⟩]⟩, [(mvs n f), (ints k g)]⟩) ∧
R (.ret (.tuple ⟨[(.int .i64 0), (.int .i64 0), (.int .i64 4)]⟩))))))))) := by kernel_rfl
theorem f16rt (p : Int) (n c k d i j : Nat) (f : Nat → Mv) (g : Nat → Int) (R : ARes → Prop) : (vx.call 16 [hV p n c, slV 1 k d, .bool true] (retK R) (m2 (mvs n f) (ints k g)) ((21, Hint.con (C68t p n c f)) :: (11, Hint.con (C39t p n c f k d g)) :: (15, Hint.again) :: (0, Hint.con (C44 true p n c f)) :: (0, Hint.again) :: (0, Hint.con ((C43 p n c k d f g (ordF true p n f n)).when (ARes.ret (Value.agg { toList := [I (↑i : Int), I (↑j : Int)] })))) :: [])) =
(((ConOK Try.prog 68 (C68t p n c f)) ∧ (Con.pre (C68t p n c f) ⟨⟨[(.int .i64 p)], [⟨n, c⟩]⟩, [(mvs n f)]⟩) ∧
((ConOK Try.prog 39 (C39t p n c f k d g)) ∧ (Con.pre (C39t p n c f k d g) ⟨⟨[(.int .i64 p)], [⟨n, c⟩, ⟨k, d⟩]⟩, [(mvs n f), (ints k g)]⟩) ∧
((((((2 : Nat) ≤ (2 : Nat))) ∧ (((.agg ⟨[(.int .i64 p), (.slice (.some ⟨0, 0, .none⟩) (n) (c))]⟩) : Value) = (.agg ⟨[(.int .i64 p), (.slice (.some ⟨0, 0, .none⟩) (n) (c))]⟩))) ∧ ((((some (.slice (.some ⟨1, 0, .none⟩) (k) (d)) : Option Value) = some (.slice (.some ⟨1, 0, .none⟩) (k) (d)))) ∧ (((((2 : Nat) ≤ (2 : Nat))) ∧ (((.agg ⟨[(.int .i64 p), (.slice (.some ⟨0, 0, .none⟩) (n) (c))]⟩) : Value) = (.agg ⟨[(.int .i64 p), (.slice (.some ⟨0, 0, .none⟩) (n) (c))]⟩))) ∧ (True)))) ∧
((ConOK Try.prog 44 (C44 true p n c f)) ∧ (Con.pre (C44 true p n c f) ⟨⟨[(.int .i64 p)], [⟨n, c⟩]⟩, [(mvs n f)]⟩) ∧
(((((some (.slice (.some ⟨1, 0, .none⟩) (k) (d)) : Option Value) = some (.slice (.some ⟨1, 0, .none⟩) (k) (d)))) ∧ (((((2 : Nat) ≤ (2 : Nat))) ∧ (((.agg ⟨[(.int .i64 p), (.slice (.some ⟨0, 0, .none⟩) (n) (c))]⟩) : Value) = (.agg ⟨[(.int .i64 p), (.slice (.some ⟨0, 0, .none⟩) (n) (c))]⟩))) ∧ (True))) ∧
((ConOK Try.prog 43 ((C43 p n c k d f g (ordF true p n f n)).when (ARes.ret (Value.agg { toList := [I (↑i : Int), I (↑j : Int)] })))) ∧ (Con.pre ((C43 p n c k d f g (ordF true p n f n)).when (ARes.ret (Value.agg { toList := [I (↑i : Int), I (↑j : Int)] }))) ⟨⟨[(.int .i64 p), (.int .i64 (ordF true p n f n (0 : Nat))), (.int .i64 (ordF true p n f n (1 : Nat))), (.int .i64 (ordF true p n f n (2 : Nat))), (.int .i64 (ordF true p n f n (3 : Nat))), (.int .i64 (ordF true p n f n (4 : Nat))), (.int .i64 (ordF true p n f n (5 : Nat))), (.int .i64 (ordF true p n f n (6 : Nat)))], [⟨n, c⟩, ⟨k, d⟩]⟩, [(mvs n f), (ints k g)]⟩) ∧
R (.ret (.tuple ⟨[(.int .i64 i), (.int .i64 j), (.int .i64 0)]⟩))))))))) := by kernel_rfl
theorem f16nf (p : Int) (n c k d : Nat) (f : Nat → Mv) (g : Nat → Int) (R : ARes → Prop) : (vx.call 16 [hV p n c, slV 1 k d, .bool false] (retK R) (m2 (mvs n f) (ints k g)) ((21, Hint.con (C68t p n c f)) :: (11, Hint.con (C39t p n c f k d g)) :: (15, Hint.again) :: (0, Hint.con (C44 false p n c f)) :: (0, Hint.again) :: (0, Hint.con ((C43 p n c k d f g (ordF false p n f n)).when (ARes.pan (Value.iface (36 : TypeId) (I (4 : Int)))))) :: [])) =
(((ConOK Try.prog 68 (C68t p n c f)) ∧ (Con.pre (C68t p n c f) ⟨⟨[(.int .i64 p)], [⟨n, c⟩]⟩, [(mvs n f)]⟩) ∧
((ConOK Try.prog 39 (C39t p n c f k d g)) ∧ (Con.pre (C39t p n c f k d g) ⟨⟨[(.int .i64 p)], [⟨n, c⟩, ⟨k, d⟩]⟩, [(mvs n f), (ints k g)]⟩) ∧
((((((2 : Nat) ≤ (2 : Nat))) ∧ (((.agg ⟨[(.int .i64 p), (.slice (.some ⟨0, 0, .none⟩) (n) (c))]⟩) : Value) = (.agg ⟨[(.int .i64 p), (.slice (.some ⟨0, 0, .none⟩) (n) (c))]⟩))) ∧ ((((some (.slice (.some ⟨1, 0, .none⟩) (k) (d)) : Option Value) = some (.slice (.some ⟨1, 0, .none⟩) (k) (d)))) ∧ (((((2 : Nat) ≤ (2 : Nat))) ∧ (((.agg ⟨[(.int .i64 p), (.slice (.some ⟨0, 0, .none⟩) (n) (c))]⟩) : Value) = (.agg ⟨[(.int .i64 p), (.slice (.some ⟨0, 0, .none⟩) (n) (c))]⟩))) ∧ (True)))) ∧
((ConOK Try.prog 44 (C44 false p n c f)) ∧ (Con.pre (C44 false p n c f) ⟨⟨[(.int .i64 p)], [⟨n, c⟩]⟩, [(mvs n f)]⟩) ∧
(((((some (.slice (.some ⟨1, 0, .none⟩) (k) (d)) : Option Value) = some (.slice (.some ⟨1, 0, .none⟩) (k) (d)))) ∧ (((((2 : Nat) ≤ (2 : Nat))) ∧ (((.agg ⟨[(.int .i64 p), (.slice (.some ⟨0, 0, .none⟩) (n) (c))]⟩) : Value) = (.agg ⟨[(.int .i64 p), (.slice (.some ⟨0, 0, .none⟩) (n) (c))]⟩))) ∧ (True))) ∧
((ConOK Try.prog 43 ((C43 p n c k d f g (ordF false p n f n)).when (ARes.pan (Value.iface (36 : TypeId) (I (4 : Int)))))) ∧ (Con.pre ((C43 p n c k d f g (ordF false p n f n)).when (ARes.pan (Value.iface (36 : TypeId) (I (4 : Int))))) ⟨⟨[(.int .i64 p), (.int .i64 (ordF false p n f n (0 : Nat))), (.int .i64 (ordF false p n f n (1 : Nat))), (.int .i64 (ordF false p n f n (2 : Nat))), (.int .i64 (ordF false p n f n (3 : Nat))), (.int .i64 (ordF false p n f n (4 : Nat))), (.int .i64 (ordF false p n f n (5 : Nat))), (.int .i64 (ordF false p n f n (6 : Nat)))], [⟨n, c⟩, ⟨k, d⟩]⟩, [(mvs n f), (ints k g)]⟩) ∧
R (.ret (.tuple ⟨[(.int .i64 0), (.int .i64 0), (.int .i64 4)]⟩))))))))) := by kernel_rfl
theorem f16rf (p : Int) (n c k d i j : Nat) (f : Nat → Mv) (g : Nat → Int) (R : ARes → Prop) : (vx.call 16 [hV p n c, slV 1 k d, .bool false] (retK R) (m2 (mvs n f) (ints k g)) ((21, Hint.con (C68t p n c f)) :: (11, Hint.con (C39t p n c f k d g)) :: (15, Hint.again) :: (0, Hint.con (C44 false p n c f)) :: (0, Hint.again) :: (0, Hint.con ((C43 p n c k d f g (ordF false p n f n)).when (ARes.ret (Value.agg { toList := [I (↑i : Int), I (↑j : Int)] })))) :: [])) =
(((ConOK Try.prog 68 (C68t p n c f)) ∧ (Con.pre (C68t p n c f) ⟨⟨[(.int .i64 p)], [⟨n, c⟩]⟩, [(mvs n f)]⟩) ∧
((ConOK Try.prog 39 (C39t p n c f k d g)) ∧ (Con.pre (C39t p n c f k d g) ⟨⟨[(.int .i64 p)], [⟨n, c⟩, ⟨k, d⟩]⟩, [(mvs n f), (ints k g)]⟩) ∧
((((((2 : Nat) ≤ (2 : Nat))) ∧ (((.agg ⟨[(.int .i64 p), (.slice (.some ⟨0, 0, .none⟩) (n) (c))]⟩) : Value) = (.agg ⟨[(.int .i64 p), (.slice (.some ⟨0, 0, .none⟩) (n) (c))]⟩))) ∧ ((((some (.slice (.some ⟨1, 0, .none⟩) (k) (d)) : Option Value) = some (.slice (.some ⟨1, 0, .none⟩) (k) (d)))) ∧ (((((2 : Nat) ≤ (2 : Nat))) ∧ (((.agg ⟨[(.int .i64 p), (.slice (.some ⟨0, 0, .none⟩) (n) (c))]⟩) : Value) = (.agg ⟨[(.int .i64 p), (.slice (.some ⟨0, 0, .none⟩) (n) (c))]⟩))) ∧ (True)))) ∧
((ConOK Try.prog 44 (C44 false p n c f)) ∧ (Con.pre (C44 false p n c f) ⟨⟨[(.int .i64 p)], [⟨n, c⟩]⟩, [(mvs n f)]⟩) ∧
(((((some (.slice (.some ⟨1, 0, .none⟩) (k) (d)) : Option Value) = some (.slice (.some ⟨1, 0, .none⟩) (k) (d)))) ∧ (((((2 : Nat) ≤ (2 : Nat))) ∧ (((.agg ⟨[(.int .i64 p), (.slice (.some ⟨0, 0, .none⟩) (n) (c))]⟩) : Value) = (.agg ⟨[(.int .i64 p), (.slice (.some ⟨0, 0, .none⟩) (n) (c))]⟩))) ∧ (True))) ∧
((ConOK Try.prog 43 ((C43 p n c k d f g (ordF false p n f n)).when (ARes.ret (Value.agg { toList := [I (↑i : Int), I (↑j : Int)] })))) ∧ (Con.pre ((C43 p n c k d f g (ordF false p n f n)).when (ARes.ret (Value.agg { toList := [I (↑i : Int), I (↑j : Int)] }))) ⟨⟨[(.int .i64 p), (.int .i64 (ordF false p n f n (0 : Nat))), (.int .i64 (ordF false p n f n (1 : Nat))), (.int .i64 (ordF false p n f n (2 : Nat))), (.int .i64 (ordF false p n f n (3 : Nat))), (.int .i64 (ordF false p n f n (4 : Nat))), (.int .i64 (ordF false p n f n (5 : Nat))), (.int .i64 (ordF false p n f n (6 : Nat)))], [⟨n, c⟩, ⟨k, d⟩]⟩, [(mvs n f), (ints k g)]⟩) ∧
R (.ret (.tuple ⟨[(.int .i64 i), (.int .i64 j), (.int .i64 0)]⟩))))))))) := by kernel_rfl
noncomputable def checkV (sure : Bool) (p : Int) (n k : Nat) (f : Nat → Mv) (g : Nat → Int) : Value := match pairS g (ordF sure p n f n) k k 0 with
  | some m => .tuple ⟨[I m.1, I m.2, I 0]⟩
  | none => .tuple ⟨[I 0, I 0, I 4]⟩
noncomputable def C16 (sure : Bool) (p : Int) (n c k d : Nat) (f : Nat → Mv) (g : Nat → Int) : Con where
  A := .agg (.hole (.slice 0 0 .nil)) (.slice 1 0 (.hole .nil))
  bs := [.list 1 .ro, .list 3 .ro]
  pre x := x = ⟨⟨[I p, .bool sure], [(n, c), (k, d)]⟩, [mvs n f, ints k g]⟩
  res _ := .ret (checkV sure p n k f g)
theorem C16_ok (sure : Bool) (p : Int) (n c k d : Nat) (f : Nat → Mv) (g : Nat → Int) (hok : okH p n f = true) (hpl : okP n k g = true) (hn : n ≤ 7) (hk : k ≤ 7) : ConOK Try.prog 16 (C16 sure p n c k d f g) := by
  refine con_of vx_sound ⟨⟨[I p, .bool sure], [(n, c), (k, d)]⟩, [mvs n f, ints k g]⟩ (fun x hx => ?_) rfl (fun _ _ => ?_) (fun x hx => ?_) rfl (Nat.le_of_ble_eq_true rfl) (by rw [nglob]; exact Nat.zero_le _)
  · cases hx
    have hw : ∀ r, wrongR g (ordF sure p n f n) k = r → ConOK Try.prog 43 ((C43 p n c k d f g (ordF sure p n f n)).when r) := fun r _ => con_when (C43_ok p n c k d f g _ hk) r
    cases hs : pairS g (ordF sure p n f n) k k 0 with
    | none =>
      have hr : wrongR g (ordF sure p n f n) k = .pan (.iface 36 (I 4)) := by simp only [wrongR, hs]
      have hv : ARes.ret (.tuple ⟨[I 0, I 0, I 4]⟩) = (C16 sure p n c k d f g).res ⟨⟨[I p, .bool sure], [(n, c), (k, d)]⟩, [mvs n f, ints k g]⟩ := by simp only [C16, checkV, hs]
      cases sure
      · exact ⟨_, (f16nf p n c k d f g _).mpr ⟨C68t_ok p n c f (by omega), ⟨rfl, hok⟩, C39t_ok p n c f k d g (by omega) (by omega), ⟨rfl, hpl⟩, ⟨⟨by omega, rfl⟩, rfl, ⟨by omega, rfl⟩, trivial⟩, C44_ok _ p n c f hn, rfl, ⟨rfl, ⟨by omega, rfl⟩, trivial⟩, hw _ hr, ⟨rfl, hr⟩, hv⟩⟩
      · exact ⟨_, (f16nt p n c k d f g _).mpr ⟨C68t_ok p n c f (by omega), ⟨rfl, hok⟩, C39t_ok p n c f k d g (by omega) (by omega), ⟨rfl, hpl⟩, ⟨⟨by omega, rfl⟩, rfl, ⟨by omega, rfl⟩, trivial⟩, C44_ok _ p n c f hn, rfl, ⟨rfl, ⟨by omega, rfl⟩, trivial⟩, hw _ hr, ⟨rfl, hr⟩, hv⟩⟩
    | some m =>
      have hr : wrongR g (ordF sure p n f n) k = .ret (.agg ⟨[I m.1, I m.2]⟩) := by simp only [wrongR, hs]
      have hv : ARes.ret (.tuple ⟨[I m.1, I m.2, I 0]⟩) = (C16 sure p n c k d f g).res ⟨⟨[I p, .bool sure], [(n, c), (k, d)]⟩, [mvs n f, ints k g]⟩ := by simp only [C16, checkV, hs]
      cases sure
      · exact ⟨_, (f16rf p n c k d m.1 m.2 f g _).mpr ⟨C68t_ok p n c f (by omega), ⟨rfl, hok⟩, C39t_ok p n c f k d g (by omega) (by omega), ⟨rfl, hpl⟩, ⟨⟨by omega, rfl⟩, rfl, ⟨by omega, rfl⟩, trivial⟩, C44_ok _ p n c f hn, rfl, ⟨rfl, ⟨by omega, rfl⟩, trivial⟩, hw _ hr, ⟨rfl, hr⟩, hv⟩⟩
      · exact ⟨_, (f16rt p n c k d m.1 m.2 f g _).mpr ⟨C68t_ok p n c f (by omega), ⟨rfl, hok⟩, C39t_ok p n c f k d g (by omega) (by omega), ⟨rfl, hpl⟩, ⟨⟨by omega, rfl⟩, rfl, ⟨by omega, rfl⟩, trivial⟩, C44_ok _ p n c f hn, rfl, ⟨rfl, ⟨by omega, rfl⟩, trivial⟩, hw _ hr, ⟨rfl, hr⟩, hv⟩⟩
  · simp only [C16, checkV]
    split <;> rfl
  · cases hx
    intro cs hcs
    simp only [List.mem_cons, List.not_mem_nil, or_false] at hcs
    rcases hcs with rfl | rfl
    · exact mvs_atoms n f _ (by simp)
    · exact ints_atoms k g _ (by simp)
end Go.Ab
set_option maxRecDepth 100000
namespace Go.Ab
open Go Go.RowKit Go.Proofs
def p13 : Loc := .l (.r (.l (.r (.r (.top 13)))))
noncomputable def m2b (ms bs : List Value) : Mem := ⟨fillX [.cells ms 1 .ro, .cells bs 2 .ro] 0 .nil, 2⟩
noncomputable def T13a : Tm := ⟨32, mkS 32 [(1, .slice 1 0 .nil), (5, .val nilS .nil), (10, .hole .nil), (11, .hole .nil)], 3, [.dead, .list 2 .ro, .dead]⟩
noncomputable def T13b : Tm := ⟨32, mkS 32 [(1, .slice 1 0 .nil), (5, .slice 3 0 .nil), (10, .hole .nil), (11, .hole .nil)], 3, [.dead, .list 2 .ro, .dead, .list 3 .row]⟩
noncomputable def N13a : Tm := ⟨32, mkS 32 [(1, .val nilS .nil), (5, .val nilS .nil), (10, .hole .nil), (11, .hole .nil)], 3, [.dead, .dead, .dead]⟩
noncomputable def N13b : Tm := ⟨32, mkS 32 [(1, .val nilS .nil), (5, .slice 3 0 .nil), (10, .hole .nil), (11, .hole .nil)], 3, [.dead, .dead, .dead, .list 3 .row]⟩
noncomputable def U8 (n : Int) : Value := .int .u8 n
end Go.Ab
set_option maxRecDepth 100000
namespace Go.Ab
open Go Go.RowKit Go.Proofs
theorem b13a (n i k d : Nat) (bs : List Value) (b : Nat → Int) (R : Nat → AExit → Hx → Prop) : (vx.code none (.l p13) (leafK [T13a, T13b] R) (T13a.inst ⟨⟨[I n, I i], [(k, d)]⟩, [bs]⟩) ([(0, .split ([(6, .split ((5, .val (.int .i64 ((↑i : Int).tmod (↑k : Int)))) :: (0, .val (.pointer (.some ⟨((1 : Nat)), ((0 : Nat) + ((↑i : Int).tmod (↑k : Int)).toNat * (1 : Nat)), .none⟩))) :: (0, .val (.int .u8 (b ((↑i : Int).tmod (↑k : Int)).toNat))) :: [(10, Hint.tm (1 : Nat) [((3 : Nat), (4 : Nat))])]) ([(9, Hint.tm (1 : Nat) [((3 : Nat), (4 : Nat))])]))]) ([(1, .tm 0 [])]))])) =
((((decide ((↑i : Int) < (↑n : Int))) = true → (((decide ((↑k : Int) > (0 : Int))) = true → ((((((↑k : Int) ≠ (0 : Int))) ∧ ((IntKind.i64 = IntKind.i64))) ∧ (((.int .i64 ((↑i : Int).tmod (↑k : Int))) : Value) = (.int .i64 ((↑i : Int).tmod (↑k : Int))))) ∧
((((((0 : Int) ≤ (↑i : Int).tmod (↑k : Int))) ∧ (((↑i : Int).tmod (↑k : Int) < (↑k : Int)))) ∧ (((.pointer (.some ⟨((1 : Nat)), ((0 : Nat) + ((↑i : Int).tmod (↑k : Int)).toNat * (1 : Nat)), .none⟩)) : Value) = (.pointer (.some ⟨((1 : Nat)), ((0 : Nat) + ((↑i : Int).tmod (↑k : Int)).toNat * (1 : Nat)), .none⟩)))) ∧
(((bs[(0 : Nat) + ((↑i : Int).tmod (↑k : Int)).toNat * (1 : Nat)]? = some (.int .u8 (b ((↑i : Int).tmod (↑k : Int)).toNat)))) ∧
R 1 .normal ⟨⟨[(.int .i64 n), (.int .i64 (IntKind.i64.wrap ((↑i : Int) + (1 : Int))))], [⟨k, d⟩, ⟨((1 : Nat)), ((1 : Nat))⟩]⟩, [(bs), [(.int .i64 ((IntKind.i64.wrap (b ((↑i : Int).tmod (↑k : Int)).toNat)).tmod (7 : Int)))]]⟩)))) ∧
((decide ((↑k : Int) > (0 : Int))) = false → R 1 .normal ⟨⟨[(.int .i64 n), (.int .i64 (IntKind.i64.wrap ((↑i : Int) + (1 : Int))))], [⟨k, d⟩, ⟨((1 : Nat)), ((1 : Nat))⟩]⟩, [(bs), [(.int .i64 (Int.tmod (0 : Int) (7 : Int)))]]⟩))) ∧
((decide ((↑i : Int) < (↑n : Int))) = false → R 0 (.exit ((0 : Nat))) ⟨⟨[(.int .i64 n), (.int .i64 i)], [⟨k, d⟩]⟩, [(bs)]⟩))) := by kernel_rfl
theorem b13b (n i j k d : Nat) (bs ls : List Value) (b : Nat → Int) (R : Nat → AExit → Hx → Prop) : (vx.code none (.l p13) (leafK [T13a, T13b] R) (T13b.inst ⟨⟨[I n, I i], [(k, d), (j, j)]⟩, [bs, ls]⟩) ([(0, .split ([(6, .split ((5, .val (.int .i64 ((↑i : Int).tmod (↑k : Int)))) :: (0, .val (.pointer (.some ⟨((1 : Nat)), ((0 : Nat) + ((↑i : Int).tmod (↑k : Int)).toNat * (1 : Nat)), .none⟩))) :: (0, .val (.int .u8 (b ((↑i : Int).tmod (↑k : Int)).toNat))) :: (6, Hint.grow) :: [(3, Hint.tm (1 : Nat) [((3 : Nat), (5 : Nat))])]) ((5, Hint.grow) :: [(3, Hint.tm (1 : Nat) [((3 : Nat), (5 : Nat))])]))]) ([(1, Hint.tm (1 : Nat) [((3 : Nat), (3 : Nat))])]))])) =
((((decide ((↑i : Int) < (↑n : Int))) = true → (((decide ((↑k : Int) > (0 : Int))) = true → ((((((↑k : Int) ≠ (0 : Int))) ∧ ((IntKind.i64 = IntKind.i64))) ∧ (((.int .i64 ((↑i : Int).tmod (↑k : Int))) : Value) = (.int .i64 ((↑i : Int).tmod (↑k : Int))))) ∧
((((((0 : Int) ≤ (↑i : Int).tmod (↑k : Int))) ∧ (((↑i : Int).tmod (↑k : Int) < (↑k : Int)))) ∧ (((.pointer (.some ⟨((1 : Nat)), ((0 : Nat) + ((↑i : Int).tmod (↑k : Int)).toNat * (1 : Nat)), .none⟩)) : Value) = (.pointer (.some ⟨((1 : Nat)), ((0 : Nat) + ((↑i : Int).tmod (↑k : Int)).toNat * (1 : Nat)), .none⟩)))) ∧
(((bs[(0 : Nat) + ((↑i : Int).tmod (↑k : Int)).toNat * (1 : Nat)]? = some (.int .u8 (b ((↑i : Int).tmod (↑k : Int)).toNat)))) ∧
((((¬j + (1 : Nat) ≤ j)) ∧ (((j * (1 : Nat) = ls.length)) ∧ ((((j + (1 : Nat)) * (8 : Nat) ≤ (140737488355328 : Nat))) ∧ ((j + (1 : Nat) ≤ (4611686018427387904 : Nat)))))) ∧
R 1 .normal ⟨⟨[(.int .i64 n), (.int .i64 (IntKind.i64.wrap ((↑i : Int) + (1 : Int))))], [⟨k, d⟩, ⟨(j + (1 : Nat)), (j + (1 : Nat))⟩]⟩, [(bs), ((List.take (j * (1 : Nat)) (ls)) ++ [(.int .i64 ((IntKind.i64.wrap (b ((↑i : Int).tmod (↑k : Int)).toNat)).tmod (7 : Int)))])]⟩))))) ∧
((decide ((↑k : Int) > (0 : Int))) = false → ((((¬j + (1 : Nat) ≤ j)) ∧ (((j * (1 : Nat) = ls.length)) ∧ ((((j + (1 : Nat)) * (8 : Nat) ≤ (140737488355328 : Nat))) ∧ ((j + (1 : Nat) ≤ (4611686018427387904 : Nat)))))) ∧
R 1 .normal ⟨⟨[(.int .i64 n), (.int .i64 (IntKind.i64.wrap ((↑i : Int) + (1 : Int))))], [⟨k, d⟩, ⟨(j + (1 : Nat)), (j + (1 : Nat))⟩]⟩, [(bs), ((List.take (j * (1 : Nat)) (ls)) ++ [(.int .i64 (Int.tmod (0 : Int) (7 : Int)))])]⟩)))) ∧
((decide ((↑i : Int) < (↑n : Int))) = false → R 1 (.exit ((0 : Nat))) ⟨⟨[(.int .i64 n), (.int .i64 i)], [⟨k, d⟩, ⟨j, j⟩]⟩, [(bs), (ls)]⟩))) := by kernel_rfl
theorem f13 (p : Int) (n c k d : Nat) (ms bs js : List Value) (R : Hx → Prop) : (vx.call 13 [hV p n c, slV 1 k d] (retN (rowT 2 3) R) (m2b ms bs) ((8, Hint.loopT T13a (AExit.exit (0 : Nat)) T13b fun _ => { hs := { vs := [I (↑n : Int), I (↑n : Int)], ns := [(k, d), (n, n)] }, ls := [bs, js] }) :: [(2, Hint.tm (0 : Nat) [((2 : Nat), (3 : Nat))])])) =
(((Atoms [(bs)]) ∧ (LoopOK Try.prog .none p13 (T13a) ⟨⟨[(.int .i64 n), (.int .i64 0)], [⟨k, d⟩]⟩, [(bs)]⟩ (.exit ((0 : Nat))) (T13b) ⟨⟨[(.int .i64 n), (.int .i64 n)], [⟨k, d⟩, ⟨n, n⟩]⟩, [(bs), (js)]⟩) ∧
R ⟨⟨[], [⟨n, n⟩]⟩, [(js)]⟩)) := by kernel_rfl
theorem n13a (n i : Nat) (R : Nat → AExit → Hx → Prop) : (vx.code none (.l p13) (leafK [N13a, N13b] R) (N13a.inst ⟨⟨[I n, I i], []⟩, []⟩) ([(0, .split ([(16, Hint.tm (1 : Nat) [((3 : Nat), (4 : Nat))])]) ([(1, .tm 0 [])]))])) =
((((decide ((↑i : Int) < (↑n : Int))) = true → R 1 .normal ⟨⟨[(.int .i64 n), (.int .i64 (IntKind.i64.wrap ((↑i : Int) + (1 : Int))))], [⟨((1 : Nat)), ((1 : Nat))⟩]⟩, [[(.int .i64 (Int.tmod (0 : Int) (7 : Int)))]]⟩) ∧
((decide ((↑i : Int) < (↑n : Int))) = false → R 0 (.exit ((0 : Nat))) ⟨⟨[(.int .i64 n), (.int .i64 i)], []⟩, []⟩))) := by kernel_rfl
theorem n13b (n i j : Nat) (ls : List Value) (R : Nat → AExit → Hx → Prop) : (vx.code none (.l p13) (leafK [N13a, N13b] R) (N13b.inst ⟨⟨[I n, I i], [(j, j)]⟩, [ls]⟩) ([(0, .split ((12, Hint.grow) :: [(3, Hint.tm (1 : Nat) [((3 : Nat), (5 : Nat))])]) ([(1, Hint.tm (1 : Nat) [((3 : Nat), (3 : Nat))])]))])) =
((((decide ((↑i : Int) < (↑n : Int))) = true → ((((¬j + (1 : Nat) ≤ j)) ∧ (((j * (1 : Nat) = ls.length)) ∧ ((((j + (1 : Nat)) * (8 : Nat) ≤ (140737488355328 : Nat))) ∧ ((j + (1 : Nat) ≤ (4611686018427387904 : Nat)))))) ∧
R 1 .normal ⟨⟨[(.int .i64 n), (.int .i64 (IntKind.i64.wrap ((↑i : Int) + (1 : Int))))], [⟨(j + (1 : Nat)), (j + (1 : Nat))⟩]⟩, [((List.take (j * (1 : Nat)) (ls)) ++ [(.int .i64 (Int.tmod (0 : Int) (7 : Int)))])]⟩)) ∧
((decide ((↑i : Int) < (↑n : Int))) = false → R 1 (.exit ((0 : Nat))) ⟨⟨[(.int .i64 n), (.int .i64 i)], [⟨j, j⟩]⟩, [(ls)]⟩))) := by kernel_rfl
theorem n13 (p : Int) (n c : Nat) (ms js : List Value) (R : Hx → Prop) : (vx.call 13 [hV p n c, nilS] (retN (rowT 1 3) R) (m1 ms) ((8, Hint.loopT N13a (AExit.exit (0 : Nat)) N13b fun _ => { hs := { vs := [I (↑n : Int), I (↑n : Int)], ns := [(n, n)] }, ls := [js] }) :: [(2, Hint.tm (0 : Nat) [((1 : Nat), (3 : Nat))])])) =
(((Atoms []) ∧ (LoopOK Try.prog .none p13 (N13a) ⟨⟨[(.int .i64 n), (.int .i64 0)], []⟩, []⟩ (.exit ((0 : Nat))) (N13b) ⟨⟨[(.int .i64 n), (.int .i64 n)], [⟨n, n⟩]⟩, [(js)]⟩) ∧
R ⟨⟨[], [⟨n, n⟩]⟩, [(js)]⟩)) := by kernel_rfl
noncomputable def u8s (k : Nat) (b : Nat → Int) : List Value := flatC k fun i => [U8 (b i)]
theorem u8s_atoms (k : Nat) (b : Nat → Int) : ∀ v ∈ u8s k b, atomic v = true := by
  refine flatC_atomic fun i _ v hv => ?_
  simp only [List.mem_cons, List.not_mem_nil, or_false] at hv
  rcases hv with rfl; rfl
theorem u8s_get {k i : Nat} (b : Nat → Int) (h : i < k) : (u8s k b)[0 + i * 1]? = some (U8 (b i)) := by
  rw [Nat.zero_add]
  have := flatC_get (n := k) (k := 1) (g := fun i => [U8 (b i)]) (fun i _ => rfl) h (j := 0) (by omega)
  simp only [u8s]
  simpa using this
def planG (k : Nat) (b : Nat → Int) (i : Nat) : Int := if 0 < k then (IntKind.i64.wrap (b ((i : Int).tmod (k : Int)).toNat)).tmod 7 else Int.tmod 0 7
theorem ints_succ (n : Nat) (g : Nat → Int) : ints (n + 1) g = ints n g ++ [I (g n)] := flatC_succ
theorem ints_atom (n : Nat) (g : Nat → Int) : ∀ v ∈ ints n g, atomic v = true := fun v hv => ints_atoms n g _ (by simp) v hv
noncomputable def st13 (n k d : Nat) (b : Nat → Int) (i : Nat) : Nat × Hx := if i = 0 then (0, ⟨⟨[I n, I (0 : Nat)], [(k, d)]⟩, [u8s k b]⟩) else (1, ⟨⟨[I n, I i], [(k, d), (i, i)]⟩, [u8s k b, ints i (planG k b)]⟩)
theorem loop13 (n k d : Nat) (b : Nat → Int) (h0 : 0 < n) (hn : n ≤ 1000000) : LoopOK Try.prog none p13 T13a ⟨⟨[I n, I (0 : Nat)], [(k, d)]⟩, [u8s k b]⟩ (.exit 0) T13b ⟨⟨[I n, I n], [(k, d), (n, n)]⟩, [u8s k b, ints n (planG k b)]⟩ := by
  have hat : ∀ i, Atoms [u8s k b, ints i (planG k b)] := fun i cs hcs => by
    simp only [List.mem_cons, List.not_mem_nil, or_false] at hcs
    rcases hcs with rfl | rfl
    · exact u8s_atoms k b
    · exact ints_atom i _
  have hat1 : Atoms [u8s k b] := fun cs hcs => by simp only [List.mem_singleton] at hcs; subst hcs; exact u8s_atoms k b
  have hmod : ∀ i : Nat, 0 < k → (0 : Int) ≤ (i : Int).tmod (k : Int) ∧ (i : Int).tmod (k : Int) < (k : Int) ∧ ((i : Int).tmod (k : Int)).toNat < k := fun i hk => by
    have e : (i : Int).tmod (k : Int) = ((i % k : Nat) : Int) := rfl
    have := Nat.mod_lt i hk
    rw [e]
    omega
  refine loop_vc (Ts := [T13a, T13b]) (k := 3) (X := Nat) (inv := fun i => i ≤ n) (μ := fun i => n - i) (st := st13 n k d b) (out := fun _ => (.exit 0, 1, ⟨⟨[I n, I n], [(k, d), (n, n)]⟩, [u8s k b, ints n (planG k b)]⟩)) rfl vx_sound (by simp [T13a, T13b]) (by rw [nglob]; omega) (fun i hi => ?_) (Nat.zero_le n) (x := 0) rfl (Nat.le_of_ble_eq_true rfl) (by decide) rfl
  have hw : i < n → IntKind.i64.wrap ((i : Int) + 1) = ((i + 1 : Nat) : Int) := fun _ => wrapI (by omega) (by omega)
  by_cases hz : i = 0
  · subst hz
    refine ⟨T13a, _, rfl, (b13a n 0 k d (u8s k b) b _).mpr ⟨fun h => ⟨fun hk => ?_, fun hk => ?_⟩, fun h => ?_⟩⟩
    · have hk' : 0 < k := by have := of_decide_eq_true hk; omega
      obtain ⟨m1, m2, m3⟩ := hmod 0 hk'
      refine ⟨⟨⟨by omega, rfl⟩, rfl⟩, ⟨⟨m1, m2⟩, rfl⟩, u8s_get b m3, ⟨⟨?_, trivial⟩, .inl ⟨rfl, 1, by omega, by show n - 1 < n - 0; omega, ?_, rfl⟩⟩⟩
      · have h2 := hat 1
        simp only [ints_succ, planG, if_pos hk'] at h2
        exact h2
      · rw [hw h0]
        simp only [st13, if_neg (show ¬ 0 + 1 = 0 by omega), ints_succ, planG, if_pos hk']
        rfl
    · have hk' : ¬ 0 < k := by have := of_decide_eq_false hk; omega
      refine ⟨⟨?_, trivial⟩, .inl ⟨rfl, 1, by omega, by show n - 1 < n - 0; omega, ?_, rfl⟩⟩
      · have h2 := hat 1
        simp only [ints_succ, planG, if_neg hk'] at h2
        exact h2
      · rw [hw h0]
        simp only [st13, if_neg (show ¬ 0 + 1 = 0 by omega), ints_succ, planG, if_neg hk']
        rfl
    · have : ¬ (0 : Nat) < n := by simpa using h
      omega
  · have hst : st13 n k d b i = (1, ⟨⟨[I n, I i], [(k, d), (i, i)]⟩, [u8s k b, ints i (planG k b)]⟩) := by simp only [st13, if_neg hz]
    rw [hst]
    have hlen := ints_len i (planG k b)
    refine ⟨T13b, _, rfl, (b13b n i i k d (u8s k b) (ints i (planG k b)) b _).mpr ⟨fun h => ?_, fun h => ?_⟩⟩
    · have hi' : i < n := by simpa using h
      have e : ints (i + 1) (planG k b) = ints i (planG k b) ++ [I (planG k b i)] := ints_succ i _
      have ht : List.take (i * 1) (ints i (planG k b)) = ints i (planG k b) := List.take_of_length_le (by rw [hlen]; omega)
      rw [hw hi', ht]
      have hnext : st13 n k d b (i + 1) = (1, ⟨⟨[I n, I (i + 1 : Nat)], [(k, d), (i + 1, i + 1)]⟩, [u8s k b, ints (i + 1) (planG k b)]⟩) := by simp only [st13, if_neg (show ¬ i + 1 = 0 by omega)]
      have h2 := hat (i + 1)
      refine ⟨fun hk => ?_, fun hk => ?_⟩
      · have hk' : 0 < k := by have := of_decide_eq_true hk; omega
        obtain ⟨m1, m2, m3⟩ := hmod i hk'
        simp only [e, planG, if_pos hk'] at h2 hnext
        refine ⟨⟨⟨by omega, rfl⟩, rfl⟩, ⟨⟨m1, m2⟩, rfl⟩, u8s_get b m3, ⟨by omega, by omega, by omega, by omega⟩, ⟨⟨?_, trivial⟩, .inl ⟨rfl, i + 1, by omega, by show n - (i + 1) < n - i; omega, ?_, rfl⟩⟩⟩
        · exact h2
        · exact hnext.trans rfl
      · have hk' : ¬ 0 < k := by have := of_decide_eq_false hk; omega
        simp only [e, planG, if_neg hk'] at h2 hnext
        refine ⟨⟨by omega, by omega, by omega, by omega⟩, ⟨⟨?_, trivial⟩, .inl ⟨rfl, i + 1, by omega, by show n - (i + 1) < n - i; omega, ?_, rfl⟩⟩⟩
        · exact h2
        · exact hnext.trans rfl
    · have e : i = n := by have : ¬ i < n := by simpa using h
                           omega
      subst e
      exact ⟨⟨hat i, trivial⟩, .inr ⟨by simp, rfl⟩⟩
noncomputable def C13 (p : Int) (n c k d : Nat) (f : Nat → Mv) (b : Nat → Int) : ConN where
  A := .agg (.hole (.slice 0 0 .nil)) (.slice 1 0 .nil)
  bs := [.list 1 .ro, .list 2 .ro]
  pre x := x = ⟨⟨[I p], [(n, c), (k, d)]⟩, [mvs n f, u8s k b]⟩
  news _ := [(ints n (planG k b), 3)]
  one := true
  res _ := [.sl 0 n]
theorem C13_ok (p : Int) (n c k d : Nat) (f : Nat → Mv) (b : Nat → Int) (h0 : 0 < n) (hn : n ≤ 1000000) : ConNOK Try.prog 13 (C13 p n c k d f b) := by
  have hat1 : Atoms [u8s k b] := fun cs hcs => by simp only [List.mem_singleton] at hcs; subst hcs; exact u8s_atoms k b
  refine conRow_of rfl vx_sound (C := C13 p n c k d f b) (n := n) (cells := ints n (planG k b)) (e := 3) ⟨⟨[I p], [(n, c), (k, d)]⟩, [mvs n f, u8s k b]⟩ (fun x => Iff.rfl) rfl rfl rfl ⟨_, (f13 p n c k d (mvs n f) (u8s k b) (ints n (planG k b)) _).mpr ⟨hat1, loop13 n k d b h0 hn, rfl⟩⟩ ?_ (ints_atom n _) rfl (Nat.le_of_ble_eq_true rfl) (by rw [nglob]; exact Nat.zero_le _)
  intro cs hcs
  simp only [List.mem_cons, List.not_mem_nil, or_false] at hcs
  rcases hcs with rfl | rfl
  · exact mvs_atoms n f _ (by simp)
  · exact u8s_atoms k b
end Go.Ab
