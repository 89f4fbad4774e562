/- package horse: the first two moves of one horse of which none can follow the other one. -/
import Derived.Test.YtamfplmmfbbabaaGreatMT
set_option maxRecDepth 100000
namespace Go.Ab
open Go Go.RowKit Go.Proofs
theorem b43i (k d i j : Nat) (ps : List Value) (g o : Nat → Int) (R : Nat → AExit → Hx → Prop)  : (vx.code none (.l p43i) (leafK [T43i] R) (T43i.inst ⟨⟨[I i, I j, I k, I i], [(k, d)]⟩, [ps, ints 7 o, [I 0, I 0]]⟩) ([(3, .split ((3, .val (.pointer (.some ⟨((1 : Nat)), ((0 : Nat) + i * (1 : Nat)), .none⟩))) :: (0, .val (.int IntKind.i64 (g i))) :: (2, .val (.pointer (.some ⟨((1 : Nat)), ((0 : Nat) + j * (1 : Nat)), .none⟩))) :: (0, .val (.int IntKind.i64 (g j))) :: [(0, .split ((8, .val (.pointer (.some ⟨((5 : Nat)), ((0 : Nat) + i * (1 : Nat)), .none⟩))) :: (0, .val (.int IntKind.i64 (o i))) :: (5, .val (.int IntKind.i64 (o i / (2 : Int) ^ j))) :: [(1, .split ([(10, Hint.tm (0 : Nat) [])]) ((3, .val (.pointer (.some ⟨((5 : Nat)), ((0 : Nat) + j * (1 : Nat)), .none⟩))) :: (0, .val (.int IntKind.i64 (o j))) :: (5, .val (.int IntKind.i64 (o j / (2 : Int) ^ i))) :: [(1, .split ([(9, Hint.tm (0 : Nat) [])]) ([(10, Hint.tm (0 : Nat) [])]))]))]) ([(6, Hint.tm (0 : Nat) [])]))]) ([(1, Hint.tm (0 : Nat) [])]))])) =
((((decide ((↑j : Int) < (↑k : Int))) = true → ((((((0 : Int) ≤ (↑i : Int))) ∧ (((↑i : Int) < (↑k : Int)))) ∧ (((.pointer (.some ⟨((1 : Nat)), ((0 : Nat) + i * (1 : Nat)), .none⟩)) : Value) = (.pointer (.some ⟨((1 : Nat)), ((0 : Nat) + i * (1 : Nat)), .none⟩)))) ∧
(((ps[(0 : Nat) + i * (1 : Nat)]? = some (.int IntKind.i64 (g i)))) ∧
((((((0 : Int) ≤ (↑j : Int))) ∧ (((↑j : Int) < (↑k : Int)))) ∧ (((.pointer (.some ⟨((1 : Nat)), ((0 : Nat) + j * (1 : Nat)), .none⟩)) : Value) = (.pointer (.some ⟨((1 : Nat)), ((0 : Nat) + j * (1 : Nat)), .none⟩)))) ∧
(((ps[(0 : Nat) + j * (1 : Nat)]? = some (.int IntKind.i64 (g j)))) ∧
(((g i == g j) = true → ((((((0 : Int) ≤ (↑i : Int))) ∧ (((↑i : Int) < (↑(7 : Nat) : Int)))) ∧ (((.pointer (.some ⟨((5 : Nat)), ((0 : Nat) + i * (1 : Nat)), .none⟩)) : Value) = (.pointer (.some ⟨((5 : Nat)), ((0 : Nat) + i * (1 : Nat)), .none⟩)))) ∧
((([Value.int IntKind.i64 (o (0 : Nat)), Value.int IntKind.i64 (o (1 : Nat)), Value.int IntKind.i64 (o (2 : Nat)),     Value.int IntKind.i64 (o (3 : Nat)), Value.int IntKind.i64 (o (4 : Nat)), Value.int IntKind.i64 (o (5 : Nat)),     Value.int IntKind.i64 (o (6 : Nat))][(0 : Nat) + i * (1 : Nat)]? = some (.int IntKind.i64 (o i)))) ∧
((((((0 : Int) ≤ (↑j : Int))) ∧ (((↑j : Int) ≤ (↑(64 : Nat) : Int)))) ∧ (((.int IntKind.i64 (o i / (2 : Int) ^ j)) : Value) = (.int IntKind.i64 (o i / (2 : Int) ^ j)))) ∧
(((bits BinOp.and IntKind.i64 (o i / (2 : Int) ^ j) (1 : Int) == (1 : Int)) = true → R ((0 : Nat)) .normal ⟨⟨[(.int IntKind.i64 ((↑i : Int))), (.int IntKind.i64 (IntKind.i64.wrap ((↑j : Int) + (1 : Int)))), (.int IntKind.i64 ((↑k : Int))), (.int IntKind.i64 ((↑i : Int)))], [⟨(k), (d)⟩]⟩, [(ps), [(.int IntKind.i64 (o (0 : Nat))), (.int IntKind.i64 (o (1 : Nat))), (.int IntKind.i64 (o (2 : Nat))), (.int IntKind.i64 (o (3 : Nat))), (.int IntKind.i64 (o (4 : Nat))), (.int IntKind.i64 (o (5 : Nat))), (.int IntKind.i64 (o (6 : Nat)))], [(.int IntKind.i64 ((0 : Int))), (.int IntKind.i64 ((0 : Int)))]]⟩) ∧
((bits BinOp.and IntKind.i64 (o i / (2 : Int) ^ j) (1 : Int) == (1 : Int)) = false → ((((((0 : Int) ≤ (↑j : Int))) ∧ (((↑j : Int) < (↑(7 : Nat) : Int)))) ∧ (((.pointer (.some ⟨((5 : Nat)), ((0 : Nat) + j * (1 : Nat)), .none⟩)) : Value) = (.pointer (.some ⟨((5 : Nat)), ((0 : Nat) + j * (1 : Nat)), .none⟩)))) ∧
((([Value.int IntKind.i64 (o (0 : Nat)), Value.int IntKind.i64 (o (1 : Nat)), Value.int IntKind.i64 (o (2 : Nat)),     Value.int IntKind.i64 (o (3 : Nat)), Value.int IntKind.i64 (o (4 : Nat)), Value.int IntKind.i64 (o (5 : Nat)),     Value.int IntKind.i64 (o (6 : Nat))][(0 : Nat) + j * (1 : Nat)]? = some (.int IntKind.i64 (o j)))) ∧
((((((0 : Int) ≤ (↑i : Int))) ∧ (((↑i : Int) ≤ (↑(64 : Nat) : Int)))) ∧ (((.int IntKind.i64 (o j / (2 : Int) ^ i)) : Value) = (.int IntKind.i64 (o j / (2 : Int) ^ i)))) ∧
(((bits BinOp.and IntKind.i64 (o j / (2 : Int) ^ i) (1 : Int) == (1 : Int)) = true → R ((0 : Nat)) .normal ⟨⟨[(.int IntKind.i64 ((↑i : Int))), (.int IntKind.i64 (IntKind.i64.wrap ((↑j : Int) + (1 : Int)))), (.int IntKind.i64 ((↑k : Int))), (.int IntKind.i64 ((↑i : Int)))], [⟨(k), (d)⟩]⟩, [(ps), [(.int IntKind.i64 (o (0 : Nat))), (.int IntKind.i64 (o (1 : Nat))), (.int IntKind.i64 (o (2 : Nat))), (.int IntKind.i64 (o (3 : Nat))), (.int IntKind.i64 (o (4 : Nat))), (.int IntKind.i64 (o (5 : Nat))), (.int IntKind.i64 (o (6 : Nat)))], [(.int IntKind.i64 ((0 : Int))), (.int IntKind.i64 ((0 : Int)))]]⟩) ∧
((bits BinOp.and IntKind.i64 (o j / (2 : Int) ^ i) (1 : Int) == (1 : Int)) = false → R ((0 : Nat)) .ret ⟨⟨[(.int IntKind.i64 ((↑i : Int))), (.int IntKind.i64 ((↑j : Int))), (.int IntKind.i64 ((↑k : Int))), (.int IntKind.i64 ((↑i : Int)))], [⟨(k), (d)⟩]⟩, [(ps), [(.int IntKind.i64 (o (0 : Nat))), (.int IntKind.i64 (o (1 : Nat))), (.int IntKind.i64 (o (2 : Nat))), (.int IntKind.i64 (o (3 : Nat))), (.int IntKind.i64 (o (4 : Nat))), (.int IntKind.i64 (o (5 : Nat))), (.int IntKind.i64 (o (6 : Nat)))], [(.int IntKind.i64 ((↑i : Int))), (.int IntKind.i64 ((↑j : Int)))]]⟩))))))))))) ∧
((g i == g j) = false → R ((0 : Nat)) .normal ⟨⟨[(.int IntKind.i64 ((↑i : Int))), (.int IntKind.i64 (IntKind.i64.wrap ((↑j : Int) + (1 : Int)))), (.int IntKind.i64 ((↑k : Int))), (.int IntKind.i64 ((↑i : Int)))], [⟨(k), (d)⟩]⟩, [(ps), [(.int IntKind.i64 (o (0 : Nat))), (.int IntKind.i64 (o (1 : Nat))), (.int IntKind.i64 (o (2 : Nat))), (.int IntKind.i64 (o (3 : Nat))), (.int IntKind.i64 (o (4 : Nat))), (.int IntKind.i64 (o (5 : Nat))), (.int IntKind.i64 (o (6 : Nat)))], [(.int IntKind.i64 ((0 : Int))), (.int IntKind.i64 ((0 : Int)))]]⟩))))))) ∧
((decide ((↑j : Int) < (↑k : Int))) = false → R ((0 : Nat)) (.exit ((2 : Nat))) ⟨⟨[(.int IntKind.i64 ((↑i : Int))), (.int IntKind.i64 ((↑j : Int))), (.int IntKind.i64 ((↑k : Int))), (.int IntKind.i64 ((↑i : Int)))], [⟨(k), (d)⟩]⟩, [(ps), [(.int IntKind.i64 (o (0 : Nat))), (.int IntKind.i64 (o (1 : Nat))), (.int IntKind.i64 (o (2 : Nat))), (.int IntKind.i64 (o (3 : Nat))), (.int IntKind.i64 (o (4 : Nat))), (.int IntKind.i64 (o (5 : Nat))), (.int IntKind.i64 (o (6 : Nat)))], [(.int IntKind.i64 ((0 : Int))), (.int IntKind.i64 ((0 : Int)))]]⟩))) := by kernel_rfl

theorem b43on (k d i : Nat) (ps : List Value) (o : Nat → Int) (R : Nat → AExit → Hx → Prop)  : (vx.code none (.l p43o) (leafK [T43o] R) (T43o.inst ⟨⟨[I k, I i], [(k, d)]⟩, [ps, ints 7 o, [I 0, I 0]]⟩) ([(0, .split ((6, Hint.loopT T43i (AExit.exit (2 : Nat)) T43i fun _ =>   { hs := { vs := [I (↑i : Int), I (↑k : Int), I (↑k : Int), I (↑i : Int)], ns := [(k, d)] },     ls := [ps, ints (7 : Nat) o, [I (0 : Int), I (0 : Int)]] }) :: [(2, Hint.tm (0 : Nat) [])]) ([(1, Hint.tm (0 : Nat) [])]))])) =
((((decide ((↑i : Int) < (↑k : Int))) = true → ((Atoms [(ps), [(.int IntKind.i64 (o (0 : Nat))), (.int IntKind.i64 (o (1 : Nat))), (.int IntKind.i64 (o (2 : Nat))), (.int IntKind.i64 (o (3 : Nat))), (.int IntKind.i64 (o (4 : Nat))), (.int IntKind.i64 (o (5 : Nat))), (.int IntKind.i64 (o (6 : Nat)))], [(.int IntKind.i64 ((0 : Int))), (.int IntKind.i64 ((0 : Int)))]]) ∧ (LoopOK Tryz.prog .none p43i (T43i) ⟨⟨[(.int IntKind.i64 ((↑i : Int))), (.int IntKind.i64 (IntKind.i64.wrap ((↑i : Int) + (1 : Int)))), (.int IntKind.i64 ((↑k : Int))), (.int IntKind.i64 ((↑i : Int)))], [⟨(k), (d)⟩]⟩, [(ps), [(.int IntKind.i64 (o (0 : Nat))), (.int IntKind.i64 (o (1 : Nat))), (.int IntKind.i64 (o (2 : Nat))), (.int IntKind.i64 (o (3 : Nat))), (.int IntKind.i64 (o (4 : Nat))), (.int IntKind.i64 (o (5 : Nat))), (.int IntKind.i64 (o (6 : Nat)))], [(.int IntKind.i64 ((0 : Int))), (.int IntKind.i64 ((0 : Int)))]]⟩ (.exit ((2 : Nat))) (T43i) ⟨⟨[(.int IntKind.i64 ((↑i : Int))), (.int IntKind.i64 ((↑k : Int))), (.int IntKind.i64 ((↑k : Int))), (.int IntKind.i64 ((↑i : Int)))], [⟨(k), (d)⟩]⟩, [(ps), [(.int IntKind.i64 (o (0 : Nat))), (.int IntKind.i64 (o (1 : Nat))), (.int IntKind.i64 (o (2 : Nat))), (.int IntKind.i64 (o (3 : Nat))), (.int IntKind.i64 (o (4 : Nat))), (.int IntKind.i64 (o (5 : Nat))), (.int IntKind.i64 (o (6 : Nat)))], [(.int IntKind.i64 ((0 : Int))), (.int IntKind.i64 ((0 : Int)))]]⟩) ∧ 
R ((0 : Nat)) .normal ⟨⟨[(.int IntKind.i64 ((↑k : Int))), (.int IntKind.i64 (IntKind.i64.wrap ((↑i : Int) + (1 : Int))))], [⟨(k), (d)⟩]⟩, [(ps), [(.int IntKind.i64 (o (0 : Nat))), (.int IntKind.i64 (o (1 : Nat))), (.int IntKind.i64 (o (2 : Nat))), (.int IntKind.i64 (o (3 : Nat))), (.int IntKind.i64 (o (4 : Nat))), (.int IntKind.i64 (o (5 : Nat))), (.int IntKind.i64 (o (6 : Nat)))], [(.int IntKind.i64 ((0 : Int))), (.int IntKind.i64 ((0 : Int)))]]⟩)) ∧
((decide ((↑i : Int) < (↑k : Int))) = false → R ((0 : Nat)) (.exit ((0 : Nat))) ⟨⟨[(.int IntKind.i64 ((↑k : Int))), (.int IntKind.i64 ((↑i : Int)))], [⟨(k), (d)⟩]⟩, [(ps), [(.int IntKind.i64 (o (0 : Nat))), (.int IntKind.i64 (o (1 : Nat))), (.int IntKind.i64 (o (2 : Nat))), (.int IntKind.i64 (o (3 : Nat))), (.int IntKind.i64 (o (4 : Nat))), (.int IntKind.i64 (o (5 : Nat))), (.int IntKind.i64 (o (6 : Nat)))], [(.int IntKind.i64 ((0 : Int))), (.int IntKind.i64 ((0 : Int)))]]⟩))) := by kernel_rfl

theorem b43or (k d i j : Nat) (ps : List Value) (o : Nat → Int) (R : Nat → AExit → Hx → Prop)  : (vx.code none (.l p43o) (leafK [T43o] R) (T43o.inst ⟨⟨[I k, I i], [(k, d)]⟩, [ps, ints 7 o, [I 0, I 0]]⟩) ([(0, .split ((6, Hint.loopT T43i AExit.ret T43i fun _ =>   { hs := { vs := [I (↑i : Int), I (↑j : Int), I (↑k : Int), I (↑i : Int)], ns := [(k, d)] },     ls := [ps, ints (7 : Nat) o, [I (↑i : Int), I (↑j : Int)]] }) :: [(0, Hint.tm (0 : Nat) [])]) ([(1, Hint.tm (0 : Nat) [])]))])) =
((((decide ((↑i : Int) < (↑k : Int))) = true → ((Atoms [(ps), [(.int IntKind.i64 (o (0 : Nat))), (.int IntKind.i64 (o (1 : Nat))), (.int IntKind.i64 (o (2 : Nat))), (.int IntKind.i64 (o (3 : Nat))), (.int IntKind.i64 (o (4 : Nat))), (.int IntKind.i64 (o (5 : Nat))), (.int IntKind.i64 (o (6 : Nat)))], [(.int IntKind.i64 ((0 : Int))), (.int IntKind.i64 ((0 : Int)))]]) ∧ (LoopOK Tryz.prog .none p43i (T43i) ⟨⟨[(.int IntKind.i64 ((↑i : Int))), (.int IntKind.i64 (IntKind.i64.wrap ((↑i : Int) + (1 : Int)))), (.int IntKind.i64 ((↑k : Int))), (.int IntKind.i64 ((↑i : Int)))], [⟨(k), (d)⟩]⟩, [(ps), [(.int IntKind.i64 (o (0 : Nat))), (.int IntKind.i64 (o (1 : Nat))), (.int IntKind.i64 (o (2 : Nat))), (.int IntKind.i64 (o (3 : Nat))), (.int IntKind.i64 (o (4 : Nat))), (.int IntKind.i64 (o (5 : Nat))), (.int IntKind.i64 (o (6 : Nat)))], [(.int IntKind.i64 ((0 : Int))), (.int IntKind.i64 ((0 : Int)))]]⟩ .ret (T43i) ⟨⟨[(.int IntKind.i64 ((↑i : Int))), (.int IntKind.i64 ((↑j : Int))), (.int IntKind.i64 ((↑k : Int))), (.int IntKind.i64 ((↑i : Int)))], [⟨(k), (d)⟩]⟩, [(ps), [(.int IntKind.i64 (o (0 : Nat))), (.int IntKind.i64 (o (1 : Nat))), (.int IntKind.i64 (o (2 : Nat))), (.int IntKind.i64 (o (3 : Nat))), (.int IntKind.i64 (o (4 : Nat))), (.int IntKind.i64 (o (5 : Nat))), (.int IntKind.i64 (o (6 : Nat)))], [(.int IntKind.i64 ((↑i : Int))), (.int IntKind.i64 ((↑j : Int)))]]⟩) ∧ 
R ((0 : Nat)) .ret ⟨⟨[(.int IntKind.i64 ((↑k : Int))), (.int IntKind.i64 ((↑i : Int)))], [⟨(k), (d)⟩]⟩, [(ps), [(.int IntKind.i64 (o (0 : Nat))), (.int IntKind.i64 (o (1 : Nat))), (.int IntKind.i64 (o (2 : Nat))), (.int IntKind.i64 (o (3 : Nat))), (.int IntKind.i64 (o (4 : Nat))), (.int IntKind.i64 (o (5 : Nat))), (.int IntKind.i64 (o (6 : Nat)))], [(.int IntKind.i64 ((↑i : Int))), (.int IntKind.i64 ((↑j : Int)))]]⟩)) ∧
((decide ((↑i : Int) < (↑k : Int))) = false → R ((0 : Nat)) (.exit ((0 : Nat))) ⟨⟨[(.int IntKind.i64 ((↑k : Int))), (.int IntKind.i64 ((↑i : Int)))], [⟨(k), (d)⟩]⟩, [(ps), [(.int IntKind.i64 (o (0 : Nat))), (.int IntKind.i64 (o (1 : Nat))), (.int IntKind.i64 (o (2 : Nat))), (.int IntKind.i64 (o (3 : Nat))), (.int IntKind.i64 (o (4 : Nat))), (.int IntKind.i64 (o (5 : Nat))), (.int IntKind.i64 (o (6 : Nat)))], [(.int IntKind.i64 ((0 : Int))), (.int IntKind.i64 ((0 : Int)))]]⟩))) := by kernel_rfl

theorem f43n (p : Int) (n c k d : Nat) (ms ps : List Value) (o : Nat → Int) (R : ARes → Prop)  : (vx.call 40 [hV p n c, slV 1 k d, oV o] (retK R) (m2 ms ps) ((7, Hint.loopT T43o (AExit.exit (0 : Nat)) T43o fun _ =>   { hs := { vs := [I (↑k : Int), I (↑k : Int)], ns := [(k, d)] },     ls := [ps, ints (7 : Nat) o, [I (0 : Int), I (0 : Int)]] }) :: [])) =
(((Atoms [(ps), [(.int IntKind.i64 (o (0 : Nat))), (.int IntKind.i64 (o (1 : Nat))), (.int IntKind.i64 (o (2 : Nat))), (.int IntKind.i64 (o (3 : Nat))), (.int IntKind.i64 (o (4 : Nat))), (.int IntKind.i64 (o (5 : Nat))), (.int IntKind.i64 (o (6 : Nat)))], [(.int IntKind.i64 ((0 : Int))), (.int IntKind.i64 ((0 : Int)))]]) ∧ (LoopOK Tryz.prog .none p43o (T43o) ⟨⟨[(.int IntKind.i64 ((↑k : Int))), (.int IntKind.i64 ((0 : Int)))], [⟨(k), (d)⟩]⟩, [(ps), [(.int IntKind.i64 (o (0 : Nat))), (.int IntKind.i64 (o (1 : Nat))), (.int IntKind.i64 (o (2 : Nat))), (.int IntKind.i64 (o (3 : Nat))), (.int IntKind.i64 (o (4 : Nat))), (.int IntKind.i64 (o (5 : Nat))), (.int IntKind.i64 (o (6 : Nat)))], [(.int IntKind.i64 ((0 : Int))), (.int IntKind.i64 ((0 : Int)))]]⟩ (.exit ((0 : Nat))) (T43o) ⟨⟨[(.int IntKind.i64 ((↑k : Int))), (.int IntKind.i64 ((↑k : Int)))], [⟨(k), (d)⟩]⟩, [(ps), [(.int IntKind.i64 (o (0 : Nat))), (.int IntKind.i64 (o (1 : Nat))), (.int IntKind.i64 (o (2 : Nat))), (.int IntKind.i64 (o (3 : Nat))), (.int IntKind.i64 (o (4 : Nat))), (.int IntKind.i64 (o (5 : Nat))), (.int IntKind.i64 (o (6 : Nat)))], [(.int IntKind.i64 ((0 : Int))), (.int IntKind.i64 ((0 : Int)))]]⟩) ∧ 
R (.pan (.iface ((28 : Nat)) (.int IntKind.i64 ((4 : Int))))))) := by kernel_rfl

theorem f43r (p : Int) (n c k d i j : Nat) (ms ps : List Value) (o : Nat → Int) (R : ARes → Prop)  : (vx.call 40 [hV p n c, slV 1 k d, oV o] (retK R) (m2 ms ps) ((7, Hint.loopT T43o AExit.ret T43o fun _ =>   { hs := { vs := [I (↑k : Int), I (↑i : Int)], ns := [(k, d)] },     ls := [ps, ints (7 : Nat) o, [I (↑i : Int), I (↑j : Int)]] }) :: [])) =
(((Atoms [(ps), [(.int IntKind.i64 (o (0 : Nat))), (.int IntKind.i64 (o (1 : Nat))), (.int IntKind.i64 (o (2 : Nat))), (.int IntKind.i64 (o (3 : Nat))), (.int IntKind.i64 (o (4 : Nat))), (.int IntKind.i64 (o (5 : Nat))), (.int IntKind.i64 (o (6 : Nat)))], [(.int IntKind.i64 ((0 : Int))), (.int IntKind.i64 ((0 : Int)))]]) ∧ (LoopOK Tryz.prog .none p43o (T43o) ⟨⟨[(.int IntKind.i64 ((↑k : Int))), (.int IntKind.i64 ((0 : Int)))], [⟨(k), (d)⟩]⟩, [(ps), [(.int IntKind.i64 (o (0 : Nat))), (.int IntKind.i64 (o (1 : Nat))), (.int IntKind.i64 (o (2 : Nat))), (.int IntKind.i64 (o (3 : Nat))), (.int IntKind.i64 (o (4 : Nat))), (.int IntKind.i64 (o (5 : Nat))), (.int IntKind.i64 (o (6 : Nat)))], [(.int IntKind.i64 ((0 : Int))), (.int IntKind.i64 ((0 : Int)))]]⟩ .ret (T43o) ⟨⟨[(.int IntKind.i64 ((↑k : Int))), (.int IntKind.i64 ((↑i : Int)))], [⟨(k), (d)⟩]⟩, [(ps), [(.int IntKind.i64 (o (0 : Nat))), (.int IntKind.i64 (o (1 : Nat))), (.int IntKind.i64 (o (2 : Nat))), (.int IntKind.i64 (o (3 : Nat))), (.int IntKind.i64 (o (4 : Nat))), (.int IntKind.i64 (o (5 : Nat))), (.int IntKind.i64 (o (6 : Nat)))], [(.int IntKind.i64 ((↑i : Int))), (.int IntKind.i64 ((↑j : Int)))]]⟩) ∧ 
R (.ret (.agg ⟨[(.int IntKind.i64 ((↑i : Int))), (.int IntKind.i64 ((↑j : Int)))]⟩)))) := by kernel_rfl

/-- The first number from m on, of so many, that is such. -/
def search (b : Nat → Bool) : Nat → Nat → Option Nat
  | 0, _ => none
  | r + 1, m => if b m then some m else search b r (m + 1)
def linkB (o : Nat → Int) (i j : Nat) : Bool := hasI (o i) j || hasI (o j) i
def badB (g o : Nat → Int) (i j : Nat) : Bool := (g i == g j) && !linkB o i j
noncomputable def h43i (k d : Nat) (g o : Nat → Int) (i j : Nat) (a b : Int) : Hx := ⟨⟨[I i, I j, I k, I i], [(k, d)]⟩, [ints k g, ints 7 o, [I a, I b]]⟩
noncomputable def out43i (k d : Nat) (g o : Nat → Int) (i j : Nat) : AExit × Nat × Hx := match search (badB g o i) (k - j) j with
  | some m => (.ret, 0, h43i k d g o i m i m)
  | none => (.exit 2, 0, h43i k d g o i k 0 0)
theorem atoms43 (k : Nat) (g o : Nat → Int) (a b : Int) : Atoms [ints k g, ints 7 o, [I a, I b]] := by
  intro cs hcs
  simp only [List.mem_cons, List.not_mem_nil, or_false] at hcs
  rcases hcs with rfl | rfl | rfl
  · exact ints_atoms k g _ (by simp)
  · exact ints_atoms 7 o _ (by simp)
  · intro v hv
    simp only [List.mem_cons, List.not_mem_nil, or_false] at hv
    rcases hv with rfl | rfl <;> rfl
theorem round43i {k d : Nat} {g o : Nat → Int} {i j : Nat} (hk : k ≤ 7) (hi : i < k) {R : Nat → AExit → Hx → Prop} (h1 : j < k → badB g o i j = false → R 0 .normal (h43i k d g o i (j + 1) 0 0)) (h2 : j < k → badB g o i j = true → R 0 .ret (h43i k d g o i j i j))
    (h3 : ¬ j < k → R 0 (.exit 2) (h43i k d g o i j 0 0)) : ∃ hs, vx.code none (.l p43i) (leafK [T43i] R) (T43i.inst (h43i k d g o i j 0 0)) hs := by
  refine ⟨_, (b43i k d i j (ints k g) g o R).mpr ⟨fun h => ?_, fun h => h3 (by simpa using h)⟩⟩
  have hj : j < k := by simpa using h
  have hw : IntKind.i64.wrap ((j : Int) + 1) = ((j + 1 : Nat) : Int) := wrapI (by omega) (by omega)
  have h1 := h1 hj
  have h2 := h2 hj
  have e7 : ints 7 o = [Value.int IntKind.i64 (o 0), Value.int IntKind.i64 (o 1), Value.int IntKind.i64 (o 2), Value.int IntKind.i64 (o 3), Value.int IntKind.i64 (o 4), Value.int IntKind.i64 (o 5), Value.int IntKind.i64 (o 6)] := rfl
  have g7 : ∀ m, m < 7 → (ints 7 o)[0 + m * 1]? = some (I (o m)) := fun m hm => ints_get o hm
  rw [e7] at g7
  rw [hw]
  repeat' (first | with_reducible apply And.intro | with_reducible intro)
  all_goals first
    | omega
    | exact ints_get g hi
    | exact ints_get g hj
    | exact g7 _ (by omega)
    | rfl
    | (refine h2 ?_; simp only [badB, linkB, hasI, *]; rfl)
    | (refine h1 ?_; simp only [badB, linkB, hasI, *]; rfl)
    | (refine h1 ?_; simp [badB, linkB, hasI, *]; done)
theorem loop43i {k d : Nat} {g o : Nat → Int} {i j : Nat} (hk : k ≤ 7) (hi : i < k) (hj : j ≤ k) : LoopOK Tryz.prog none p43i T43i (h43i k d g o i j 0 0) (out43i k d g o i j).1 T43i (out43i k d g o i j).2.2 := by
  refine loop_vc (Ts := [T43i]) (k := 5) (X := Nat) (inv := fun j => j ≤ k) (μ := fun j => k - j) (st := fun j => (0, h43i k d g o i j 0 0)) (out := out43i k d g o i) rfl vx_sound ?_ (by rw [nglob]; omega) (fun j hj => ?_) hj rfl (Nat.le_of_ble_eq_true rfl) (by decide) ?_
  · intro T hT; simp only [List.mem_singleton] at hT; subst hT; rfl
  · have step : j < k → out43i k d g o i j = if badB g o i j then (.ret, 0, h43i k d g o i j i j) else out43i k d g o i (j + 1) := fun h => by
      have e : k - j = (k - (j + 1)) + 1 := by omega
      simp only [out43i, e, search]
      cases badB g o i j <;> simp
    obtain ⟨hs, hr⟩ := round43i (d := d) (g := g) (o := o) hk hi (j := j) (R := RoundR (fun j => j ≤ k) (fun j => k - j) (fun j => (0, h43i k d g o i j 0 0)) (out43i k d g o i) j)
      (fun h hb => ⟨⟨atoms43 k g o _ _, trivial⟩, .inl ⟨rfl, j + 1, by omega, by show k - (j + 1) < k - j; omega, rfl, by rw [step h, hb]; rfl⟩⟩)
      (fun h hb => ⟨⟨atoms43 k g o _ _, trivial⟩, .inr ⟨by simp, by rw [step h, hb]; rfl⟩⟩)
      (fun h => ⟨⟨atoms43 k g o _ _, trivial⟩, .inr ⟨by simp, by
        have e : j = k := by omega
        subst e
        simp [out43i, search]⟩⟩)
    exact ⟨T43i, hs, rfl, hr⟩
  · simp only [out43i]
    split <;> rfl
/-! ### All firsts -/
noncomputable def h43o (k d : Nat) (g o : Nat → Int) (i : Nat) (a b : Int) : Hx := ⟨⟨[I k, I i], [(k, d)]⟩, [ints k g, ints 7 o, [I a, I b]]⟩
def rowS (g o : Nat → Int) (k i : Nat) : Option Nat := search (badB g o i) (k - (i + 1)) (i + 1)
/-- The first two that are such. -/
def pairS (g o : Nat → Int) (k : Nat) : Nat → Nat → Option (Nat × Nat)
  | 0, _ => none
  | r + 1, i => match rowS g o k i with
    | some j => some (i, j)
    | none => pairS g o k r (i + 1)
noncomputable def out43o (k d : Nat) (g o : Nat → Int) (i : Nat) : AExit × Nat × Hx := match pairS g o k (k - i) i with
  | some m => (.ret, 0, h43o k d g o m.1 m.1 m.2)
  | none => (.exit 0, 0, h43o k d g o k 0 0)
theorem round43o {k d : Nat} {g o : Nat → Int} {i : Nat} (hk : k ≤ 7) {R : Nat → AExit → Hx → Prop} (h1 : i < k → rowS g o k i = none → R 0 .normal (h43o k d g o (i + 1) 0 0)) (h2 : i < k → ∀ j, rowS g o k i = some j → R 0 .ret (h43o k d g o i i j))
    (h3 : ¬ i < k → R 0 (.exit 0) (h43o k d g o i 0 0)) : ∃ hs, vx.code none (.l p43o) (leafK [T43o] R) (T43o.inst (h43o k d g o i 0 0)) hs := by
  by_cases hi : i < k
  · have hw : IntKind.i64.wrap ((i : Int) + 1) = ((i + 1 : Nat) : Int) := wrapI (by omega) (by omega)
    have hl := loop43i (d := d) (g := g) (o := o) hk hi (show i + 1 ≤ k by omega)
    simp only [out43i] at hl
    cases hs : rowS g o k i with
    | none =>
      have hs' : search (badB g o i) (k - (i + 1)) (i + 1) = none := hs
      simp only [hs'] at hl
      refine ⟨_, (b43on k d i (ints k g) o R).mpr ⟨fun _ => ?_, fun h => h3 (by simpa using h)⟩⟩
      rw [hw]
      exact ⟨atoms43 k g o 0 0, hl, h1 hi hs⟩
    | some j =>
      have hs' : search (badB g o i) (k - (i + 1)) (i + 1) = some j := hs
      simp only [hs'] at hl
      refine ⟨_, (b43or k d i j (ints k g) o R).mpr ⟨fun _ => ?_, fun h => h3 (by simpa using h)⟩⟩
      rw [hw]
      exact ⟨atoms43 k g o 0 0, hl, h2 hi j hs⟩
  · refine ⟨_, (b43on k d i (ints k g) o R).mpr ⟨fun h => absurd (by simpa using h) hi, fun _ => h3 hi⟩⟩
theorem loop43o {k d : Nat} {g o : Nat → Int} (hk : k ≤ 7) : LoopOK Tryz.prog none p43o T43o (h43o k d g o 0 0 0) (out43o k d g o 0).1 T43o (out43o k d g o 0).2.2 := by
  refine loop_vc (Ts := [T43o]) (k := 5) (X := Nat) (inv := fun j => j ≤ k) (μ := fun j => k - j) (st := fun j => (0, h43o k d g o j 0 0)) (out := out43o k d g o) rfl vx_sound ?_ (by rw [nglob]; omega) (fun j hj => ?_) (Nat.zero_le k) rfl (Nat.le_of_ble_eq_true rfl) (by decide) ?_
  · intro T hT; simp only [List.mem_singleton] at hT; subst hT; rfl
  · have step : j < k → out43o k d g o j = match rowS g o k j with | some m => (.ret, 0, h43o k d g o j j m) | none => out43o k d g o (j + 1) := fun h => by
      have e : k - j = (k - (j + 1)) + 1 := by omega
      simp only [out43o, e, pairS]
      cases rowS g o k j <;> rfl
    obtain ⟨hs, hr⟩ := round43o (d := d) (g := g) (o := o) hk (i := j) (R := RoundR (fun j => j ≤ k) (fun j => k - j) (fun j => (0, h43o k d g o j 0 0)) (out43o k d g o) j)
      (fun h hb => ⟨⟨atoms43 k g o _ _, trivial⟩, .inl ⟨rfl, j + 1, by omega, by show k - (j + 1) < k - j; omega, rfl, by rw [step h, hb]⟩⟩)
      (fun h m hb => ⟨⟨atoms43 k g o _ _, trivial⟩, .inr ⟨by simp, by rw [step h, hb]⟩⟩)
      (fun h => ⟨⟨atoms43 k g o _ _, trivial⟩, .inr ⟨by simp, by
        have e : j = k := by omega
        subst e
        simp [out43o, pairS]⟩⟩)
    exact ⟨T43o, hs, rfl, hr⟩
  · simp only [out43o]
    split <;> rfl
/-- What is said of a plan: the first two moves, or that it is right. -/
noncomputable def wrongR (g o : Nat → Int) (k : Nat) : ARes := match pairS g o k k 0 with
  | some m => .ret (.agg ⟨[I m.1, I m.2]⟩)
  | none => .pan (.iface 28 (I 4))
noncomputable def C43 (p : Int) (n c k d : Nat) (f : Nat → Mv) (g o : Nat → Int) : Con where
  A := .agg (.hole (.slice 0 0 .nil)) (.slice 1 0 (.agg (.hole (.hole (.hole (.hole (.hole (.hole (.hole .nil))))))) .nil))
  bs := [.list 1 .ro, .list 3 .ro]
  pre x := x = ⟨⟨I p :: ints 7 o, [(n, c), (k, d)]⟩, [mvs n f, ints k g]⟩
  res _ := wrongR g o k
theorem C43_ok (p : Int) (n c k d : Nat) (f : Nat → Mv) (g o : Nat → Int) (hk : k ≤ 7) : ConOK Tryz.prog 40 (C43 p n c k d f g o) := by
  refine con_of vx_sound ⟨⟨I p :: ints 7 o, [(n, c), (k, d)]⟩, [mvs n f, ints k g]⟩ (fun x hx => ?_) rfl (fun _ _ => ?_) (fun x hx => ?_) rfl (Nat.le_of_ble_eq_true rfl) (by rw [nglob]; exact Nat.zero_le _)
  · cases hx
    have hl := loop43o (d := d) (g := g) (o := o) hk
    simp only [out43o, Nat.sub_zero] at hl
    cases hs : pairS g o k k 0 with
    | none =>
      simp only [hs] at hl
      refine ⟨_, (f43n p n c k d (mvs n f) (ints k g) o _).mpr ⟨atoms43 k g o 0 0, hl, ?_⟩⟩
      simp only [C43, wrongR, hs]; rfl
    | some m =>
      simp only [hs] at hl
      refine ⟨_, (f43r p n c k d m.1 m.2 (mvs n f) (ints k g) o _).mpr ⟨atoms43 k g o 0 0, hl, ?_⟩⟩
      simp only [C43, wrongR, hs]; rfl
  · simp only [C43, wrongR]
    split <;> rfl
  · cases hx
    intro cs hcs
    simp only [List.mem_cons, List.not_mem_nil, or_false] at hcs
    rcases hcs with rfl | rfl
    · exact mvs_atoms n f _ (by simp)
    · exact ints_atoms k g _ (by simp)
end Go.Ab

/- package horse: contracts for what is known of their results. -/
set_option maxRecDepth 100000
namespace Go.Ab
open Go Go.RowKit Go.Proofs
/-- A contract, where it is known what is returned. -/
noncomputable def Con.when (C : Con) (r : ARes) : Con := { C with pre := fun x => C.pre x ∧ C.res x = r, res := fun _ => r }
theorem con_when {f : FuncId} {C : Con} (h : ConOK Tryz.prog f C) (r : ARes) : ConOK Tryz.prog f (C.when r) where
  calls := h.calls
  says x hp := (h.says x hp.1).mono fun r' H hr' => by rw [hr', hp.2]; rfl
  closed x hp := by have := h.closed x hp.1; rw [hp.2] at this; exact this
  atoms x hp := h.atoms x hp.1
  ro := h.ro
  small := h.small
  glob := h.glob
end Go.Ab

/- package horse: Check. -/
set_option maxRecDepth 100000
namespace Go.Ab
open Go Go.RowKit Go.Proofs
theorem f16nt (p : Int) (n c k d : Nat) (f : Nat → Mv) (g : Nat → Int) (R : ARes → Prop)  : (vx.call 10 [hV p n c, slV 1 k d, .bool true] (retK R) (m2 (mvs n f) (ints k g)) ((21, Hint.con (C68t p n c f)) :: (11, Hint.con (C39t p n c f k d g)) :: (15, Hint.again) :: (0, Hint.con (C44 true p n c f)) :: (0, Hint.again) :: (0, Hint.con ((C43 p n c k d f g (ordF true p n f n)).when (ARes.pan (Value.iface (28 : TypeId) (I (4 : Int)))))) :: [])) =
(((ConOK Tryz.prog ((71 : Nat)) (C68t p n c f)) ∧ (Con.pre (C68t p n c f) ⟨⟨[(.int IntKind.i64 (p))], [⟨(n), (c)⟩]⟩, [(mvs n f)]⟩) ∧ 
((ConOK Tryz.prog ((39 : Nat)) (C39t p n c f k d g)) ∧ (Con.pre (C39t p n c f k d g) ⟨⟨[(.int IntKind.i64 (p))], [⟨(n), (c)⟩, ⟨(k), (d)⟩]⟩, [(mvs n f), (ints k g)]⟩) ∧ 
((((((2 : Nat) ≤ (2 : Nat))) ∧ (((.agg ⟨[(.int IntKind.i64 (p)), (.slice (.some ⟨((0 : Nat)), ((0 : Nat)), .none⟩) (n) (c))]⟩) : Value) = (.agg ⟨[(.int IntKind.i64 (p)), (.slice (.some ⟨((0 : Nat)), ((0 : Nat)), .none⟩) (n) (c))]⟩))) ∧ ((((some (.slice (.some ⟨((1 : Nat)), ((0 : Nat)), .none⟩) (k) (d)) : Option Value) = some (.slice (.some ⟨((1 : Nat)), ((0 : Nat)), .none⟩) (k) (d)))) ∧ (((((2 : Nat) ≤ (2 : Nat))) ∧ (((.agg ⟨[(.int IntKind.i64 (p)), (.slice (.some ⟨((0 : Nat)), ((0 : Nat)), .none⟩) (n) (c))]⟩) : Value) = (.agg ⟨[(.int IntKind.i64 (p)), (.slice (.some ⟨((0 : Nat)), ((0 : Nat)), .none⟩) (n) (c))]⟩))) ∧ (True)))) ∧ 
((ConOK Tryz.prog ((41 : Nat)) (C44 true p n c f)) ∧ (Con.pre (C44 true p n c f) ⟨⟨[(.int IntKind.i64 (p))], [⟨(n), (c)⟩]⟩, [(mvs n f)]⟩) ∧ 
(((((some (.slice (.some ⟨((1 : Nat)), ((0 : Nat)), .none⟩) (k) (d)) : Option Value) = some (.slice (.some ⟨((1 : Nat)), ((0 : Nat)), .none⟩) (k) (d)))) ∧ (((((2 : Nat) ≤ (2 : Nat))) ∧ (((.agg ⟨[(.int IntKind.i64 (p)), (.slice (.some ⟨((0 : Nat)), ((0 : Nat)), .none⟩) (n) (c))]⟩) : Value) = (.agg ⟨[(.int IntKind.i64 (p)), (.slice (.some ⟨((0 : Nat)), ((0 : Nat)), .none⟩) (n) (c))]⟩))) ∧ (True))) ∧ 
((ConOK Tryz.prog ((40 : Nat)) ((C43 p n c k d f g (ordF true p n f n)).when (ARes.pan (Value.iface (28 : TypeId) (I (4 : Int)))))) ∧ (Con.pre ((C43 p n c k d f g (ordF true p n f n)).when (ARes.pan (Value.iface (28 : TypeId) (I (4 : Int))))) ⟨⟨[(.int IntKind.i64 (p)), (.int IntKind.i64 (ordF true p n f n (0 : Nat))), (.int IntKind.i64 (ordF true p n f n (1 : Nat))), (.int IntKind.i64 (ordF true p n f n (2 : Nat))), (.int IntKind.i64 (ordF true p n f n (3 : Nat))), (.int IntKind.i64 (ordF true p n f n (4 : Nat))), (.int IntKind.i64 (ordF true p n f n (5 : Nat))), (.int IntKind.i64 (ordF true p n f n (6 : Nat)))], [⟨(n), (c)⟩, ⟨(k), (d)⟩]⟩, [(mvs n f), (ints k g)]⟩) ∧ 
R (.ret (.tuple ⟨[(.int IntKind.i64 ((0 : Int))), (.int IntKind.i64 ((0 : Int))), (.int IntKind.i64 ((4 : Int)))]⟩))))))))) := by kernel_rfl

theorem f16rt (p : Int) (n c k d i j : Nat) (f : Nat → Mv) (g : Nat → Int) (R : ARes → Prop)  : (vx.call 10 [hV p n c, slV 1 k d, .bool true] (retK R) (m2 (mvs n f) (ints k g)) ((21, Hint.con (C68t p n c f)) :: (11, Hint.con (C39t p n c f k d g)) :: (15, Hint.again) :: (0, Hint.con (C44 true p n c f)) :: (0, Hint.again) :: (0, Hint.con   ((C43 p n c k d f g (ordF true p n f n)).when (ARes.ret (Value.agg { toList := [I (↑i : Int), I (↑j : Int)] })))) :: [])) =
(((ConOK Tryz.prog ((71 : Nat)) (C68t p n c f)) ∧ (Con.pre (C68t p n c f) ⟨⟨[(.int IntKind.i64 (p))], [⟨(n), (c)⟩]⟩, [(mvs n f)]⟩) ∧ 
((ConOK Tryz.prog ((39 : Nat)) (C39t p n c f k d g)) ∧ (Con.pre (C39t p n c f k d g) ⟨⟨[(.int IntKind.i64 (p))], [⟨(n), (c)⟩, ⟨(k), (d)⟩]⟩, [(mvs n f), (ints k g)]⟩) ∧ 
((((((2 : Nat) ≤ (2 : Nat))) ∧ (((.agg ⟨[(.int IntKind.i64 (p)), (.slice (.some ⟨((0 : Nat)), ((0 : Nat)), .none⟩) (n) (c))]⟩) : Value) = (.agg ⟨[(.int IntKind.i64 (p)), (.slice (.some ⟨((0 : Nat)), ((0 : Nat)), .none⟩) (n) (c))]⟩))) ∧ ((((some (.slice (.some ⟨((1 : Nat)), ((0 : Nat)), .none⟩) (k) (d)) : Option Value) = some (.slice (.some ⟨((1 : Nat)), ((0 : Nat)), .none⟩) (k) (d)))) ∧ (((((2 : Nat) ≤ (2 : Nat))) ∧ (((.agg ⟨[(.int IntKind.i64 (p)), (.slice (.some ⟨((0 : Nat)), ((0 : Nat)), .none⟩) (n) (c))]⟩) : Value) = (.agg ⟨[(.int IntKind.i64 (p)), (.slice (.some ⟨((0 : Nat)), ((0 : Nat)), .none⟩) (n) (c))]⟩))) ∧ (True)))) ∧ 
((ConOK Tryz.prog ((41 : Nat)) (C44 true p n c f)) ∧ (Con.pre (C44 true p n c f) ⟨⟨[(.int IntKind.i64 (p))], [⟨(n), (c)⟩]⟩, [(mvs n f)]⟩) ∧ 
(((((some (.slice (.some ⟨((1 : Nat)), ((0 : Nat)), .none⟩) (k) (d)) : Option Value) = some (.slice (.some ⟨((1 : Nat)), ((0 : Nat)), .none⟩) (k) (d)))) ∧ (((((2 : Nat) ≤ (2 : Nat))) ∧ (((.agg ⟨[(.int IntKind.i64 (p)), (.slice (.some ⟨((0 : Nat)), ((0 : Nat)), .none⟩) (n) (c))]⟩) : Value) = (.agg ⟨[(.int IntKind.i64 (p)), (.slice (.some ⟨((0 : Nat)), ((0 : Nat)), .none⟩) (n) (c))]⟩))) ∧ (True))) ∧ 
((ConOK Tryz.prog ((40 : Nat)) ((C43 p n c k d f g (ordF true p n f n)).when (ARes.ret (Value.agg { toList := [I (↑i : Int), I (↑j : Int)] })))) ∧ (Con.pre ((C43 p n c k d f g (ordF true p n f n)).when (ARes.ret (Value.agg { toList := [I (↑i : Int), I (↑j : Int)] }))) ⟨⟨[(.int IntKind.i64 (p)), (.int IntKind.i64 (ordF true p n f n (0 : Nat))), (.int IntKind.i64 (ordF true p n f n (1 : Nat))), (.int IntKind.i64 (ordF true p n f n (2 : Nat))), (.int IntKind.i64 (ordF true p n f n (3 : Nat))), (.int IntKind.i64 (ordF true p n f n (4 : Nat))), (.int IntKind.i64 (ordF true p n f n (5 : Nat))), (.int IntKind.i64 (ordF true p n f n (6 : Nat)))], [⟨(n), (c)⟩, ⟨(k), (d)⟩]⟩, [(mvs n f), (ints k g)]⟩) ∧ 
R (.ret (.tuple ⟨[(.int IntKind.i64 ((↑i : Int))), (.int IntKind.i64 ((↑j : Int))), (.int IntKind.i64 ((0 : Int)))]⟩))))))))) := by kernel_rfl

theorem f16nf (p : Int) (n c k d : Nat) (f : Nat → Mv) (g : Nat → Int) (R : ARes → Prop)  : (vx.call 10 [hV p n c, slV 1 k d, .bool false] (retK R) (m2 (mvs n f) (ints k g)) ((21, Hint.con (C68t p n c f)) :: (11, Hint.con (C39t p n c f k d g)) :: (15, Hint.again) :: (0, Hint.con (C44 false p n c f)) :: (0, Hint.again) :: (0, Hint.con ((C43 p n c k d f g (ordF false p n f n)).when (ARes.pan (Value.iface (28 : TypeId) (I (4 : Int)))))) :: [])) =
(((ConOK Tryz.prog ((71 : Nat)) (C68t p n c f)) ∧ (Con.pre (C68t p n c f) ⟨⟨[(.int IntKind.i64 (p))], [⟨(n), (c)⟩]⟩, [(mvs n f)]⟩) ∧ 
((ConOK Tryz.prog ((39 : Nat)) (C39t p n c f k d g)) ∧ (Con.pre (C39t p n c f k d g) ⟨⟨[(.int IntKind.i64 (p))], [⟨(n), (c)⟩, ⟨(k), (d)⟩]⟩, [(mvs n f), (ints k g)]⟩) ∧ 
((((((2 : Nat) ≤ (2 : Nat))) ∧ (((.agg ⟨[(.int IntKind.i64 (p)), (.slice (.some ⟨((0 : Nat)), ((0 : Nat)), .none⟩) (n) (c))]⟩) : Value) = (.agg ⟨[(.int IntKind.i64 (p)), (.slice (.some ⟨((0 : Nat)), ((0 : Nat)), .none⟩) (n) (c))]⟩))) ∧ ((((some (.slice (.some ⟨((1 : Nat)), ((0 : Nat)), .none⟩) (k) (d)) : Option Value) = some (.slice (.some ⟨((1 : Nat)), ((0 : Nat)), .none⟩) (k) (d)))) ∧ (((((2 : Nat) ≤ (2 : Nat))) ∧ (((.agg ⟨[(.int IntKind.i64 (p)), (.slice (.some ⟨((0 : Nat)), ((0 : Nat)), .none⟩) (n) (c))]⟩) : Value) = (.agg ⟨[(.int IntKind.i64 (p)), (.slice (.some ⟨((0 : Nat)), ((0 : Nat)), .none⟩) (n) (c))]⟩))) ∧ (True)))) ∧ 
((ConOK Tryz.prog ((41 : Nat)) (C44 false p n c f)) ∧ (Con.pre (C44 false p n c f) ⟨⟨[(.int IntKind.i64 (p))], [⟨(n), (c)⟩]⟩, [(mvs n f)]⟩) ∧ 
(((((some (.slice (.some ⟨((1 : Nat)), ((0 : Nat)), .none⟩) (k) (d)) : Option Value) = some (.slice (.some ⟨((1 : Nat)), ((0 : Nat)), .none⟩) (k) (d)))) ∧ (((((2 : Nat) ≤ (2 : Nat))) ∧ (((.agg ⟨[(.int IntKind.i64 (p)), (.slice (.some ⟨((0 : Nat)), ((0 : Nat)), .none⟩) (n) (c))]⟩) : Value) = (.agg ⟨[(.int IntKind.i64 (p)), (.slice (.some ⟨((0 : Nat)), ((0 : Nat)), .none⟩) (n) (c))]⟩))) ∧ (True))) ∧ 
((ConOK Tryz.prog ((40 : Nat)) ((C43 p n c k d f g (ordF false p n f n)).when (ARes.pan (Value.iface (28 : TypeId) (I (4 : Int)))))) ∧ (Con.pre ((C43 p n c k d f g (ordF false p n f n)).when (ARes.pan (Value.iface (28 : TypeId) (I (4 : Int))))) ⟨⟨[(.int IntKind.i64 (p)), (.int IntKind.i64 (ordF false p n f n (0 : Nat))), (.int IntKind.i64 (ordF false p n f n (1 : Nat))), (.int IntKind.i64 (ordF false p n f n (2 : Nat))), (.int IntKind.i64 (ordF false p n f n (3 : Nat))), (.int IntKind.i64 (ordF false p n f n (4 : Nat))), (.int IntKind.i64 (ordF false p n f n (5 : Nat))), (.int IntKind.i64 (ordF false p n f n (6 : Nat)))], [⟨(n), (c)⟩, ⟨(k), (d)⟩]⟩, [(mvs n f), (ints k g)]⟩) ∧ 
R (.ret (.tuple ⟨[(.int IntKind.i64 ((0 : Int))), (.int IntKind.i64 ((0 : Int))), (.int IntKind.i64 ((4 : Int)))]⟩))))))))) := by kernel_rfl

theorem f16rf (p : Int) (n c k d i j : Nat) (f : Nat → Mv) (g : Nat → Int) (R : ARes → Prop)  : (vx.call 10 [hV p n c, slV 1 k d, .bool false] (retK R) (m2 (mvs n f) (ints k g)) ((21, Hint.con (C68t p n c f)) :: (11, Hint.con (C39t p n c f k d g)) :: (15, Hint.again) :: (0, Hint.con (C44 false p n c f)) :: (0, Hint.again) :: (0, Hint.con   ((C43 p n c k d f g (ordF false p n f n)).when (ARes.ret (Value.agg { toList := [I (↑i : Int), I (↑j : Int)] })))) :: [])) =
(((ConOK Tryz.prog ((71 : Nat)) (C68t p n c f)) ∧ (Con.pre (C68t p n c f) ⟨⟨[(.int IntKind.i64 (p))], [⟨(n), (c)⟩]⟩, [(mvs n f)]⟩) ∧ 
((ConOK Tryz.prog ((39 : Nat)) (C39t p n c f k d g)) ∧ (Con.pre (C39t p n c f k d g) ⟨⟨[(.int IntKind.i64 (p))], [⟨(n), (c)⟩, ⟨(k), (d)⟩]⟩, [(mvs n f), (ints k g)]⟩) ∧ 
((((((2 : Nat) ≤ (2 : Nat))) ∧ (((.agg ⟨[(.int IntKind.i64 (p)), (.slice (.some ⟨((0 : Nat)), ((0 : Nat)), .none⟩) (n) (c))]⟩) : Value) = (.agg ⟨[(.int IntKind.i64 (p)), (.slice (.some ⟨((0 : Nat)), ((0 : Nat)), .none⟩) (n) (c))]⟩))) ∧ ((((some (.slice (.some ⟨((1 : Nat)), ((0 : Nat)), .none⟩) (k) (d)) : Option Value) = some (.slice (.some ⟨((1 : Nat)), ((0 : Nat)), .none⟩) (k) (d)))) ∧ (((((2 : Nat) ≤ (2 : Nat))) ∧ (((.agg ⟨[(.int IntKind.i64 (p)), (.slice (.some ⟨((0 : Nat)), ((0 : Nat)), .none⟩) (n) (c))]⟩) : Value) = (.agg ⟨[(.int IntKind.i64 (p)), (.slice (.some ⟨((0 : Nat)), ((0 : Nat)), .none⟩) (n) (c))]⟩))) ∧ (True)))) ∧ 
((ConOK Tryz.prog ((41 : Nat)) (C44 false p n c f)) ∧ (Con.pre (C44 false p n c f) ⟨⟨[(.int IntKind.i64 (p))], [⟨(n), (c)⟩]⟩, [(mvs n f)]⟩) ∧ 
(((((some (.slice (.some ⟨((1 : Nat)), ((0 : Nat)), .none⟩) (k) (d)) : Option Value) = some (.slice (.some ⟨((1 : Nat)), ((0 : Nat)), .none⟩) (k) (d)))) ∧ (((((2 : Nat) ≤ (2 : Nat))) ∧ (((.agg ⟨[(.int IntKind.i64 (p)), (.slice (.some ⟨((0 : Nat)), ((0 : Nat)), .none⟩) (n) (c))]⟩) : Value) = (.agg ⟨[(.int IntKind.i64 (p)), (.slice (.some ⟨((0 : Nat)), ((0 : Nat)), .none⟩) (n) (c))]⟩))) ∧ (True))) ∧ 
((ConOK Tryz.prog ((40 : Nat)) ((C43 p n c k d f g (ordF false p n f n)).when (ARes.ret (Value.agg { toList := [I (↑i : Int), I (↑j : Int)] })))) ∧ (Con.pre ((C43 p n c k d f g (ordF false p n f n)).when (ARes.ret (Value.agg { toList := [I (↑i : Int), I (↑j : Int)] }))) ⟨⟨[(.int IntKind.i64 (p)), (.int IntKind.i64 (ordF false p n f n (0 : Nat))), (.int IntKind.i64 (ordF false p n f n (1 : Nat))), (.int IntKind.i64 (ordF false p n f n (2 : Nat))), (.int IntKind.i64 (ordF false p n f n (3 : Nat))), (.int IntKind.i64 (ordF false p n f n (4 : Nat))), (.int IntKind.i64 (ordF false p n f n (5 : Nat))), (.int IntKind.i64 (ordF false p n f n (6 : Nat)))], [⟨(n), (c)⟩, ⟨(k), (d)⟩]⟩, [(mvs n f), (ints k g)]⟩) ∧ 
R (.ret (.tuple ⟨[(.int IntKind.i64 ((↑i : Int))), (.int IntKind.i64 ((↑j : Int))), (.int IntKind.i64 ((0 : Int)))]⟩))))))))) := by kernel_rfl

/-- What is told of a plan. -/
noncomputable def checkV (sure : Bool) (p : Int) (n k : Nat) (f : Nat → Mv) (g : Nat → Int) : Value := match pairS g (ordF sure p n f n) k k 0 with
  | some m => .tuple ⟨[I m.1, I m.2, I 0]⟩
  | none => .tuple ⟨[I 0, I 0, I 4]⟩
noncomputable def C16 (sure : Bool) (p : Int) (n c k d : Nat) (f : Nat → Mv) (g : Nat → Int) : Con where
  A := .agg (.hole (.slice 0 0 .nil)) (.slice 1 0 (.hole .nil))
  bs := [.list 1 .ro, .list 3 .ro]
  pre x := x = ⟨⟨[I p, .bool sure], [(n, c), (k, d)]⟩, [mvs n f, ints k g]⟩
  res _ := .ret (checkV sure p n k f g)
theorem C16_ok (sure : Bool) (p : Int) (n c k d : Nat) (f : Nat → Mv) (g : Nat → Int) (hok : okH p n f = true) (hpl : okP n k g = true) (hn : n ≤ 7) (hk : k ≤ 7) : ConOK Tryz.prog 10 (C16 sure p n c k d f g) := by
  refine con_of vx_sound ⟨⟨[I p, .bool sure], [(n, c), (k, d)]⟩, [mvs n f, ints k g]⟩ (fun x hx => ?_) rfl (fun _ _ => ?_) (fun x hx => ?_) rfl (Nat.le_of_ble_eq_true rfl) (by rw [nglob]; exact Nat.zero_le _)
  · cases hx
    have hw : ∀ r, wrongR g (ordF sure p n f n) k = r → ConOK Tryz.prog 40 ((C43 p n c k d f g (ordF sure p n f n)).when r) := fun r _ => con_when (C43_ok p n c k d f g _ hk) r
    cases hs : pairS g (ordF sure p n f n) k k 0 with
    | none =>
      have hr : wrongR g (ordF sure p n f n) k = .pan (.iface 28 (I 4)) := by simp only [wrongR, hs]
      have hv : ARes.ret (.tuple ⟨[I 0, I 0, I 4]⟩) = (C16 sure p n c k d f g).res ⟨⟨[I p, .bool sure], [(n, c), (k, d)]⟩, [mvs n f, ints k g]⟩ := by simp only [C16, checkV, hs]
      cases sure
      · exact ⟨_, (f16nf p n c k d f g _).mpr ⟨C68t_ok p n c f (by omega), ⟨rfl, hok⟩, C39t_ok p n c f k d g (by omega) (by omega), ⟨rfl, hpl⟩, ⟨⟨by omega, rfl⟩, rfl, ⟨by omega, rfl⟩, trivial⟩, C44_ok _ p n c f hn, rfl, ⟨rfl, ⟨by omega, rfl⟩, trivial⟩, hw _ hr, ⟨rfl, hr⟩, hv⟩⟩
      · exact ⟨_, (f16nt p n c k d f g _).mpr ⟨C68t_ok p n c f (by omega), ⟨rfl, hok⟩, C39t_ok p n c f k d g (by omega) (by omega), ⟨rfl, hpl⟩, ⟨⟨by omega, rfl⟩, rfl, ⟨by omega, rfl⟩, trivial⟩, C44_ok _ p n c f hn, rfl, ⟨rfl, ⟨by omega, rfl⟩, trivial⟩, hw _ hr, ⟨rfl, hr⟩, hv⟩⟩
    | some m =>
      have hr : wrongR g (ordF sure p n f n) k = .ret (.agg ⟨[I m.1, I m.2]⟩) := by simp only [wrongR, hs]
      have hv : ARes.ret (.tuple ⟨[I m.1, I m.2, I 0]⟩) = (C16 sure p n c k d f g).res ⟨⟨[I p, .bool sure], [(n, c), (k, d)]⟩, [mvs n f, ints k g]⟩ := by simp only [C16, checkV, hs]
      cases sure
      · exact ⟨_, (f16rf p n c k d m.1 m.2 f g _).mpr ⟨C68t_ok p n c f (by omega), ⟨rfl, hok⟩, C39t_ok p n c f k d g (by omega) (by omega), ⟨rfl, hpl⟩, ⟨⟨by omega, rfl⟩, rfl, ⟨by omega, rfl⟩, trivial⟩, C44_ok _ p n c f hn, rfl, ⟨rfl, ⟨by omega, rfl⟩, trivial⟩, hw _ hr, ⟨rfl, hr⟩, hv⟩⟩
      · exact ⟨_, (f16rt p n c k d m.1 m.2 f g _).mpr ⟨C68t_ok p n c f (by omega), ⟨rfl, hok⟩, C39t_ok p n c f k d g (by omega) (by omega), ⟨rfl, hpl⟩, ⟨⟨by omega, rfl⟩, rfl, ⟨by omega, rfl⟩, trivial⟩, C44_ok _ p n c f hn, rfl, ⟨rfl, ⟨by omega, rfl⟩, trivial⟩, hw _ hr, ⟨rfl, hr⟩, hv⟩⟩
  · simp only [C16, checkV]
    split <;> rfl
  · cases hx
    intro cs hcs
    simp only [List.mem_cons, List.not_mem_nil, or_false] at hcs
    rcases hcs with rfl | rfl
    · exact mvs_atoms n f _ (by simp)
    · exact ints_atoms k g _ (by simp)
end Go.Ab

