/- package horse: what must be left out: the loops. -/
import Derived.Test.YtamfplmmfbbabaaVJ
import Derived.Test.YtamfplmmfbbabaaVI
import Derived.Test.YtamfplmmfbbabaaVB
import Derived.Test.YtamfplmmfbbabaaUY
set_option maxRecDepth 100000
namespace Go.Ab
open Go Go.RowKit Go.Proofs
theorem q59n0 (p left left2 : Int) (n c many : Nat) (ms : List Value) (o : Nat → Int) (R : Nat → AExit → Hw → Prop) : (vx.code none (.l p59) (leafW [T59 0, T59 1, T59 2, T59 3, T59 4, T59 5, T59 6, T59 7] R) ((T59 0).inst (st59 p n c many ms o left 0)) ([(0, .split ((12, .con (C80 n)) :: (2, .loopW (T9k (0 : Nat)) (.exit (0 : Nat)) (T9k (0 : Nat)) fun x => st9k p n c many ms o left2 (0 : Nat) ((2 : Nat) ^ n) ((2 : Nat) ^ n)) :: [(2, .tm (1 : Nat) [((5 : Nat), (7 : Nat))])]) ([(1, .tm 0 [])]))])) =
((((decide ((↑(0 : Nat) : Int) < (↑n : Int))) = true → ((ConOK Try.prog 80 (C80 n)) ∧ (Con.pre (C80 n) ⟨⟨[(I n)], []⟩, []⟩) ∧
((ClW ⟨⟨[(I (IntKind.i64.wrap ((↑((2 : Nat) ^ n - (1 : Nat)) : Int) + (1 : Int)))), (I 0), (I p), (I (o 0)), (I (o 1)), (I (o 2)), (I (o 3)), (I (o 4)), (I (o 5)), (I (o 6)), (I many), (I ((↑(0 : Nat) : Int)))], [⟨n, c⟩]⟩, [(ms), [(I left)]], []⟩) ∧ (LoopOW Try.prog .none p93 (T9k (0 : Nat)) ⟨⟨[(I (IntKind.i64.wrap ((↑((2 : Nat) ^ n - (1 : Nat)) : Int) + (1 : Int)))), (I 0), (I p), (I (o 0)), (I (o 1)), (I (o 2)), (I (o 3)), (I (o 4)), (I (o 5)), (I (o 6)), (I many), (I ((↑(0 : Nat) : Int)))], [⟨n, c⟩]⟩, [(ms), [(I left)]], []⟩ (.exit ((0 : Nat))) (T9k (0 : Nat)) ⟨⟨[(I ((↑((2 : Nat) ^ n) : Int))), (I ((↑((2 : Nat) ^ n) : Int))), (I p), (I (o 0)), (I (o 1)), (I (o 2)), (I (o 3)), (I (o 4)), (I (o 5)), (I (o 6)), (I many), (I ((↑(0 : Nat) : Int)))], [⟨n, c⟩]⟩, [(ms), [(I left2)]], []⟩) ∧
R 1 .normal ⟨⟨[(I n), (I n), (I (IntKind.i64.wrap ((↑(0 : Nat) : Int) + (1 : Int)))), (I p), (I (o 0)), (I (o 1)), (I (o 2)), (I (o 3)), (I (o 4)), (I (o 5)), (I (o 6)), (I many)], [⟨n, c⟩]⟩, [(ms), [(I left2)]], []⟩))) ∧
((decide ((↑(0 : Nat) : Int) < (↑n : Int))) = false → R 0 (.exit ((0 : Nat))) ⟨⟨[(I n), (I n), (I ((↑(0 : Nat) : Int))), (I p), (I (o 0)), (I (o 1)), (I (o 2)), (I (o 3)), (I (o 4)), (I (o 5)), (I (o 6)), (I many)], [⟨n, c⟩]⟩, [(ms), [(I left)]], []⟩))) := by kernel_rfl
theorem q59r0 (p left left2 : Int) (n c many : Nat) (ms : List Value) (o : Nat → Int) (R : Nat → AExit → Hw → Prop) : (vx.code none (.l p59) (leafW [T59 0, T59 1, T59 2, T59 3, T59 4, T59 5, T59 6, T59 7] R) ((T59 0).inst (st59 p n c many ms o left 0)) ([(0, .split ((12, .con (C80 n)) :: (2, .loopW (T9k (0 : Nat)) AExit.ret (R9k (0 : Nat)) fun x => rt9k p n c many ms o left2) :: [(0, .tm (1 : Nat) [((5 : Nat), (7 : Nat))])]) ([(1, .tm 0 [])]))])) =
((((decide ((↑(0 : Nat) : Int) < (↑n : Int))) = true → ((ConOK Try.prog 80 (C80 n)) ∧ (Con.pre (C80 n) ⟨⟨[(I n)], []⟩, []⟩) ∧
((ClW ⟨⟨[(I (IntKind.i64.wrap ((↑((2 : Nat) ^ n - (1 : Nat)) : Int) + (1 : Int)))), (I 0), (I p), (I (o 0)), (I (o 1)), (I (o 2)), (I (o 3)), (I (o 4)), (I (o 5)), (I (o 6)), (I many), (I ((↑(0 : Nat) : Int)))], [⟨n, c⟩]⟩, [(ms), [(I left)]], []⟩) ∧ (LoopOW Try.prog .none p93 (T9k (0 : Nat)) ⟨⟨[(I (IntKind.i64.wrap ((↑((2 : Nat) ^ n - (1 : Nat)) : Int) + (1 : Int)))), (I 0), (I p), (I (o 0)), (I (o 1)), (I (o 2)), (I (o 3)), (I (o 4)), (I (o 5)), (I (o 6)), (I many), (I ((↑(0 : Nat) : Int)))], [⟨n, c⟩]⟩, [(ms), [(I left)]], []⟩ .ret (R9k (0 : Nat)) ⟨⟨[(I p), (I (o 0)), (I (o 1)), (I (o 2)), (I (o 3)), (I (o 4)), (I (o 5)), (I (o 6)), (I many)], [⟨n, c⟩]⟩, [(ms), [(I left2)]], []⟩) ∧
R 1 (.exit ((0 : Nat))) ⟨⟨[(I n), (I n), (I ((↑(0 : Nat) : Int))), (I p), (I (o 0)), (I (o 1)), (I (o 2)), (I (o 3)), (I (o 4)), (I (o 5)), (I (o 6)), (I many)], [⟨n, c⟩]⟩, [(ms), [(I left2)]], []⟩))) ∧
((decide ((↑(0 : Nat) : Int) < (↑n : Int))) = false → R 0 (.exit ((0 : Nat))) ⟨⟨[(I n), (I n), (I ((↑(0 : Nat) : Int))), (I p), (I (o 0)), (I (o 1)), (I (o 2)), (I (o 3)), (I (o 4)), (I (o 5)), (I (o 6)), (I many)], [⟨n, c⟩]⟩, [(ms), [(I left)]], []⟩))) := by kernel_rfl
theorem q930 (p left : Int) (n c many m few s N : Nat) (ms js : List Value) (o : Nat → Int) (R : Nat → AExit → Hw → Prop) : (vx.code none (.l p93) (leafW [T9k 0, R9k 0] R) ((T9k 0).inst (st9k p n c many ms o left 0 N s)) ([(0, .split ((8, .con (C82 s)) :: [(1, .split ((6, .conN (C84 p (↑s : Int) n c m ms js)) :: (0, .again) :: (0, .con (C83c o m m js few)) :: (0, .again) :: [(0, .split ([(6, .tm 1 [])]) ([(6, .tm 0 [])]))]) ([(7, .tm 0 [])]))]) ([(1, .tm 0 [])]))])) =
((((decide ((↑s : Int) < (↑N : Int))) = true → ((ConOK Try.prog 82 (C82 s)) ∧ (Con.pre (C82 s) ⟨⟨[(I s)], []⟩, []⟩) ∧
((((↑(popN s) : Int) == (↑(0 : Nat) : Int)) = true → ((ConNOK Try.prog 84 (C84 p (↑s : Int) n c m ms js)) ∧ (ConN.pre (C84 p (↑s : Int) n c m ms js) ⟨⟨[(I p), (I s)], [⟨n, c⟩]⟩, [(ms)]⟩) ∧
(((((some (I many) : Option Value) = some (I many))) ∧ (((((7 : Nat) ≤ (7 : Nat))) ∧ (((.agg ⟨[(I (o 0)), (I (o 1)), (I (o 2)), (I (o 3)), (I (o 4)), (I (o 5)), (I (o 6))]⟩) : Value) = (.agg ⟨[(I (o 0)), (I (o 1)), (I (o 2)), (I (o 3)), (I (o 4)), (I (o 5)), (I (o 6))]⟩))) ∧ (True))) ∧
((ConOK Try.prog 83 (C83c o m m js few)) ∧ (Con.pre (C83c o m m js few) ⟨⟨[(I (o 0)), (I (o 1)), (I (o 2)), (I (o 3)), (I (o 4)), (I (o 5)), (I (o 6))], [⟨m, m⟩]⟩, [(js)]⟩) ∧
(((((some (I many) : Option Value) = some (I many))) ∧ (True)) ∧
(((decide ((↑few : Int) ≤ (↑many : Int))) = true → R 1 .ret ⟨⟨[(I p), (I (o 0)), (I (o 1)), (I (o 2)), (I (o 3)), (I (o 4)), (I (o 5)), (I (o 6)), (I many)], [⟨n, c⟩]⟩, [(ms), [(I s)]], []⟩) ∧
((decide ((↑few : Int) ≤ (↑many : Int))) = false → R 0 .normal ⟨⟨[(I N), (I (IntKind.i64.wrap ((↑s : Int) + (1 : Int)))), (I p), (I (o 0)), (I (o 1)), (I (o 2)), (I (o 3)), (I (o 4)), (I (o 5)), (I (o 6)), (I many), (I ((↑(0 : Nat) : Int)))], [⟨n, c⟩]⟩, [(ms), [(I left)]], []⟩))))))) ∧
(((↑(popN s) : Int) == (↑(0 : Nat) : Int)) = false → R 0 .normal ⟨⟨[(I N), (I (IntKind.i64.wrap ((↑s : Int) + (1 : Int)))), (I p), (I (o 0)), (I (o 1)), (I (o 2)), (I (o 3)), (I (o 4)), (I (o 5)), (I (o 6)), (I many), (I ((↑(0 : Nat) : Int)))], [⟨n, c⟩]⟩, [(ms), [(I left)]], []⟩)))) ∧
((decide ((↑s : Int) < (↑N : Int))) = false → R 0 (.exit ((0 : Nat))) ⟨⟨[(I N), (I s), (I p), (I (o 0)), (I (o 1)), (I (o 2)), (I (o 3)), (I (o 4)), (I (o 5)), (I (o 6)), (I many), (I ((↑(0 : Nat) : Int)))], [⟨n, c⟩]⟩, [(ms), [(I left)]], []⟩))) := by kernel_rfl
theorem q59n1 (p left left2 : Int) (n c many : Nat) (ms : List Value) (o : Nat → Int) (R : Nat → AExit → Hw → Prop) : (vx.code none (.l p59) (leafW [T59 0, T59 1, T59 2, T59 3, T59 4, T59 5, T59 6, T59 7] R) ((T59 1).inst (st59 p n c many ms o left 1)) ([(0, .split ((12, .con (C80 n)) :: (2, .loopW (T9k (1 : Nat)) (.exit (0 : Nat)) (T9k (1 : Nat)) fun x => st9k p n c many ms o left2 (1 : Nat) ((2 : Nat) ^ n) ((2 : Nat) ^ n)) :: [(2, .tm (2 : Nat) [((5 : Nat), (5 : Nat)), ((6 : Nat), (8 : Nat))])]) ([(1, .tm (1 : Nat) [((5 : Nat), (5 : Nat))])]))])) =
((((decide ((↑(1 : Nat) : Int) < (↑n : Int))) = true → ((ConOK Try.prog 80 (C80 n)) ∧ (Con.pre (C80 n) ⟨⟨[(I n)], []⟩, []⟩) ∧
((ClW ⟨⟨[(I (IntKind.i64.wrap ((↑((2 : Nat) ^ n - (1 : Nat)) : Int) + (1 : Int)))), (I 0), (I p), (I (o 0)), (I (o 1)), (I (o 2)), (I (o 3)), (I (o 4)), (I (o 5)), (I (o 6)), (I many), (I ((↑(1 : Nat) : Int)))], [⟨n, c⟩]⟩, [(ms), [(I left)]], []⟩) ∧ (LoopOW Try.prog .none p93 (T9k (1 : Nat)) ⟨⟨[(I (IntKind.i64.wrap ((↑((2 : Nat) ^ n - (1 : Nat)) : Int) + (1 : Int)))), (I 0), (I p), (I (o 0)), (I (o 1)), (I (o 2)), (I (o 3)), (I (o 4)), (I (o 5)), (I (o 6)), (I many), (I ((↑(1 : Nat) : Int)))], [⟨n, c⟩]⟩, [(ms), [(I left)]], []⟩ (.exit ((0 : Nat))) (T9k (1 : Nat)) ⟨⟨[(I ((↑((2 : Nat) ^ n) : Int))), (I ((↑((2 : Nat) ^ n) : Int))), (I p), (I (o 0)), (I (o 1)), (I (o 2)), (I (o 3)), (I (o 4)), (I (o 5)), (I (o 6)), (I many), (I ((↑(1 : Nat) : Int)))], [⟨n, c⟩]⟩, [(ms), [(I left2)]], []⟩) ∧
R 2 .normal ⟨⟨[(I n), (I n), (I (IntKind.i64.wrap ((↑(1 : Nat) : Int) + (1 : Int)))), (I p), (I (o 0)), (I (o 1)), (I (o 2)), (I (o 3)), (I (o 4)), (I (o 5)), (I (o 6)), (I many)], [⟨n, c⟩]⟩, [(ms), [(I left2)]], []⟩))) ∧
((decide ((↑(1 : Nat) : Int) < (↑n : Int))) = false → R 1 (.exit ((0 : Nat))) ⟨⟨[(I n), (I n), (I ((↑(1 : Nat) : Int))), (I p), (I (o 0)), (I (o 1)), (I (o 2)), (I (o 3)), (I (o 4)), (I (o 5)), (I (o 6)), (I many)], [⟨n, c⟩]⟩, [(ms), [(I left)]], []⟩))) := by kernel_rfl
theorem q59r1 (p left left2 : Int) (n c many : Nat) (ms : List Value) (o : Nat → Int) (R : Nat → AExit → Hw → Prop) : (vx.code none (.l p59) (leafW [T59 0, T59 1, T59 2, T59 3, T59 4, T59 5, T59 6, T59 7] R) ((T59 1).inst (st59 p n c many ms o left 1)) ([(0, .split ((12, .con (C80 n)) :: (2, .loopW (T9k (1 : Nat)) AExit.ret (R9k (1 : Nat)) fun x => rt9k p n c many ms o left2) :: [(0, .tm (2 : Nat) [((5 : Nat), (5 : Nat)), ((6 : Nat), (8 : Nat))])]) ([(1, .tm (1 : Nat) [((5 : Nat), (5 : Nat))])]))])) =
((((decide ((↑(1 : Nat) : Int) < (↑n : Int))) = true → ((ConOK Try.prog 80 (C80 n)) ∧ (Con.pre (C80 n) ⟨⟨[(I n)], []⟩, []⟩) ∧
((ClW ⟨⟨[(I (IntKind.i64.wrap ((↑((2 : Nat) ^ n - (1 : Nat)) : Int) + (1 : Int)))), (I 0), (I p), (I (o 0)), (I (o 1)), (I (o 2)), (I (o 3)), (I (o 4)), (I (o 5)), (I (o 6)), (I many), (I ((↑(1 : Nat) : Int)))], [⟨n, c⟩]⟩, [(ms), [(I left)]], []⟩) ∧ (LoopOW Try.prog .none p93 (T9k (1 : Nat)) ⟨⟨[(I (IntKind.i64.wrap ((↑((2 : Nat) ^ n - (1 : Nat)) : Int) + (1 : Int)))), (I 0), (I p), (I (o 0)), (I (o 1)), (I (o 2)), (I (o 3)), (I (o 4)), (I (o 5)), (I (o 6)), (I many), (I ((↑(1 : Nat) : Int)))], [⟨n, c⟩]⟩, [(ms), [(I left)]], []⟩ .ret (R9k (1 : Nat)) ⟨⟨[(I p), (I (o 0)), (I (o 1)), (I (o 2)), (I (o 3)), (I (o 4)), (I (o 5)), (I (o 6)), (I many)], [⟨n, c⟩]⟩, [(ms), [(I left2)]], []⟩) ∧
R 2 (.exit ((0 : Nat))) ⟨⟨[(I n), (I n), (I ((↑(1 : Nat) : Int))), (I p), (I (o 0)), (I (o 1)), (I (o 2)), (I (o 3)), (I (o 4)), (I (o 5)), (I (o 6)), (I many)], [⟨n, c⟩]⟩, [(ms), [(I left2)]], []⟩))) ∧
((decide ((↑(1 : Nat) : Int) < (↑n : Int))) = false → R 1 (.exit ((0 : Nat))) ⟨⟨[(I n), (I n), (I ((↑(1 : Nat) : Int))), (I p), (I (o 0)), (I (o 1)), (I (o 2)), (I (o 3)), (I (o 4)), (I (o 5)), (I (o 6)), (I many)], [⟨n, c⟩]⟩, [(ms), [(I left)]], []⟩))) := by kernel_rfl
theorem q931 (p left : Int) (n c many m few s N : Nat) (ms js : List Value) (o : Nat → Int) (R : Nat → AExit → Hw → Prop) : (vx.code none (.l p93) (leafW [T9k 1, R9k 1] R) ((T9k 1).inst (st9k p n c many ms o left 1 N s)) ([(0, .split ((8, .con (C82 s)) :: [(1, .split ((6, .conN (C84 p (↑s : Int) n c m ms js)) :: (0, .again) :: (0, .con (C83c o m m js few)) :: (0, .again) :: [(0, .split ([(6, .tm 1 [])]) ([(6, .tm 0 [])]))]) ([(7, .tm 0 [])]))]) ([(1, .tm 0 [])]))])) =
((((decide ((↑s : Int) < (↑N : Int))) = true → ((ConOK Try.prog 82 (C82 s)) ∧ (Con.pre (C82 s) ⟨⟨[(I s)], []⟩, []⟩) ∧
((((↑(popN s) : Int) == (↑(1 : Nat) : Int)) = true → ((ConNOK Try.prog 84 (C84 p (↑s : Int) n c m ms js)) ∧ (ConN.pre (C84 p (↑s : Int) n c m ms js) ⟨⟨[(I p), (I s)], [⟨n, c⟩]⟩, [(ms)]⟩) ∧
(((((some (I many) : Option Value) = some (I many))) ∧ (((((7 : Nat) ≤ (7 : Nat))) ∧ (((.agg ⟨[(I (o 0)), (I (o 1)), (I (o 2)), (I (o 3)), (I (o 4)), (I (o 5)), (I (o 6))]⟩) : Value) = (.agg ⟨[(I (o 0)), (I (o 1)), (I (o 2)), (I (o 3)), (I (o 4)), (I (o 5)), (I (o 6))]⟩))) ∧ (True))) ∧
((ConOK Try.prog 83 (C83c o m m js few)) ∧ (Con.pre (C83c o m m js few) ⟨⟨[(I (o 0)), (I (o 1)), (I (o 2)), (I (o 3)), (I (o 4)), (I (o 5)), (I (o 6))], [⟨m, m⟩]⟩, [(js)]⟩) ∧
(((((some (I many) : Option Value) = some (I many))) ∧ (True)) ∧
(((decide ((↑few : Int) ≤ (↑many : Int))) = true → R 1 .ret ⟨⟨[(I p), (I (o 0)), (I (o 1)), (I (o 2)), (I (o 3)), (I (o 4)), (I (o 5)), (I (o 6)), (I many)], [⟨n, c⟩]⟩, [(ms), [(I s)]], []⟩) ∧
((decide ((↑few : Int) ≤ (↑many : Int))) = false → R 0 .normal ⟨⟨[(I N), (I (IntKind.i64.wrap ((↑s : Int) + (1 : Int)))), (I p), (I (o 0)), (I (o 1)), (I (o 2)), (I (o 3)), (I (o 4)), (I (o 5)), (I (o 6)), (I many), (I ((↑(1 : Nat) : Int)))], [⟨n, c⟩]⟩, [(ms), [(I left)]], []⟩))))))) ∧
(((↑(popN s) : Int) == (↑(1 : Nat) : Int)) = false → R 0 .normal ⟨⟨[(I N), (I (IntKind.i64.wrap ((↑s : Int) + (1 : Int)))), (I p), (I (o 0)), (I (o 1)), (I (o 2)), (I (o 3)), (I (o 4)), (I (o 5)), (I (o 6)), (I many), (I ((↑(1 : Nat) : Int)))], [⟨n, c⟩]⟩, [(ms), [(I left)]], []⟩)))) ∧
((decide ((↑s : Int) < (↑N : Int))) = false → R 0 (.exit ((0 : Nat))) ⟨⟨[(I N), (I s), (I p), (I (o 0)), (I (o 1)), (I (o 2)), (I (o 3)), (I (o 4)), (I (o 5)), (I (o 6)), (I many), (I ((↑(1 : Nat) : Int)))], [⟨n, c⟩]⟩, [(ms), [(I left)]], []⟩))) := by kernel_rfl
theorem q59n2 (p left left2 : Int) (n c many : Nat) (ms : List Value) (o : Nat → Int) (R : Nat → AExit → Hw → Prop) : (vx.code none (.l p59) (leafW [T59 0, T59 1, T59 2, T59 3, T59 4, T59 5, T59 6, T59 7] R) ((T59 2).inst (st59 p n c many ms o left 2)) ([(0, .split ((12, .con (C80 n)) :: (2, .loopW (T9k (2 : Nat)) (.exit (0 : Nat)) (T9k (2 : Nat)) fun x => st9k p n c many ms o left2 (2 : Nat) ((2 : Nat) ^ n) ((2 : Nat) ^ n)) :: [(2, .tm (3 : Nat) [((5 : Nat), (5 : Nat)), ((6 : Nat), (6 : Nat)), ((7 : Nat), (9 : Nat))])]) ([(1, .tm (2 : Nat) [((5 : Nat), (5 : Nat)), ((6 : Nat), (6 : Nat))])]))])) =
((((decide ((↑(2 : Nat) : Int) < (↑n : Int))) = true → ((ConOK Try.prog 80 (C80 n)) ∧ (Con.pre (C80 n) ⟨⟨[(I n)], []⟩, []⟩) ∧
((ClW ⟨⟨[(I (IntKind.i64.wrap ((↑((2 : Nat) ^ n - (1 : Nat)) : Int) + (1 : Int)))), (I 0), (I p), (I (o 0)), (I (o 1)), (I (o 2)), (I (o 3)), (I (o 4)), (I (o 5)), (I (o 6)), (I many), (I ((↑(2 : Nat) : Int)))], [⟨n, c⟩]⟩, [(ms), [(I left)]], []⟩) ∧ (LoopOW Try.prog .none p93 (T9k (2 : Nat)) ⟨⟨[(I (IntKind.i64.wrap ((↑((2 : Nat) ^ n - (1 : Nat)) : Int) + (1 : Int)))), (I 0), (I p), (I (o 0)), (I (o 1)), (I (o 2)), (I (o 3)), (I (o 4)), (I (o 5)), (I (o 6)), (I many), (I ((↑(2 : Nat) : Int)))], [⟨n, c⟩]⟩, [(ms), [(I left)]], []⟩ (.exit ((0 : Nat))) (T9k (2 : Nat)) ⟨⟨[(I ((↑((2 : Nat) ^ n) : Int))), (I ((↑((2 : Nat) ^ n) : Int))), (I p), (I (o 0)), (I (o 1)), (I (o 2)), (I (o 3)), (I (o 4)), (I (o 5)), (I (o 6)), (I many), (I ((↑(2 : Nat) : Int)))], [⟨n, c⟩]⟩, [(ms), [(I left2)]], []⟩) ∧
R 3 .normal ⟨⟨[(I n), (I n), (I (IntKind.i64.wrap ((↑(2 : Nat) : Int) + (1 : Int)))), (I p), (I (o 0)), (I (o 1)), (I (o 2)), (I (o 3)), (I (o 4)), (I (o 5)), (I (o 6)), (I many)], [⟨n, c⟩]⟩, [(ms), [(I left2)]], []⟩))) ∧
((decide ((↑(2 : Nat) : Int) < (↑n : Int))) = false → R 2 (.exit ((0 : Nat))) ⟨⟨[(I n), (I n), (I ((↑(2 : Nat) : Int))), (I p), (I (o 0)), (I (o 1)), (I (o 2)), (I (o 3)), (I (o 4)), (I (o 5)), (I (o 6)), (I many)], [⟨n, c⟩]⟩, [(ms), [(I left)]], []⟩))) := by kernel_rfl
theorem q59r2 (p left left2 : Int) (n c many : Nat) (ms : List Value) (o : Nat → Int) (R : Nat → AExit → Hw → Prop) : (vx.code none (.l p59) (leafW [T59 0, T59 1, T59 2, T59 3, T59 4, T59 5, T59 6, T59 7] R) ((T59 2).inst (st59 p n c many ms o left 2)) ([(0, .split ((12, .con (C80 n)) :: (2, .loopW (T9k (2 : Nat)) AExit.ret (R9k (2 : Nat)) fun x => rt9k p n c many ms o left2) :: [(0, .tm (3 : Nat) [((5 : Nat), (5 : Nat)), ((6 : Nat), (6 : Nat)), ((7 : Nat), (9 : Nat))])]) ([(1, .tm (2 : Nat) [((5 : Nat), (5 : Nat)), ((6 : Nat), (6 : Nat))])]))])) =
((((decide ((↑(2 : Nat) : Int) < (↑n : Int))) = true → ((ConOK Try.prog 80 (C80 n)) ∧ (Con.pre (C80 n) ⟨⟨[(I n)], []⟩, []⟩) ∧
((ClW ⟨⟨[(I (IntKind.i64.wrap ((↑((2 : Nat) ^ n - (1 : Nat)) : Int) + (1 : Int)))), (I 0), (I p), (I (o 0)), (I (o 1)), (I (o 2)), (I (o 3)), (I (o 4)), (I (o 5)), (I (o 6)), (I many), (I ((↑(2 : Nat) : Int)))], [⟨n, c⟩]⟩, [(ms), [(I left)]], []⟩) ∧ (LoopOW Try.prog .none p93 (T9k (2 : Nat)) ⟨⟨[(I (IntKind.i64.wrap ((↑((2 : Nat) ^ n - (1 : Nat)) : Int) + (1 : Int)))), (I 0), (I p), (I (o 0)), (I (o 1)), (I (o 2)), (I (o 3)), (I (o 4)), (I (o 5)), (I (o 6)), (I many), (I ((↑(2 : Nat) : Int)))], [⟨n, c⟩]⟩, [(ms), [(I left)]], []⟩ .ret (R9k (2 : Nat)) ⟨⟨[(I p), (I (o 0)), (I (o 1)), (I (o 2)), (I (o 3)), (I (o 4)), (I (o 5)), (I (o 6)), (I many)], [⟨n, c⟩]⟩, [(ms), [(I left2)]], []⟩) ∧
R 3 (.exit ((0 : Nat))) ⟨⟨[(I n), (I n), (I ((↑(2 : Nat) : Int))), (I p), (I (o 0)), (I (o 1)), (I (o 2)), (I (o 3)), (I (o 4)), (I (o 5)), (I (o 6)), (I many)], [⟨n, c⟩]⟩, [(ms), [(I left2)]], []⟩))) ∧
((decide ((↑(2 : Nat) : Int) < (↑n : Int))) = false → R 2 (.exit ((0 : Nat))) ⟨⟨[(I n), (I n), (I ((↑(2 : Nat) : Int))), (I p), (I (o 0)), (I (o 1)), (I (o 2)), (I (o 3)), (I (o 4)), (I (o 5)), (I (o 6)), (I many)], [⟨n, c⟩]⟩, [(ms), [(I left)]], []⟩))) := by kernel_rfl
theorem q932 (p left : Int) (n c many m few s N : Nat) (ms js : List Value) (o : Nat → Int) (R : Nat → AExit → Hw → Prop) : (vx.code none (.l p93) (leafW [T9k 2, R9k 2] R) ((T9k 2).inst (st9k p n c many ms o left 2 N s)) ([(0, .split ((8, .con (C82 s)) :: [(1, .split ((6, .conN (C84 p (↑s : Int) n c m ms js)) :: (0, .again) :: (0, .con (C83c o m m js few)) :: (0, .again) :: [(0, .split ([(6, .tm 1 [])]) ([(6, .tm 0 [])]))]) ([(7, .tm 0 [])]))]) ([(1, .tm 0 [])]))])) =
((((decide ((↑s : Int) < (↑N : Int))) = true → ((ConOK Try.prog 82 (C82 s)) ∧ (Con.pre (C82 s) ⟨⟨[(I s)], []⟩, []⟩) ∧
((((↑(popN s) : Int) == (↑(2 : Nat) : Int)) = true → ((ConNOK Try.prog 84 (C84 p (↑s : Int) n c m ms js)) ∧ (ConN.pre (C84 p (↑s : Int) n c m ms js) ⟨⟨[(I p), (I s)], [⟨n, c⟩]⟩, [(ms)]⟩) ∧
(((((some (I many) : Option Value) = some (I many))) ∧ (((((7 : Nat) ≤ (7 : Nat))) ∧ (((.agg ⟨[(I (o 0)), (I (o 1)), (I (o 2)), (I (o 3)), (I (o 4)), (I (o 5)), (I (o 6))]⟩) : Value) = (.agg ⟨[(I (o 0)), (I (o 1)), (I (o 2)), (I (o 3)), (I (o 4)), (I (o 5)), (I (o 6))]⟩))) ∧ (True))) ∧
((ConOK Try.prog 83 (C83c o m m js few)) ∧ (Con.pre (C83c o m m js few) ⟨⟨[(I (o 0)), (I (o 1)), (I (o 2)), (I (o 3)), (I (o 4)), (I (o 5)), (I (o 6))], [⟨m, m⟩]⟩, [(js)]⟩) ∧
(((((some (I many) : Option Value) = some (I many))) ∧ (True)) ∧
(((decide ((↑few : Int) ≤ (↑many : Int))) = true → R 1 .ret ⟨⟨[(I p), (I (o 0)), (I (o 1)), (I (o 2)), (I (o 3)), (I (o 4)), (I (o 5)), (I (o 6)), (I many)], [⟨n, c⟩]⟩, [(ms), [(I s)]], []⟩) ∧
((decide ((↑few : Int) ≤ (↑many : Int))) = false → R 0 .normal ⟨⟨[(I N), (I (IntKind.i64.wrap ((↑s : Int) + (1 : Int)))), (I p), (I (o 0)), (I (o 1)), (I (o 2)), (I (o 3)), (I (o 4)), (I (o 5)), (I (o 6)), (I many), (I ((↑(2 : Nat) : Int)))], [⟨n, c⟩]⟩, [(ms), [(I left)]], []⟩))))))) ∧
(((↑(popN s) : Int) == (↑(2 : Nat) : Int)) = false → R 0 .normal ⟨⟨[(I N), (I (IntKind.i64.wrap ((↑s : Int) + (1 : Int)))), (I p), (I (o 0)), (I (o 1)), (I (o 2)), (I (o 3)), (I (o 4)), (I (o 5)), (I (o 6)), (I many), (I ((↑(2 : Nat) : Int)))], [⟨n, c⟩]⟩, [(ms), [(I left)]], []⟩)))) ∧
((decide ((↑s : Int) < (↑N : Int))) = false → R 0 (.exit ((0 : Nat))) ⟨⟨[(I N), (I s), (I p), (I (o 0)), (I (o 1)), (I (o 2)), (I (o 3)), (I (o 4)), (I (o 5)), (I (o 6)), (I many), (I ((↑(2 : Nat) : Int)))], [⟨n, c⟩]⟩, [(ms), [(I left)]], []⟩))) := by kernel_rfl
theorem q59n3 (p left left2 : Int) (n c many : Nat) (ms : List Value) (o : Nat → Int) (R : Nat → AExit → Hw → Prop) : (vx.code none (.l p59) (leafW [T59 0, T59 1, T59 2, T59 3, T59 4, T59 5, T59 6, T59 7] R) ((T59 3).inst (st59 p n c many ms o left 3)) ([(0, .split ((12, .con (C80 n)) :: (2, .loopW (T9k (3 : Nat)) (.exit (0 : Nat)) (T9k (3 : Nat)) fun x => st9k p n c many ms o left2 (3 : Nat) ((2 : Nat) ^ n) ((2 : Nat) ^ n)) :: [(2, .tm (4 : Nat) [((5 : Nat), (5 : Nat)), ((6 : Nat), (6 : Nat)), ((7 : Nat), (7 : Nat)), ((8 : Nat), (10 : Nat))])]) ([(1, .tm (3 : Nat) [((5 : Nat), (5 : Nat)), ((6 : Nat), (6 : Nat)), ((7 : Nat), (7 : Nat))])]))])) =
((((decide ((↑(3 : Nat) : Int) < (↑n : Int))) = true → ((ConOK Try.prog 80 (C80 n)) ∧ (Con.pre (C80 n) ⟨⟨[(I n)], []⟩, []⟩) ∧
((ClW ⟨⟨[(I (IntKind.i64.wrap ((↑((2 : Nat) ^ n - (1 : Nat)) : Int) + (1 : Int)))), (I 0), (I p), (I (o 0)), (I (o 1)), (I (o 2)), (I (o 3)), (I (o 4)), (I (o 5)), (I (o 6)), (I many), (I ((↑(3 : Nat) : Int)))], [⟨n, c⟩]⟩, [(ms), [(I left)]], []⟩) ∧ (LoopOW Try.prog .none p93 (T9k (3 : Nat)) ⟨⟨[(I (IntKind.i64.wrap ((↑((2 : Nat) ^ n - (1 : Nat)) : Int) + (1 : Int)))), (I 0), (I p), (I (o 0)), (I (o 1)), (I (o 2)), (I (o 3)), (I (o 4)), (I (o 5)), (I (o 6)), (I many), (I ((↑(3 : Nat) : Int)))], [⟨n, c⟩]⟩, [(ms), [(I left)]], []⟩ (.exit ((0 : Nat))) (T9k (3 : Nat)) ⟨⟨[(I ((↑((2 : Nat) ^ n) : Int))), (I ((↑((2 : Nat) ^ n) : Int))), (I p), (I (o 0)), (I (o 1)), (I (o 2)), (I (o 3)), (I (o 4)), (I (o 5)), (I (o 6)), (I many), (I ((↑(3 : Nat) : Int)))], [⟨n, c⟩]⟩, [(ms), [(I left2)]], []⟩) ∧
R 4 .normal ⟨⟨[(I n), (I n), (I (IntKind.i64.wrap ((↑(3 : Nat) : Int) + (1 : Int)))), (I p), (I (o 0)), (I (o 1)), (I (o 2)), (I (o 3)), (I (o 4)), (I (o 5)), (I (o 6)), (I many)], [⟨n, c⟩]⟩, [(ms), [(I left2)]], []⟩))) ∧
((decide ((↑(3 : Nat) : Int) < (↑n : Int))) = false → R 3 (.exit ((0 : Nat))) ⟨⟨[(I n), (I n), (I ((↑(3 : Nat) : Int))), (I p), (I (o 0)), (I (o 1)), (I (o 2)), (I (o 3)), (I (o 4)), (I (o 5)), (I (o 6)), (I many)], [⟨n, c⟩]⟩, [(ms), [(I left)]], []⟩))) := by kernel_rfl
theorem q59r3 (p left left2 : Int) (n c many : Nat) (ms : List Value) (o : Nat → Int) (R : Nat → AExit → Hw → Prop) : (vx.code none (.l p59) (leafW [T59 0, T59 1, T59 2, T59 3, T59 4, T59 5, T59 6, T59 7] R) ((T59 3).inst (st59 p n c many ms o left 3)) ([(0, .split ((12, .con (C80 n)) :: (2, .loopW (T9k (3 : Nat)) AExit.ret (R9k (3 : Nat)) fun x => rt9k p n c many ms o left2) :: [(0, .tm (4 : Nat) [((5 : Nat), (5 : Nat)), ((6 : Nat), (6 : Nat)), ((7 : Nat), (7 : Nat)), ((8 : Nat), (10 : Nat))])]) ([(1, .tm (3 : Nat) [((5 : Nat), (5 : Nat)), ((6 : Nat), (6 : Nat)), ((7 : Nat), (7 : Nat))])]))])) =
((((decide ((↑(3 : Nat) : Int) < (↑n : Int))) = true → ((ConOK Try.prog 80 (C80 n)) ∧ (Con.pre (C80 n) ⟨⟨[(I n)], []⟩, []⟩) ∧
((ClW ⟨⟨[(I (IntKind.i64.wrap ((↑((2 : Nat) ^ n - (1 : Nat)) : Int) + (1 : Int)))), (I 0), (I p), (I (o 0)), (I (o 1)), (I (o 2)), (I (o 3)), (I (o 4)), (I (o 5)), (I (o 6)), (I many), (I ((↑(3 : Nat) : Int)))], [⟨n, c⟩]⟩, [(ms), [(I left)]], []⟩) ∧ (LoopOW Try.prog .none p93 (T9k (3 : Nat)) ⟨⟨[(I (IntKind.i64.wrap ((↑((2 : Nat) ^ n - (1 : Nat)) : Int) + (1 : Int)))), (I 0), (I p), (I (o 0)), (I (o 1)), (I (o 2)), (I (o 3)), (I (o 4)), (I (o 5)), (I (o 6)), (I many), (I ((↑(3 : Nat) : Int)))], [⟨n, c⟩]⟩, [(ms), [(I left)]], []⟩ .ret (R9k (3 : Nat)) ⟨⟨[(I p), (I (o 0)), (I (o 1)), (I (o 2)), (I (o 3)), (I (o 4)), (I (o 5)), (I (o 6)), (I many)], [⟨n, c⟩]⟩, [(ms), [(I left2)]], []⟩) ∧
R 4 (.exit ((0 : Nat))) ⟨⟨[(I n), (I n), (I ((↑(3 : Nat) : Int))), (I p), (I (o 0)), (I (o 1)), (I (o 2)), (I (o 3)), (I (o 4)), (I (o 5)), (I (o 6)), (I many)], [⟨n, c⟩]⟩, [(ms), [(I left2)]], []⟩))) ∧
((decide ((↑(3 : Nat) : Int) < (↑n : Int))) = false → R 3 (.exit ((0 : Nat))) ⟨⟨[(I n), (I n), (I ((↑(3 : Nat) : Int))), (I p), (I (o 0)), (I (o 1)), (I (o 2)), (I (o 3)), (I (o 4)), (I (o 5)), (I (o 6)), (I many)], [⟨n, c⟩]⟩, [(ms), [(I left)]], []⟩))) := by kernel_rfl
theorem q933 (p left : Int) (n c many m few s N : Nat) (ms js : List Value) (o : Nat → Int) (R : Nat → AExit → Hw → Prop) : (vx.code none (.l p93) (leafW [T9k 3, R9k 3] R) ((T9k 3).inst (st9k p n c many ms o left 3 N s)) ([(0, .split ((8, .con (C82 s)) :: [(1, .split ((6, .conN (C84 p (↑s : Int) n c m ms js)) :: (0, .again) :: (0, .con (C83c o m m js few)) :: (0, .again) :: [(0, .split ([(6, .tm 1 [])]) ([(6, .tm 0 [])]))]) ([(7, .tm 0 [])]))]) ([(1, .tm 0 [])]))])) =
((((decide ((↑s : Int) < (↑N : Int))) = true → ((ConOK Try.prog 82 (C82 s)) ∧ (Con.pre (C82 s) ⟨⟨[(I s)], []⟩, []⟩) ∧
((((↑(popN s) : Int) == (↑(3 : Nat) : Int)) = true → ((ConNOK Try.prog 84 (C84 p (↑s : Int) n c m ms js)) ∧ (ConN.pre (C84 p (↑s : Int) n c m ms js) ⟨⟨[(I p), (I s)], [⟨n, c⟩]⟩, [(ms)]⟩) ∧
(((((some (I many) : Option Value) = some (I many))) ∧ (((((7 : Nat) ≤ (7 : Nat))) ∧ (((.agg ⟨[(I (o 0)), (I (o 1)), (I (o 2)), (I (o 3)), (I (o 4)), (I (o 5)), (I (o 6))]⟩) : Value) = (.agg ⟨[(I (o 0)), (I (o 1)), (I (o 2)), (I (o 3)), (I (o 4)), (I (o 5)), (I (o 6))]⟩))) ∧ (True))) ∧
((ConOK Try.prog 83 (C83c o m m js few)) ∧ (Con.pre (C83c o m m js few) ⟨⟨[(I (o 0)), (I (o 1)), (I (o 2)), (I (o 3)), (I (o 4)), (I (o 5)), (I (o 6))], [⟨m, m⟩]⟩, [(js)]⟩) ∧
(((((some (I many) : Option Value) = some (I many))) ∧ (True)) ∧
(((decide ((↑few : Int) ≤ (↑many : Int))) = true → R 1 .ret ⟨⟨[(I p), (I (o 0)), (I (o 1)), (I (o 2)), (I (o 3)), (I (o 4)), (I (o 5)), (I (o 6)), (I many)], [⟨n, c⟩]⟩, [(ms), [(I s)]], []⟩) ∧
((decide ((↑few : Int) ≤ (↑many : Int))) = false → R 0 .normal ⟨⟨[(I N), (I (IntKind.i64.wrap ((↑s : Int) + (1 : Int)))), (I p), (I (o 0)), (I (o 1)), (I (o 2)), (I (o 3)), (I (o 4)), (I (o 5)), (I (o 6)), (I many), (I ((↑(3 : Nat) : Int)))], [⟨n, c⟩]⟩, [(ms), [(I left)]], []⟩))))))) ∧
(((↑(popN s) : Int) == (↑(3 : Nat) : Int)) = false → R 0 .normal ⟨⟨[(I N), (I (IntKind.i64.wrap ((↑s : Int) + (1 : Int)))), (I p), (I (o 0)), (I (o 1)), (I (o 2)), (I (o 3)), (I (o 4)), (I (o 5)), (I (o 6)), (I many), (I ((↑(3 : Nat) : Int)))], [⟨n, c⟩]⟩, [(ms), [(I left)]], []⟩)))) ∧
((decide ((↑s : Int) < (↑N : Int))) = false → R 0 (.exit ((0 : Nat))) ⟨⟨[(I N), (I s), (I p), (I (o 0)), (I (o 1)), (I (o 2)), (I (o 3)), (I (o 4)), (I (o 5)), (I (o 6)), (I many), (I ((↑(3 : Nat) : Int)))], [⟨n, c⟩]⟩, [(ms), [(I left)]], []⟩))) := by kernel_rfl
theorem q59n4 (p left left2 : Int) (n c many : Nat) (ms : List Value) (o : Nat → Int) (R : Nat → AExit → Hw → Prop) : (vx.code none (.l p59) (leafW [T59 0, T59 1, T59 2, T59 3, T59 4, T59 5, T59 6, T59 7] R) ((T59 4).inst (st59 p n c many ms o left 4)) ([(0, .split ((12, .con (C80 n)) :: (2, .loopW (T9k (4 : Nat)) (.exit (0 : Nat)) (T9k (4 : Nat)) fun x => st9k p n c many ms o left2 (4 : Nat) ((2 : Nat) ^ n) ((2 : Nat) ^ n)) :: [(2, .tm (5 : Nat) [((5 : Nat), (5 : Nat)), ((6 : Nat), (6 : Nat)), ((7 : Nat), (7 : Nat)), ((8 : Nat), (8 : Nat)), ((9 : Nat), (11 : Nat))])]) ([(1, .tm (4 : Nat) [((5 : Nat), (5 : Nat)), ((6 : Nat), (6 : Nat)), ((7 : Nat), (7 : Nat)), ((8 : Nat), (8 : Nat))])]))])) =
((((decide ((↑(4 : Nat) : Int) < (↑n : Int))) = true → ((ConOK Try.prog 80 (C80 n)) ∧ (Con.pre (C80 n) ⟨⟨[(I n)], []⟩, []⟩) ∧
((ClW ⟨⟨[(I (IntKind.i64.wrap ((↑((2 : Nat) ^ n - (1 : Nat)) : Int) + (1 : Int)))), (I 0), (I p), (I (o 0)), (I (o 1)), (I (o 2)), (I (o 3)), (I (o 4)), (I (o 5)), (I (o 6)), (I many), (I ((↑(4 : Nat) : Int)))], [⟨n, c⟩]⟩, [(ms), [(I left)]], []⟩) ∧ (LoopOW Try.prog .none p93 (T9k (4 : Nat)) ⟨⟨[(I (IntKind.i64.wrap ((↑((2 : Nat) ^ n - (1 : Nat)) : Int) + (1 : Int)))), (I 0), (I p), (I (o 0)), (I (o 1)), (I (o 2)), (I (o 3)), (I (o 4)), (I (o 5)), (I (o 6)), (I many), (I ((↑(4 : Nat) : Int)))], [⟨n, c⟩]⟩, [(ms), [(I left)]], []⟩ (.exit ((0 : Nat))) (T9k (4 : Nat)) ⟨⟨[(I ((↑((2 : Nat) ^ n) : Int))), (I ((↑((2 : Nat) ^ n) : Int))), (I p), (I (o 0)), (I (o 1)), (I (o 2)), (I (o 3)), (I (o 4)), (I (o 5)), (I (o 6)), (I many), (I ((↑(4 : Nat) : Int)))], [⟨n, c⟩]⟩, [(ms), [(I left2)]], []⟩) ∧
R 5 .normal ⟨⟨[(I n), (I n), (I (IntKind.i64.wrap ((↑(4 : Nat) : Int) + (1 : Int)))), (I p), (I (o 0)), (I (o 1)), (I (o 2)), (I (o 3)), (I (o 4)), (I (o 5)), (I (o 6)), (I many)], [⟨n, c⟩]⟩, [(ms), [(I left2)]], []⟩))) ∧
((decide ((↑(4 : Nat) : Int) < (↑n : Int))) = false → R 4 (.exit ((0 : Nat))) ⟨⟨[(I n), (I n), (I ((↑(4 : Nat) : Int))), (I p), (I (o 0)), (I (o 1)), (I (o 2)), (I (o 3)), (I (o 4)), (I (o 5)), (I (o 6)), (I many)], [⟨n, c⟩]⟩, [(ms), [(I left)]], []⟩))) := by kernel_rfl
theorem q59r4 (p left left2 : Int) (n c many : Nat) (ms : List Value) (o : Nat → Int) (R : Nat → AExit → Hw → Prop) : (vx.code none (.l p59) (leafW [T59 0, T59 1, T59 2, T59 3, T59 4, T59 5, T59 6, T59 7] R) ((T59 4).inst (st59 p n c many ms o left 4)) ([(0, .split ((12, .con (C80 n)) :: (2, .loopW (T9k (4 : Nat)) AExit.ret (R9k (4 : Nat)) fun x => rt9k p n c many ms o left2) :: [(0, .tm (5 : Nat) [((5 : Nat), (5 : Nat)), ((6 : Nat), (6 : Nat)), ((7 : Nat), (7 : Nat)), ((8 : Nat), (8 : Nat)), ((9 : Nat), (11 : Nat))])]) ([(1, .tm (4 : Nat) [((5 : Nat), (5 : Nat)), ((6 : Nat), (6 : Nat)), ((7 : Nat), (7 : Nat)), ((8 : Nat), (8 : Nat))])]))])) =
((((decide ((↑(4 : Nat) : Int) < (↑n : Int))) = true → ((ConOK Try.prog 80 (C80 n)) ∧ (Con.pre (C80 n) ⟨⟨[(I n)], []⟩, []⟩) ∧
((ClW ⟨⟨[(I (IntKind.i64.wrap ((↑((2 : Nat) ^ n - (1 : Nat)) : Int) + (1 : Int)))), (I 0), (I p), (I (o 0)), (I (o 1)), (I (o 2)), (I (o 3)), (I (o 4)), (I (o 5)), (I (o 6)), (I many), (I ((↑(4 : Nat) : Int)))], [⟨n, c⟩]⟩, [(ms), [(I left)]], []⟩) ∧ (LoopOW Try.prog .none p93 (T9k (4 : Nat)) ⟨⟨[(I (IntKind.i64.wrap ((↑((2 : Nat) ^ n - (1 : Nat)) : Int) + (1 : Int)))), (I 0), (I p), (I (o 0)), (I (o 1)), (I (o 2)), (I (o 3)), (I (o 4)), (I (o 5)), (I (o 6)), (I many), (I ((↑(4 : Nat) : Int)))], [⟨n, c⟩]⟩, [(ms), [(I left)]], []⟩ .ret (R9k (4 : Nat)) ⟨⟨[(I p), (I (o 0)), (I (o 1)), (I (o 2)), (I (o 3)), (I (o 4)), (I (o 5)), (I (o 6)), (I many)], [⟨n, c⟩]⟩, [(ms), [(I left2)]], []⟩) ∧
R 5 (.exit ((0 : Nat))) ⟨⟨[(I n), (I n), (I ((↑(4 : Nat) : Int))), (I p), (I (o 0)), (I (o 1)), (I (o 2)), (I (o 3)), (I (o 4)), (I (o 5)), (I (o 6)), (I many)], [⟨n, c⟩]⟩, [(ms), [(I left2)]], []⟩))) ∧
((decide ((↑(4 : Nat) : Int) < (↑n : Int))) = false → R 4 (.exit ((0 : Nat))) ⟨⟨[(I n), (I n), (I ((↑(4 : Nat) : Int))), (I p), (I (o 0)), (I (o 1)), (I (o 2)), (I (o 3)), (I (o 4)), (I (o 5)), (I (o 6)), (I many)], [⟨n, c⟩]⟩, [(ms), [(I left)]], []⟩))) := by kernel_rfl
theorem q934 (p left : Int) (n c many m few s N : Nat) (ms js : List Value) (o : Nat → Int) (R : Nat → AExit → Hw → Prop) : (vx.code none (.l p93) (leafW [T9k 4, R9k 4] R) ((T9k 4).inst (st9k p n c many ms o left 4 N s)) ([(0, .split ((8, .con (C82 s)) :: [(1, .split ((6, .conN (C84 p (↑s : Int) n c m ms js)) :: (0, .again) :: (0, .con (C83c o m m js few)) :: (0, .again) :: [(0, .split ([(6, .tm 1 [])]) ([(6, .tm 0 [])]))]) ([(7, .tm 0 [])]))]) ([(1, .tm 0 [])]))])) =
((((decide ((↑s : Int) < (↑N : Int))) = true → ((ConOK Try.prog 82 (C82 s)) ∧ (Con.pre (C82 s) ⟨⟨[(I s)], []⟩, []⟩) ∧
((((↑(popN s) : Int) == (↑(4 : Nat) : Int)) = true → ((ConNOK Try.prog 84 (C84 p (↑s : Int) n c m ms js)) ∧ (ConN.pre (C84 p (↑s : Int) n c m ms js) ⟨⟨[(I p), (I s)], [⟨n, c⟩]⟩, [(ms)]⟩) ∧
(((((some (I many) : Option Value) = some (I many))) ∧ (((((7 : Nat) ≤ (7 : Nat))) ∧ (((.agg ⟨[(I (o 0)), (I (o 1)), (I (o 2)), (I (o 3)), (I (o 4)), (I (o 5)), (I (o 6))]⟩) : Value) = (.agg ⟨[(I (o 0)), (I (o 1)), (I (o 2)), (I (o 3)), (I (o 4)), (I (o 5)), (I (o 6))]⟩))) ∧ (True))) ∧
((ConOK Try.prog 83 (C83c o m m js few)) ∧ (Con.pre (C83c o m m js few) ⟨⟨[(I (o 0)), (I (o 1)), (I (o 2)), (I (o 3)), (I (o 4)), (I (o 5)), (I (o 6))], [⟨m, m⟩]⟩, [(js)]⟩) ∧
(((((some (I many) : Option Value) = some (I many))) ∧ (True)) ∧
(((decide ((↑few : Int) ≤ (↑many : Int))) = true → R 1 .ret ⟨⟨[(I p), (I (o 0)), (I (o 1)), (I (o 2)), (I (o 3)), (I (o 4)), (I (o 5)), (I (o 6)), (I many)], [⟨n, c⟩]⟩, [(ms), [(I s)]], []⟩) ∧
((decide ((↑few : Int) ≤ (↑many : Int))) = false → R 0 .normal ⟨⟨[(I N), (I (IntKind.i64.wrap ((↑s : Int) + (1 : Int)))), (I p), (I (o 0)), (I (o 1)), (I (o 2)), (I (o 3)), (I (o 4)), (I (o 5)), (I (o 6)), (I many), (I ((↑(4 : Nat) : Int)))], [⟨n, c⟩]⟩, [(ms), [(I left)]], []⟩))))))) ∧
(((↑(popN s) : Int) == (↑(4 : Nat) : Int)) = false → R 0 .normal ⟨⟨[(I N), (I (IntKind.i64.wrap ((↑s : Int) + (1 : Int)))), (I p), (I (o 0)), (I (o 1)), (I (o 2)), (I (o 3)), (I (o 4)), (I (o 5)), (I (o 6)), (I many), (I ((↑(4 : Nat) : Int)))], [⟨n, c⟩]⟩, [(ms), [(I left)]], []⟩)))) ∧
((decide ((↑s : Int) < (↑N : Int))) = false → R 0 (.exit ((0 : Nat))) ⟨⟨[(I N), (I s), (I p), (I (o 0)), (I (o 1)), (I (o 2)), (I (o 3)), (I (o 4)), (I (o 5)), (I (o 6)), (I many), (I ((↑(4 : Nat) : Int)))], [⟨n, c⟩]⟩, [(ms), [(I left)]], []⟩))) := by kernel_rfl
theorem q59n5 (p left left2 : Int) (n c many : Nat) (ms : List Value) (o : Nat → Int) (R : Nat → AExit → Hw → Prop) : (vx.code none (.l p59) (leafW [T59 0, T59 1, T59 2, T59 3, T59 4, T59 5, T59 6, T59 7] R) ((T59 5).inst (st59 p n c many ms o left 5)) ([(0, .split ((12, .con (C80 n)) :: (2, .loopW (T9k (5 : Nat)) (.exit (0 : Nat)) (T9k (5 : Nat)) fun x => st9k p n c many ms o left2 (5 : Nat) ((2 : Nat) ^ n) ((2 : Nat) ^ n)) :: [(2, .tm (6 : Nat) [((5 : Nat), (5 : Nat)), ((6 : Nat), (6 : Nat)), ((7 : Nat), (7 : Nat)), ((8 : Nat), (8 : Nat)), ((9 : Nat), (9 : Nat)), ((10 : Nat), (12 : Nat))])]) ([(1, .tm (5 : Nat) [((5 : Nat), (5 : Nat)), ((6 : Nat), (6 : Nat)), ((7 : Nat), (7 : Nat)), ((8 : Nat), (8 : Nat)), ((9 : Nat), (9 : Nat))])]))])) =
((((decide ((↑(5 : Nat) : Int) < (↑n : Int))) = true → ((ConOK Try.prog 80 (C80 n)) ∧ (Con.pre (C80 n) ⟨⟨[(I n)], []⟩, []⟩) ∧
((ClW ⟨⟨[(I (IntKind.i64.wrap ((↑((2 : Nat) ^ n - (1 : Nat)) : Int) + (1 : Int)))), (I 0), (I p), (I (o 0)), (I (o 1)), (I (o 2)), (I (o 3)), (I (o 4)), (I (o 5)), (I (o 6)), (I many), (I ((↑(5 : Nat) : Int)))], [⟨n, c⟩]⟩, [(ms), [(I left)]], []⟩) ∧ (LoopOW Try.prog .none p93 (T9k (5 : Nat)) ⟨⟨[(I (IntKind.i64.wrap ((↑((2 : Nat) ^ n - (1 : Nat)) : Int) + (1 : Int)))), (I 0), (I p), (I (o 0)), (I (o 1)), (I (o 2)), (I (o 3)), (I (o 4)), (I (o 5)), (I (o 6)), (I many), (I ((↑(5 : Nat) : Int)))], [⟨n, c⟩]⟩, [(ms), [(I left)]], []⟩ (.exit ((0 : Nat))) (T9k (5 : Nat)) ⟨⟨[(I ((↑((2 : Nat) ^ n) : Int))), (I ((↑((2 : Nat) ^ n) : Int))), (I p), (I (o 0)), (I (o 1)), (I (o 2)), (I (o 3)), (I (o 4)), (I (o 5)), (I (o 6)), (I many), (I ((↑(5 : Nat) : Int)))], [⟨n, c⟩]⟩, [(ms), [(I left2)]], []⟩) ∧
R 6 .normal ⟨⟨[(I n), (I n), (I (IntKind.i64.wrap ((↑(5 : Nat) : Int) + (1 : Int)))), (I p), (I (o 0)), (I (o 1)), (I (o 2)), (I (o 3)), (I (o 4)), (I (o 5)), (I (o 6)), (I many)], [⟨n, c⟩]⟩, [(ms), [(I left2)]], []⟩))) ∧
((decide ((↑(5 : Nat) : Int) < (↑n : Int))) = false → R 5 (.exit ((0 : Nat))) ⟨⟨[(I n), (I n), (I ((↑(5 : Nat) : Int))), (I p), (I (o 0)), (I (o 1)), (I (o 2)), (I (o 3)), (I (o 4)), (I (o 5)), (I (o 6)), (I many)], [⟨n, c⟩]⟩, [(ms), [(I left)]], []⟩))) := by kernel_rfl
theorem q59r5 (p left left2 : Int) (n c many : Nat) (ms : List Value) (o : Nat → Int) (R : Nat → AExit → Hw → Prop) : (vx.code none (.l p59) (leafW [T59 0, T59 1, T59 2, T59 3, T59 4, T59 5, T59 6, T59 7] R) ((T59 5).inst (st59 p n c many ms o left 5)) ([(0, .split ((12, .con (C80 n)) :: (2, .loopW (T9k (5 : Nat)) AExit.ret (R9k (5 : Nat)) fun x => rt9k p n c many ms o left2) :: [(0, .tm (6 : Nat) [((5 : Nat), (5 : Nat)), ((6 : Nat), (6 : Nat)), ((7 : Nat), (7 : Nat)), ((8 : Nat), (8 : Nat)), ((9 : Nat), (9 : Nat)), ((10 : Nat), (12 : Nat))])]) ([(1, .tm (5 : Nat) [((5 : Nat), (5 : Nat)), ((6 : Nat), (6 : Nat)), ((7 : Nat), (7 : Nat)), ((8 : Nat), (8 : Nat)), ((9 : Nat), (9 : Nat))])]))])) =
((((decide ((↑(5 : Nat) : Int) < (↑n : Int))) = true → ((ConOK Try.prog 80 (C80 n)) ∧ (Con.pre (C80 n) ⟨⟨[(I n)], []⟩, []⟩) ∧
((ClW ⟨⟨[(I (IntKind.i64.wrap ((↑((2 : Nat) ^ n - (1 : Nat)) : Int) + (1 : Int)))), (I 0), (I p), (I (o 0)), (I (o 1)), (I (o 2)), (I (o 3)), (I (o 4)), (I (o 5)), (I (o 6)), (I many), (I ((↑(5 : Nat) : Int)))], [⟨n, c⟩]⟩, [(ms), [(I left)]], []⟩) ∧ (LoopOW Try.prog .none p93 (T9k (5 : Nat)) ⟨⟨[(I (IntKind.i64.wrap ((↑((2 : Nat) ^ n - (1 : Nat)) : Int) + (1 : Int)))), (I 0), (I p), (I (o 0)), (I (o 1)), (I (o 2)), (I (o 3)), (I (o 4)), (I (o 5)), (I (o 6)), (I many), (I ((↑(5 : Nat) : Int)))], [⟨n, c⟩]⟩, [(ms), [(I left)]], []⟩ .ret (R9k (5 : Nat)) ⟨⟨[(I p), (I (o 0)), (I (o 1)), (I (o 2)), (I (o 3)), (I (o 4)), (I (o 5)), (I (o 6)), (I many)], [⟨n, c⟩]⟩, [(ms), [(I left2)]], []⟩) ∧
R 6 (.exit ((0 : Nat))) ⟨⟨[(I n), (I n), (I ((↑(5 : Nat) : Int))), (I p), (I (o 0)), (I (o 1)), (I (o 2)), (I (o 3)), (I (o 4)), (I (o 5)), (I (o 6)), (I many)], [⟨n, c⟩]⟩, [(ms), [(I left2)]], []⟩))) ∧
((decide ((↑(5 : Nat) : Int) < (↑n : Int))) = false → R 5 (.exit ((0 : Nat))) ⟨⟨[(I n), (I n), (I ((↑(5 : Nat) : Int))), (I p), (I (o 0)), (I (o 1)), (I (o 2)), (I (o 3)), (I (o 4)), (I (o 5)), (I (o 6)), (I many)], [⟨n, c⟩]⟩, [(ms), [(I left)]], []⟩))) := by kernel_rfl
theorem q935 (p left : Int) (n c many m few s N : Nat) (ms js : List Value) (o : Nat → Int) (R : Nat → AExit → Hw → Prop) : (vx.code none (.l p93) (leafW [T9k 5, R9k 5] R) ((T9k 5).inst (st9k p n c many ms o left 5 N s)) ([(0, .split ((8, .con (C82 s)) :: [(1, .split ((6, .conN (C84 p (↑s : Int) n c m ms js)) :: (0, .again) :: (0, .con (C83c o m m js few)) :: (0, .again) :: [(0, .split ([(6, .tm 1 [])]) ([(6, .tm 0 [])]))]) ([(7, .tm 0 [])]))]) ([(1, .tm 0 [])]))])) =
((((decide ((↑s : Int) < (↑N : Int))) = true → ((ConOK Try.prog 82 (C82 s)) ∧ (Con.pre (C82 s) ⟨⟨[(I s)], []⟩, []⟩) ∧
((((↑(popN s) : Int) == (↑(5 : Nat) : Int)) = true → ((ConNOK Try.prog 84 (C84 p (↑s : Int) n c m ms js)) ∧ (ConN.pre (C84 p (↑s : Int) n c m ms js) ⟨⟨[(I p), (I s)], [⟨n, c⟩]⟩, [(ms)]⟩) ∧
(((((some (I many) : Option Value) = some (I many))) ∧ (((((7 : Nat) ≤ (7 : Nat))) ∧ (((.agg ⟨[(I (o 0)), (I (o 1)), (I (o 2)), (I (o 3)), (I (o 4)), (I (o 5)), (I (o 6))]⟩) : Value) = (.agg ⟨[(I (o 0)), (I (o 1)), (I (o 2)), (I (o 3)), (I (o 4)), (I (o 5)), (I (o 6))]⟩))) ∧ (True))) ∧
((ConOK Try.prog 83 (C83c o m m js few)) ∧ (Con.pre (C83c o m m js few) ⟨⟨[(I (o 0)), (I (o 1)), (I (o 2)), (I (o 3)), (I (o 4)), (I (o 5)), (I (o 6))], [⟨m, m⟩]⟩, [(js)]⟩) ∧
(((((some (I many) : Option Value) = some (I many))) ∧ (True)) ∧
(((decide ((↑few : Int) ≤ (↑many : Int))) = true → R 1 .ret ⟨⟨[(I p), (I (o 0)), (I (o 1)), (I (o 2)), (I (o 3)), (I (o 4)), (I (o 5)), (I (o 6)), (I many)], [⟨n, c⟩]⟩, [(ms), [(I s)]], []⟩) ∧
((decide ((↑few : Int) ≤ (↑many : Int))) = false → R 0 .normal ⟨⟨[(I N), (I (IntKind.i64.wrap ((↑s : Int) + (1 : Int)))), (I p), (I (o 0)), (I (o 1)), (I (o 2)), (I (o 3)), (I (o 4)), (I (o 5)), (I (o 6)), (I many), (I ((↑(5 : Nat) : Int)))], [⟨n, c⟩]⟩, [(ms), [(I left)]], []⟩))))))) ∧
(((↑(popN s) : Int) == (↑(5 : Nat) : Int)) = false → R 0 .normal ⟨⟨[(I N), (I (IntKind.i64.wrap ((↑s : Int) + (1 : Int)))), (I p), (I (o 0)), (I (o 1)), (I (o 2)), (I (o 3)), (I (o 4)), (I (o 5)), (I (o 6)), (I many), (I ((↑(5 : Nat) : Int)))], [⟨n, c⟩]⟩, [(ms), [(I left)]], []⟩)))) ∧
((decide ((↑s : Int) < (↑N : Int))) = false → R 0 (.exit ((0 : Nat))) ⟨⟨[(I N), (I s), (I p), (I (o 0)), (I (o 1)), (I (o 2)), (I (o 3)), (I (o 4)), (I (o 5)), (I (o 6)), (I many), (I ((↑(5 : Nat) : Int)))], [⟨n, c⟩]⟩, [(ms), [(I left)]], []⟩))) := by kernel_rfl
theorem q59n6 (p left left2 : Int) (n c many : Nat) (ms : List Value) (o : Nat → Int) (R : Nat → AExit → Hw → Prop) : (vx.code none (.l p59) (leafW [T59 0, T59 1, T59 2, T59 3, T59 4, T59 5, T59 6, T59 7] R) ((T59 6).inst (st59 p n c many ms o left 6)) ([(0, .split ((12, .con (C80 n)) :: (2, .loopW (T9k (6 : Nat)) (.exit (0 : Nat)) (T9k (6 : Nat)) fun x => st9k p n c many ms o left2 (6 : Nat) ((2 : Nat) ^ n) ((2 : Nat) ^ n)) :: [(2, .tm (7 : Nat) [((5 : Nat), (5 : Nat)), ((6 : Nat), (6 : Nat)), ((7 : Nat), (7 : Nat)), ((8 : Nat), (8 : Nat)), ((9 : Nat), (9 : Nat)), ((10 : Nat), (10 : Nat)), ((11 : Nat), (13 : Nat))])]) ([(1, .tm (6 : Nat) [((5 : Nat), (5 : Nat)), ((6 : Nat), (6 : Nat)), ((7 : Nat), (7 : Nat)), ((8 : Nat), (8 : Nat)), ((9 : Nat), (9 : Nat)), ((10 : Nat), (10 : Nat))])]))])) =
((((decide ((↑(6 : Nat) : Int) < (↑n : Int))) = true → ((ConOK Try.prog 80 (C80 n)) ∧ (Con.pre (C80 n) ⟨⟨[(I n)], []⟩, []⟩) ∧
((ClW ⟨⟨[(I (IntKind.i64.wrap ((↑((2 : Nat) ^ n - (1 : Nat)) : Int) + (1 : Int)))), (I 0), (I p), (I (o 0)), (I (o 1)), (I (o 2)), (I (o 3)), (I (o 4)), (I (o 5)), (I (o 6)), (I many), (I ((↑(6 : Nat) : Int)))], [⟨n, c⟩]⟩, [(ms), [(I left)]], []⟩) ∧ (LoopOW Try.prog .none p93 (T9k (6 : Nat)) ⟨⟨[(I (IntKind.i64.wrap ((↑((2 : Nat) ^ n - (1 : Nat)) : Int) + (1 : Int)))), (I 0), (I p), (I (o 0)), (I (o 1)), (I (o 2)), (I (o 3)), (I (o 4)), (I (o 5)), (I (o 6)), (I many), (I ((↑(6 : Nat) : Int)))], [⟨n, c⟩]⟩, [(ms), [(I left)]], []⟩ (.exit ((0 : Nat))) (T9k (6 : Nat)) ⟨⟨[(I ((↑((2 : Nat) ^ n) : Int))), (I ((↑((2 : Nat) ^ n) : Int))), (I p), (I (o 0)), (I (o 1)), (I (o 2)), (I (o 3)), (I (o 4)), (I (o 5)), (I (o 6)), (I many), (I ((↑(6 : Nat) : Int)))], [⟨n, c⟩]⟩, [(ms), [(I left2)]], []⟩) ∧
R 7 .normal ⟨⟨[(I n), (I n), (I (IntKind.i64.wrap ((↑(6 : Nat) : Int) + (1 : Int)))), (I p), (I (o 0)), (I (o 1)), (I (o 2)), (I (o 3)), (I (o 4)), (I (o 5)), (I (o 6)), (I many)], [⟨n, c⟩]⟩, [(ms), [(I left2)]], []⟩))) ∧
((decide ((↑(6 : Nat) : Int) < (↑n : Int))) = false → R 6 (.exit ((0 : Nat))) ⟨⟨[(I n), (I n), (I ((↑(6 : Nat) : Int))), (I p), (I (o 0)), (I (o 1)), (I (o 2)), (I (o 3)), (I (o 4)), (I (o 5)), (I (o 6)), (I many)], [⟨n, c⟩]⟩, [(ms), [(I left)]], []⟩))) := by kernel_rfl
theorem q59r6 (p left left2 : Int) (n c many : Nat) (ms : List Value) (o : Nat → Int) (R : Nat → AExit → Hw → Prop) : (vx.code none (.l p59) (leafW [T59 0, T59 1, T59 2, T59 3, T59 4, T59 5, T59 6, T59 7] R) ((T59 6).inst (st59 p n c many ms o left 6)) ([(0, .split ((12, .con (C80 n)) :: (2, .loopW (T9k (6 : Nat)) AExit.ret (R9k (6 : Nat)) fun x => rt9k p n c many ms o left2) :: [(0, .tm (7 : Nat) [((5 : Nat), (5 : Nat)), ((6 : Nat), (6 : Nat)), ((7 : Nat), (7 : Nat)), ((8 : Nat), (8 : Nat)), ((9 : Nat), (9 : Nat)), ((10 : Nat), (10 : Nat)), ((11 : Nat), (13 : Nat))])]) ([(1, .tm (6 : Nat) [((5 : Nat), (5 : Nat)), ((6 : Nat), (6 : Nat)), ((7 : Nat), (7 : Nat)), ((8 : Nat), (8 : Nat)), ((9 : Nat), (9 : Nat)), ((10 : Nat), (10 : Nat))])]))])) =
((((decide ((↑(6 : Nat) : Int) < (↑n : Int))) = true → ((ConOK Try.prog 80 (C80 n)) ∧ (Con.pre (C80 n) ⟨⟨[(I n)], []⟩, []⟩) ∧
((ClW ⟨⟨[(I (IntKind.i64.wrap ((↑((2 : Nat) ^ n - (1 : Nat)) : Int) + (1 : Int)))), (I 0), (I p), (I (o 0)), (I (o 1)), (I (o 2)), (I (o 3)), (I (o 4)), (I (o 5)), (I (o 6)), (I many), (I ((↑(6 : Nat) : Int)))], [⟨n, c⟩]⟩, [(ms), [(I left)]], []⟩) ∧ (LoopOW Try.prog .none p93 (T9k (6 : Nat)) ⟨⟨[(I (IntKind.i64.wrap ((↑((2 : Nat) ^ n - (1 : Nat)) : Int) + (1 : Int)))), (I 0), (I p), (I (o 0)), (I (o 1)), (I (o 2)), (I (o 3)), (I (o 4)), (I (o 5)), (I (o 6)), (I many), (I ((↑(6 : Nat) : Int)))], [⟨n, c⟩]⟩, [(ms), [(I left)]], []⟩ .ret (R9k (6 : Nat)) ⟨⟨[(I p), (I (o 0)), (I (o 1)), (I (o 2)), (I (o 3)), (I (o 4)), (I (o 5)), (I (o 6)), (I many)], [⟨n, c⟩]⟩, [(ms), [(I left2)]], []⟩) ∧
R 7 (.exit ((0 : Nat))) ⟨⟨[(I n), (I n), (I ((↑(6 : Nat) : Int))), (I p), (I (o 0)), (I (o 1)), (I (o 2)), (I (o 3)), (I (o 4)), (I (o 5)), (I (o 6)), (I many)], [⟨n, c⟩]⟩, [(ms), [(I left2)]], []⟩))) ∧
((decide ((↑(6 : Nat) : Int) < (↑n : Int))) = false → R 6 (.exit ((0 : Nat))) ⟨⟨[(I n), (I n), (I ((↑(6 : Nat) : Int))), (I p), (I (o 0)), (I (o 1)), (I (o 2)), (I (o 3)), (I (o 4)), (I (o 5)), (I (o 6)), (I many)], [⟨n, c⟩]⟩, [(ms), [(I left)]], []⟩))) := by kernel_rfl
theorem q936 (p left : Int) (n c many m few s N : Nat) (ms js : List Value) (o : Nat → Int) (R : Nat → AExit → Hw → Prop) : (vx.code none (.l p93) (leafW [T9k 6, R9k 6] R) ((T9k 6).inst (st9k p n c many ms o left 6 N s)) ([(0, .split ((8, .con (C82 s)) :: [(1, .split ((6, .conN (C84 p (↑s : Int) n c m ms js)) :: (0, .again) :: (0, .con (C83c o m m js few)) :: (0, .again) :: [(0, .split ([(6, .tm 1 [])]) ([(6, .tm 0 [])]))]) ([(7, .tm 0 [])]))]) ([(1, .tm 0 [])]))])) =
((((decide ((↑s : Int) < (↑N : Int))) = true → ((ConOK Try.prog 82 (C82 s)) ∧ (Con.pre (C82 s) ⟨⟨[(I s)], []⟩, []⟩) ∧
((((↑(popN s) : Int) == (↑(6 : Nat) : Int)) = true → ((ConNOK Try.prog 84 (C84 p (↑s : Int) n c m ms js)) ∧ (ConN.pre (C84 p (↑s : Int) n c m ms js) ⟨⟨[(I p), (I s)], [⟨n, c⟩]⟩, [(ms)]⟩) ∧
(((((some (I many) : Option Value) = some (I many))) ∧ (((((7 : Nat) ≤ (7 : Nat))) ∧ (((.agg ⟨[(I (o 0)), (I (o 1)), (I (o 2)), (I (o 3)), (I (o 4)), (I (o 5)), (I (o 6))]⟩) : Value) = (.agg ⟨[(I (o 0)), (I (o 1)), (I (o 2)), (I (o 3)), (I (o 4)), (I (o 5)), (I (o 6))]⟩))) ∧ (True))) ∧
((ConOK Try.prog 83 (C83c o m m js few)) ∧ (Con.pre (C83c o m m js few) ⟨⟨[(I (o 0)), (I (o 1)), (I (o 2)), (I (o 3)), (I (o 4)), (I (o 5)), (I (o 6))], [⟨m, m⟩]⟩, [(js)]⟩) ∧
(((((some (I many) : Option Value) = some (I many))) ∧ (True)) ∧
(((decide ((↑few : Int) ≤ (↑many : Int))) = true → R 1 .ret ⟨⟨[(I p), (I (o 0)), (I (o 1)), (I (o 2)), (I (o 3)), (I (o 4)), (I (o 5)), (I (o 6)), (I many)], [⟨n, c⟩]⟩, [(ms), [(I s)]], []⟩) ∧
((decide ((↑few : Int) ≤ (↑many : Int))) = false → R 0 .normal ⟨⟨[(I N), (I (IntKind.i64.wrap ((↑s : Int) + (1 : Int)))), (I p), (I (o 0)), (I (o 1)), (I (o 2)), (I (o 3)), (I (o 4)), (I (o 5)), (I (o 6)), (I many), (I ((↑(6 : Nat) : Int)))], [⟨n, c⟩]⟩, [(ms), [(I left)]], []⟩))))))) ∧
(((↑(popN s) : Int) == (↑(6 : Nat) : Int)) = false → R 0 .normal ⟨⟨[(I N), (I (IntKind.i64.wrap ((↑s : Int) + (1 : Int)))), (I p), (I (o 0)), (I (o 1)), (I (o 2)), (I (o 3)), (I (o 4)), (I (o 5)), (I (o 6)), (I many), (I ((↑(6 : Nat) : Int)))], [⟨n, c⟩]⟩, [(ms), [(I left)]], []⟩)))) ∧
((decide ((↑s : Int) < (↑N : Int))) = false → R 0 (.exit ((0 : Nat))) ⟨⟨[(I N), (I s), (I p), (I (o 0)), (I (o 1)), (I (o 2)), (I (o 3)), (I (o 4)), (I (o 5)), (I (o 6)), (I many), (I ((↑(6 : Nat) : Int)))], [⟨n, c⟩]⟩, [(ms), [(I left)]], []⟩))) := by kernel_rfl
theorem q59f0 (p left : Int) (n c many kk : Nat) (ms : List Value) (o : Nat → Int) (R : ARes → Prop) : (vx.call 59 [hV p n c, .agg ⟨ints 7 o⟩, I many] (retK R) (m1 ms) ((11, .con (C80 n)) :: (4, .loopW (T59 (0 : Nat)) (.exit (0 : Nat)) (T59 (0 : Nat)) fun x => st59 p n c many ms o left kk) :: [])) =
(((ConOK Try.prog 80 (C80 n)) ∧ (Con.pre (C80 n) ⟨⟨[(I n)], []⟩, []⟩) ∧
((ClW ⟨⟨[(I n), (I n), (I 0), (I p), (I (o 0)), (I (o 1)), (I (o 2)), (I (o 3)), (I (o 4)), (I (o 5)), (I (o 6)), (I many)], [⟨n, c⟩]⟩, [(ms), [(I ((↑((2 : Nat) ^ n - (1 : Nat)) : Int)))]], []⟩) ∧ (LoopOW Try.prog .none p59 (T59 (0 : Nat)) ⟨⟨[(I n), (I n), (I 0), (I p), (I (o 0)), (I (o 1)), (I (o 2)), (I (o 3)), (I (o 4)), (I (o 5)), (I (o 6)), (I many)], [⟨n, c⟩]⟩, [(ms), [(I ((↑((2 : Nat) ^ n - (1 : Nat)) : Int)))]], []⟩ (.exit ((0 : Nat))) (T59 (0 : Nat)) ⟨⟨[(I n), (I n), (I kk), (I p), (I (o 0)), (I (o 1)), (I (o 2)), (I (o 3)), (I (o 4)), (I (o 5)), (I (o 6)), (I many)], [⟨n, c⟩]⟩, [(ms), [(I left)]], []⟩) ∧
R (.ret (I left))))) := by kernel_rfl
theorem q59f1 (p left : Int) (n c many kk : Nat) (ms : List Value) (o : Nat → Int) (R : ARes → Prop) : (vx.call 59 [hV p n c, .agg ⟨ints 7 o⟩, I many] (retK R) (m1 ms) ((11, .con (C80 n)) :: (4, .loopW (T59 (0 : Nat)) (.exit (0 : Nat)) (T59 (1 : Nat)) fun x => st59 p n c many ms o left kk) :: [])) =
(((ConOK Try.prog 80 (C80 n)) ∧ (Con.pre (C80 n) ⟨⟨[(I n)], []⟩, []⟩) ∧
((ClW ⟨⟨[(I n), (I n), (I 0), (I p), (I (o 0)), (I (o 1)), (I (o 2)), (I (o 3)), (I (o 4)), (I (o 5)), (I (o 6)), (I many)], [⟨n, c⟩]⟩, [(ms), [(I ((↑((2 : Nat) ^ n - (1 : Nat)) : Int)))]], []⟩) ∧ (LoopOW Try.prog .none p59 (T59 (0 : Nat)) ⟨⟨[(I n), (I n), (I 0), (I p), (I (o 0)), (I (o 1)), (I (o 2)), (I (o 3)), (I (o 4)), (I (o 5)), (I (o 6)), (I many)], [⟨n, c⟩]⟩, [(ms), [(I ((↑((2 : Nat) ^ n - (1 : Nat)) : Int)))]], []⟩ (.exit ((0 : Nat))) (T59 (1 : Nat)) ⟨⟨[(I n), (I n), (I kk), (I p), (I (o 0)), (I (o 1)), (I (o 2)), (I (o 3)), (I (o 4)), (I (o 5)), (I (o 6)), (I many)], [⟨n, c⟩]⟩, [(ms), [(I left)]], []⟩) ∧
R (.ret (I left))))) := by kernel_rfl
theorem q59f2 (p left : Int) (n c many kk : Nat) (ms : List Value) (o : Nat → Int) (R : ARes → Prop) : (vx.call 59 [hV p n c, .agg ⟨ints 7 o⟩, I many] (retK R) (m1 ms) ((11, .con (C80 n)) :: (4, .loopW (T59 (0 : Nat)) (.exit (0 : Nat)) (T59 (2 : Nat)) fun x => st59 p n c many ms o left kk) :: [])) =
(((ConOK Try.prog 80 (C80 n)) ∧ (Con.pre (C80 n) ⟨⟨[(I n)], []⟩, []⟩) ∧
((ClW ⟨⟨[(I n), (I n), (I 0), (I p), (I (o 0)), (I (o 1)), (I (o 2)), (I (o 3)), (I (o 4)), (I (o 5)), (I (o 6)), (I many)], [⟨n, c⟩]⟩, [(ms), [(I ((↑((2 : Nat) ^ n - (1 : Nat)) : Int)))]], []⟩) ∧ (LoopOW Try.prog .none p59 (T59 (0 : Nat)) ⟨⟨[(I n), (I n), (I 0), (I p), (I (o 0)), (I (o 1)), (I (o 2)), (I (o 3)), (I (o 4)), (I (o 5)), (I (o 6)), (I many)], [⟨n, c⟩]⟩, [(ms), [(I ((↑((2 : Nat) ^ n - (1 : Nat)) : Int)))]], []⟩ (.exit ((0 : Nat))) (T59 (2 : Nat)) ⟨⟨[(I n), (I n), (I kk), (I p), (I (o 0)), (I (o 1)), (I (o 2)), (I (o 3)), (I (o 4)), (I (o 5)), (I (o 6)), (I many)], [⟨n, c⟩]⟩, [(ms), [(I left)]], []⟩) ∧
R (.ret (I left))))) := by kernel_rfl
theorem q59f3 (p left : Int) (n c many kk : Nat) (ms : List Value) (o : Nat → Int) (R : ARes → Prop) : (vx.call 59 [hV p n c, .agg ⟨ints 7 o⟩, I many] (retK R) (m1 ms) ((11, .con (C80 n)) :: (4, .loopW (T59 (0 : Nat)) (.exit (0 : Nat)) (T59 (3 : Nat)) fun x => st59 p n c many ms o left kk) :: [])) =
(((ConOK Try.prog 80 (C80 n)) ∧ (Con.pre (C80 n) ⟨⟨[(I n)], []⟩, []⟩) ∧
((ClW ⟨⟨[(I n), (I n), (I 0), (I p), (I (o 0)), (I (o 1)), (I (o 2)), (I (o 3)), (I (o 4)), (I (o 5)), (I (o 6)), (I many)], [⟨n, c⟩]⟩, [(ms), [(I ((↑((2 : Nat) ^ n - (1 : Nat)) : Int)))]], []⟩) ∧ (LoopOW Try.prog .none p59 (T59 (0 : Nat)) ⟨⟨[(I n), (I n), (I 0), (I p), (I (o 0)), (I (o 1)), (I (o 2)), (I (o 3)), (I (o 4)), (I (o 5)), (I (o 6)), (I many)], [⟨n, c⟩]⟩, [(ms), [(I ((↑((2 : Nat) ^ n - (1 : Nat)) : Int)))]], []⟩ (.exit ((0 : Nat))) (T59 (3 : Nat)) ⟨⟨[(I n), (I n), (I kk), (I p), (I (o 0)), (I (o 1)), (I (o 2)), (I (o 3)), (I (o 4)), (I (o 5)), (I (o 6)), (I many)], [⟨n, c⟩]⟩, [(ms), [(I left)]], []⟩) ∧
R (.ret (I left))))) := by kernel_rfl
theorem q59f4 (p left : Int) (n c many kk : Nat) (ms : List Value) (o : Nat → Int) (R : ARes → Prop) : (vx.call 59 [hV p n c, .agg ⟨ints 7 o⟩, I many] (retK R) (m1 ms) ((11, .con (C80 n)) :: (4, .loopW (T59 (0 : Nat)) (.exit (0 : Nat)) (T59 (4 : Nat)) fun x => st59 p n c many ms o left kk) :: [])) =
(((ConOK Try.prog 80 (C80 n)) ∧ (Con.pre (C80 n) ⟨⟨[(I n)], []⟩, []⟩) ∧
((ClW ⟨⟨[(I n), (I n), (I 0), (I p), (I (o 0)), (I (o 1)), (I (o 2)), (I (o 3)), (I (o 4)), (I (o 5)), (I (o 6)), (I many)], [⟨n, c⟩]⟩, [(ms), [(I ((↑((2 : Nat) ^ n - (1 : Nat)) : Int)))]], []⟩) ∧ (LoopOW Try.prog .none p59 (T59 (0 : Nat)) ⟨⟨[(I n), (I n), (I 0), (I p), (I (o 0)), (I (o 1)), (I (o 2)), (I (o 3)), (I (o 4)), (I (o 5)), (I (o 6)), (I many)], [⟨n, c⟩]⟩, [(ms), [(I ((↑((2 : Nat) ^ n - (1 : Nat)) : Int)))]], []⟩ (.exit ((0 : Nat))) (T59 (4 : Nat)) ⟨⟨[(I n), (I n), (I kk), (I p), (I (o 0)), (I (o 1)), (I (o 2)), (I (o 3)), (I (o 4)), (I (o 5)), (I (o 6)), (I many)], [⟨n, c⟩]⟩, [(ms), [(I left)]], []⟩) ∧
R (.ret (I left))))) := by kernel_rfl
theorem q59f5 (p left : Int) (n c many kk : Nat) (ms : List Value) (o : Nat → Int) (R : ARes → Prop) : (vx.call 59 [hV p n c, .agg ⟨ints 7 o⟩, I many] (retK R) (m1 ms) ((11, .con (C80 n)) :: (4, .loopW (T59 (0 : Nat)) (.exit (0 : Nat)) (T59 (5 : Nat)) fun x => st59 p n c many ms o left kk) :: [])) =
(((ConOK Try.prog 80 (C80 n)) ∧ (Con.pre (C80 n) ⟨⟨[(I n)], []⟩, []⟩) ∧
((ClW ⟨⟨[(I n), (I n), (I 0), (I p), (I (o 0)), (I (o 1)), (I (o 2)), (I (o 3)), (I (o 4)), (I (o 5)), (I (o 6)), (I many)], [⟨n, c⟩]⟩, [(ms), [(I ((↑((2 : Nat) ^ n - (1 : Nat)) : Int)))]], []⟩) ∧ (LoopOW Try.prog .none p59 (T59 (0 : Nat)) ⟨⟨[(I n), (I n), (I 0), (I p), (I (o 0)), (I (o 1)), (I (o 2)), (I (o 3)), (I (o 4)), (I (o 5)), (I (o 6)), (I many)], [⟨n, c⟩]⟩, [(ms), [(I ((↑((2 : Nat) ^ n - (1 : Nat)) : Int)))]], []⟩ (.exit ((0 : Nat))) (T59 (5 : Nat)) ⟨⟨[(I n), (I n), (I kk), (I p), (I (o 0)), (I (o 1)), (I (o 2)), (I (o 3)), (I (o 4)), (I (o 5)), (I (o 6)), (I many)], [⟨n, c⟩]⟩, [(ms), [(I left)]], []⟩) ∧
R (.ret (I left))))) := by kernel_rfl
theorem q59f6 (p left : Int) (n c many kk : Nat) (ms : List Value) (o : Nat → Int) (R : ARes → Prop) : (vx.call 59 [hV p n c, .agg ⟨ints 7 o⟩, I many] (retK R) (m1 ms) ((11, .con (C80 n)) :: (4, .loopW (T59 (0 : Nat)) (.exit (0 : Nat)) (T59 (6 : Nat)) fun x => st59 p n c many ms o left kk) :: [])) =
(((ConOK Try.prog 80 (C80 n)) ∧ (Con.pre (C80 n) ⟨⟨[(I n)], []⟩, []⟩) ∧
((ClW ⟨⟨[(I n), (I n), (I 0), (I p), (I (o 0)), (I (o 1)), (I (o 2)), (I (o 3)), (I (o 4)), (I (o 5)), (I (o 6)), (I many)], [⟨n, c⟩]⟩, [(ms), [(I ((↑((2 : Nat) ^ n - (1 : Nat)) : Int)))]], []⟩) ∧ (LoopOW Try.prog .none p59 (T59 (0 : Nat)) ⟨⟨[(I n), (I n), (I 0), (I p), (I (o 0)), (I (o 1)), (I (o 2)), (I (o 3)), (I (o 4)), (I (o 5)), (I (o 6)), (I many)], [⟨n, c⟩]⟩, [(ms), [(I ((↑((2 : Nat) ^ n - (1 : Nat)) : Int)))]], []⟩ (.exit ((0 : Nat))) (T59 (6 : Nat)) ⟨⟨[(I n), (I n), (I kk), (I p), (I (o 0)), (I (o 1)), (I (o 2)), (I (o 3)), (I (o 4)), (I (o 5)), (I (o 6)), (I many)], [⟨n, c⟩]⟩, [(ms), [(I left)]], []⟩) ∧
R (.ret (I left))))) := by kernel_rfl
theorem q59f7 (p left : Int) (n c many kk : Nat) (ms : List Value) (o : Nat → Int) (R : ARes → Prop) : (vx.call 59 [hV p n c, .agg ⟨ints 7 o⟩, I many] (retK R) (m1 ms) ((11, .con (C80 n)) :: (4, .loopW (T59 (0 : Nat)) (.exit (0 : Nat)) (T59 (7 : Nat)) fun x => st59 p n c many ms o left kk) :: [])) =
(((ConOK Try.prog 80 (C80 n)) ∧ (Con.pre (C80 n) ⟨⟨[(I n)], []⟩, []⟩) ∧
((ClW ⟨⟨[(I n), (I n), (I 0), (I p), (I (o 0)), (I (o 1)), (I (o 2)), (I (o 3)), (I (o 4)), (I (o 5)), (I (o 6)), (I many)], [⟨n, c⟩]⟩, [(ms), [(I ((↑((2 : Nat) ^ n - (1 : Nat)) : Int)))]], []⟩) ∧ (LoopOW Try.prog .none p59 (T59 (0 : Nat)) ⟨⟨[(I n), (I n), (I 0), (I p), (I (o 0)), (I (o 1)), (I (o 2)), (I (o 3)), (I (o 4)), (I (o 5)), (I (o 6)), (I many)], [⟨n, c⟩]⟩, [(ms), [(I ((↑((2 : Nat) ^ n - (1 : Nat)) : Int)))]], []⟩ (.exit ((0 : Nat))) (T59 (7 : Nat)) ⟨⟨[(I n), (I n), (I kk), (I p), (I (o 0)), (I (o 1)), (I (o 2)), (I (o 3)), (I (o 4)), (I (o 5)), (I (o 6)), (I many)], [⟨n, c⟩]⟩, [(ms), [(I left)]], []⟩) ∧
R (.ret (I left))))) := by kernel_rfl
theorem q59e (p left : Int) (c many : Nat) (ms : List Value) (o : Nat → Int) (R : Nat → AExit → Hw → Prop) : (vx.code none (.l p59) (leafW [T59 0, T59 1, T59 2, T59 3, T59 4, T59 5, T59 6, T59 7] R) ((T59 7).inst (st59 p 7 c many ms o left 7)) ([(2, .tm (7 : Nat) [((5 : Nat), (5 : Nat)), ((6 : Nat), (6 : Nat)), ((7 : Nat), (7 : Nat)), ((8 : Nat), (8 : Nat)), ((9 : Nat), (9 : Nat)), ((10 : Nat), (10 : Nat)), ((11 : Nat), (11 : Nat))])])) =
(R 7 (.exit ((0 : Nat))) ⟨⟨[(I ((↑(7 : Nat) : Int))), (I ((↑(7 : Nat) : Int))), (I ((↑(7 : Nat) : Int))), (I p), (I (o 0)), (I (o 1)), (I (o 2)), (I (o 3)), (I (o 4)), (I (o 5)), (I (o 6)), (I many)], [⟨7, c⟩]⟩, [(ms), [(I left)]], []⟩) := by kernel_rfl
def fewK (o : Nat → Int) (n s : Nat) : Nat := fewN (canO o (keptN s n)) (keptN s n) (kept s n).length
def goodK (o : Nat → Int) (n many s : Nat) : Bool := decide (fewK o n s ≤ many)
section
variable {p : Int} {n c many : Nat} {f : Nat → Mv} {o : Nat → Int}
theorem C83k_ok (hn : n ≤ 7) (s : Nat) : ConOK Try.prog 83 (C83c o (kept s n).length (kept s n).length (jobsL f (kept s n)) (fewK o n s)) := by
  have hl := kept_len s n
  rw [jobsL_U]
  exact C83_ok (o := o) (c := (kept s n).length) (f := fun k => f (keptN s n k)) (q := keptN s n) (by omega) (fun i j hi hj h => keptN_inj hi hj h) (fun i hi => by have := keptN_lt (n := n) hi; omega)
theorem cl9k {left : Int} {N s k : Nat} : ClW (st9k p n c many (mvs n f) o left k N s) := by
  refine ⟨fun cs hc => ?_, fun es hc => (by cases hc)⟩
  simp only [st9k, List.mem_cons, List.not_mem_nil, or_false] at hc
  rcases hc with rfl | rfl
  · exact mvs_atoms n f _ (by simp)
  · intro v hv; simp only [List.mem_singleton] at hv; subst hv; rfl
theorem clr9 {left : Int} : ClW (rt9k p n c many (mvs n f) o left) := by
  refine ⟨fun cs hc => ?_, fun es hc => (by cases hc)⟩
  simp only [rt9k, List.mem_cons, List.not_mem_nil, or_false] at hc
  rcases hc with rfl | rfl
  · exact mvs_atoms n f _ (by simp)
  · intro v hv; simp only [List.mem_singleton] at hv; subst hv; rfl
theorem cl59 {left : Int} {k : Nat} : ClW (st59 p n c many (mvs n f) o left k) := by
  refine ⟨fun cs hc => ?_, fun es hc => (by cases hc)⟩
  simp only [st59, List.mem_cons, List.not_mem_nil, or_false] at hc
  rcases hc with rfl | rfl
  · exact mvs_atoms n f _ (by simp)
  · intro v hv; simp only [List.mem_singleton] at hv; subst hv; rfl
noncomputable def ex9k (p : Int) (n c many : Nat) (f : Nat → Mv) (o : Nat → Int) (k s : Nat) : Option (AExit × Nat × Hw) := if popN s = k ∧ goodK o n many s = true then some (.ret, 1, rt9k p n c many (mvs n f) o s) else none
noncomputable def end9k (p : Int) (n c many : Nat) (f : Nat → Mv) (o : Nat → Int) (fin : AExit × Nat × Hw) : Option Nat → AExit × Nat × Hw
  | some s => (.ret, 1, rt9k p n c many (mvs n f) o s)
  | none => fin
theorem run9k {fin : AExit × Nat × Hw} {k : Nat} : ∀ {r s : Nat}, runX (ex9k p n c many f o k) fin r s = end9k p n c many f o fin (atS (goodK o n many) popN k r s) := by
  intro r
  induction r with
  | zero => intro s; rfl
  | succ r ih =>
    intro s
    simp only [runX, ex9k, atS]
    split
    · rename_i h
      split at h
      · rename_i h2
        rw [if_pos h2]
        cases h
        rfl
      · cases h
    · rename_i h
      split at h
      · cases h
      · rename_i h2
        rw [if_neg h2]
        exact ih
theorem wrapN {n : Nat} (hn : n ≤ 7) : IntKind.i64.wrap (((2 ^ n - 1 : Nat) : Int) + 1) = ((2 ^ n : Nat) : Int) := by
  obtain ⟨h1, h2⟩ := two_pow_lt hn
  generalize 2 ^ n = z at h1 h2
  rw [wrapI (by omega) (by omega)]
  omega
theorem popN_allQ {n : Nat} (hn : n ≤ 7) : popN (2 ^ n - 1) = n := by
  have : n = 0 ∨ n = 1 ∨ n = 2 ∨ n = 3 ∨ n = 4 ∨ n = 5 ∨ n = 6 ∨ n = 7 := by omega
  rcases this with rfl | rfl | rfl | rfl | rfl | rfl | rfl | rfl <;> decide
theorem kept_pop {n s : Nat} (hn : n ≤ 7) (hs : s < 2 ^ n) (h : (kept s n).length = 0) : popN s = n := by
  have h0 : kept s n = [] := List.length_eq_zero_iff.1 h
  have : s = 2 ^ n - 1 := by
    refine Nat.eq_of_testBit_eq fun i => ?_
    rw [Nat.testBit_two_pow_sub_one]
    by_cases hi : i < n
    · rw [decide_eq_true hi]
      cases hb : s.testBit i with
      | true => rfl
      | false =>
        have := kept_mem.2 ⟨hi, hb⟩
        rw [h0] at this
        cases this
    · rw [decide_eq_false hi]
      exact Nat.testBit_lt_two_pow (Nat.lt_of_lt_of_le hs (Nat.pow_le_pow_right (by decide) (by omega)))
  rw [this, popN_allQ hn]
theorem loop9_0 (hn : n ≤ 7) (hk : 0 < n) (left : Int) {T1 : Tw} (h1 : [T9k 0, R9k 0][(end9k p n c many f o (.exit 0, 0, st9k p n c many (mvs n f) o left 0 (2 ^ n) (2 ^ n)) (atS (goodK o n many) popN 0 (2 ^ n) 0)).2.1]? = some T1) :
    LoopOW Try.prog none p93 (T9k 0) (st9k p n c many (mvs n f) o left 0 (2 ^ n) 0) (end9k p n c many f o (.exit 0, 0, st9k p n c many (mvs n f) o left 0 (2 ^ n) (2 ^ n)) (atS (goodK o n many) popN 0 (2 ^ n) 0)).1 T1 (end9k p n c many f o (.exit 0, 0, st9k p n c many (mvs n f) o left 0 (2 ^ n) (2 ^ n)) (atS (goodK o n many) popN 0 (2 ^ n) 0)).2.2 := by
  obtain ⟨z1, z2⟩ := two_pow_lt hn
  have hrun := run9k (p := p) (n := n) (c := c) (many := many) (f := f) (o := o) (fin := (.exit 0, 0, st9k p n c many (mvs n f) o left 0 (2 ^ n) (2 ^ n))) (k := 0) (r := 2 ^ n) (s := 0)
  rw [← hrun] at h1 ⊢
  refine loop_untilW (Ts := [T9k 0, R9k 0]) (k := 9) (n := 2 ^ n) (st := fun s => (0, st9k p n c many (mvs n f) o left 0 (2 ^ n) s)) (e := .exit 0) (ex := ex9k p n c many f o 0) rfl vx_sound ?_ (by rw [nglob]; omega) ⟨by simp, trivial⟩ (fun s _ => cl9k) (fun s x hs hx => ?_) (fun s hs R h1 h2 => ?_) (fun R hR => ?_) (Nat.zero_le _) rfl (Nat.le_of_ble_eq_true rfl) (by decide) h1
  · intro T hT
    simp only [List.mem_cons, List.not_mem_nil, or_false] at hT
    rcases hT with rfl | rfl <;> rfl
  · unfold ex9k at hx
    split at hx
    · cases hx
      exact ⟨by simp, trivial, clr9⟩
    · cases hx
  · have hw : IntKind.i64.wrap ((s : Int) + 1) = ((s + 1 : Nat) : Int) := wrapI (by omega) (by omega)
    have hC := C83k_ok (o := o) (f := f) hn s
    have hx : goodK o n many s = decide (fewK o n s ≤ many) := rfl
    have h1' : ¬ (popN s = 0 ∧ goodK o n many s = true) → R 0 .normal (st9k p n c many (mvs n f) o left 0 (2 ^ n) (s + 1)) := fun h => h1 (by unfold ex9k; rw [if_neg h])
    have h2' : popN s = 0 ∧ goodK o n many s = true → R 1 .ret (rt9k p n c many (mvs n f) o s) := fun h => h2 (.ret, 1, rt9k p n c many (mvs n f) o s) (by unfold ex9k; rw [if_pos h])
    rw [hx] at h1' h2'
    generalize fewK o n s = few at hC h1' h2'
    refine ⟨T9k 0, _, rfl, (q930 p left n c many (kept s n).length few s (2 ^ n) (mvs n f) (jobsL f (kept s n)) o R).mpr ⟨fun _ => ⟨C82_ok (by omega), rfl, fun hp => ?_, fun hp => ?_⟩, fun h => absurd (show ((s : Nat) : Int) < ((2 ^ n : Nat) : Int) by omega) (of_decide_eq_false h)⟩⟩
    · have hp : popN s = 0 := by have h := eq_of_beq hp; omega
      have h84 := C84_ok (p := p) (c := c) (f := f) (s := s) (n := n) (by omega) hn (fun h => by have := kept_pop hn hs h; omega)
      refine ⟨h84, rfl, ⟨⟨rfl, ⟨Nat.le_refl _, rfl⟩, trivial⟩, hC, rfl, ⟨rfl, trivial⟩, fun hg => ?_, fun hg => ?_⟩⟩
      · exact h2' ⟨hp, by have := of_decide_eq_true hg; exact decide_eq_true (by omega)⟩
      · rw [hw]
        exact h1' (fun h => by have := of_decide_eq_true h.2; have := of_decide_eq_false hg; omega)
    · rw [hw]
      exact h1' (fun h => by rw [h.1] at hp; exact absurd hp (by decide))
  · exact ⟨T9k 0, _, rfl, (q930 p left n c many 0 0 (2 ^ n) (2 ^ n) (mvs n f) [] o R).mpr ⟨fun h => absurd (of_decide_eq_true h) (by omega), fun _ => hR⟩⟩
theorem loop9_1 (hn : n ≤ 7) (hk : 1 < n) (left : Int) {T1 : Tw} (h1 : [T9k 1, R9k 1][(end9k p n c many f o (.exit 0, 0, st9k p n c many (mvs n f) o left 1 (2 ^ n) (2 ^ n)) (atS (goodK o n many) popN 1 (2 ^ n) 0)).2.1]? = some T1) :
    LoopOW Try.prog none p93 (T9k 1) (st9k p n c many (mvs n f) o left 1 (2 ^ n) 0) (end9k p n c many f o (.exit 0, 0, st9k p n c many (mvs n f) o left 1 (2 ^ n) (2 ^ n)) (atS (goodK o n many) popN 1 (2 ^ n) 0)).1 T1 (end9k p n c many f o (.exit 0, 0, st9k p n c many (mvs n f) o left 1 (2 ^ n) (2 ^ n)) (atS (goodK o n many) popN 1 (2 ^ n) 0)).2.2 := by
  obtain ⟨z1, z2⟩ := two_pow_lt hn
  have hrun := run9k (p := p) (n := n) (c := c) (many := many) (f := f) (o := o) (fin := (.exit 0, 0, st9k p n c many (mvs n f) o left 1 (2 ^ n) (2 ^ n))) (k := 1) (r := 2 ^ n) (s := 0)
  rw [← hrun] at h1 ⊢
  refine loop_untilW (Ts := [T9k 1, R9k 1]) (k := 10) (n := 2 ^ n) (st := fun s => (0, st9k p n c many (mvs n f) o left 1 (2 ^ n) s)) (e := .exit 0) (ex := ex9k p n c many f o 1) rfl vx_sound ?_ (by rw [nglob]; omega) ⟨by simp, trivial⟩ (fun s _ => cl9k) (fun s x hs hx => ?_) (fun s hs R h1 h2 => ?_) (fun R hR => ?_) (Nat.zero_le _) rfl (Nat.le_of_ble_eq_true rfl) (by decide) h1
  · intro T hT
    simp only [List.mem_cons, List.not_mem_nil, or_false] at hT
    rcases hT with rfl | rfl <;> rfl
  · unfold ex9k at hx
    split at hx
    · cases hx
      exact ⟨by simp, trivial, clr9⟩
    · cases hx
  · have hw : IntKind.i64.wrap ((s : Int) + 1) = ((s + 1 : Nat) : Int) := wrapI (by omega) (by omega)
    have hC := C83k_ok (o := o) (f := f) hn s
    have hx : goodK o n many s = decide (fewK o n s ≤ many) := rfl
    have h1' : ¬ (popN s = 1 ∧ goodK o n many s = true) → R 0 .normal (st9k p n c many (mvs n f) o left 1 (2 ^ n) (s + 1)) := fun h => h1 (by unfold ex9k; rw [if_neg h])
    have h2' : popN s = 1 ∧ goodK o n many s = true → R 1 .ret (rt9k p n c many (mvs n f) o s) := fun h => h2 (.ret, 1, rt9k p n c many (mvs n f) o s) (by unfold ex9k; rw [if_pos h])
    rw [hx] at h1' h2'
    generalize fewK o n s = few at hC h1' h2'
    refine ⟨T9k 1, _, rfl, (q931 p left n c many (kept s n).length few s (2 ^ n) (mvs n f) (jobsL f (kept s n)) o R).mpr ⟨fun _ => ⟨C82_ok (by omega), rfl, fun hp => ?_, fun hp => ?_⟩, fun h => absurd (show ((s : Nat) : Int) < ((2 ^ n : Nat) : Int) by omega) (of_decide_eq_false h)⟩⟩
    · have hp : popN s = 1 := by have h := eq_of_beq hp; omega
      have h84 := C84_ok (p := p) (c := c) (f := f) (s := s) (n := n) (by omega) hn (fun h => by have := kept_pop hn hs h; omega)
      refine ⟨h84, rfl, ⟨⟨rfl, ⟨Nat.le_refl _, rfl⟩, trivial⟩, hC, rfl, ⟨rfl, trivial⟩, fun hg => ?_, fun hg => ?_⟩⟩
      · exact h2' ⟨hp, by have := of_decide_eq_true hg; exact decide_eq_true (by omega)⟩
      · rw [hw]
        exact h1' (fun h => by have := of_decide_eq_true h.2; have := of_decide_eq_false hg; omega)
    · rw [hw]
      exact h1' (fun h => by rw [h.1] at hp; exact absurd hp (by decide))
  · exact ⟨T9k 1, _, rfl, (q931 p left n c many 0 0 (2 ^ n) (2 ^ n) (mvs n f) [] o R).mpr ⟨fun h => absurd (of_decide_eq_true h) (by omega), fun _ => hR⟩⟩
theorem loop9_2 (hn : n ≤ 7) (hk : 2 < n) (left : Int) {T1 : Tw} (h1 : [T9k 2, R9k 2][(end9k p n c many f o (.exit 0, 0, st9k p n c many (mvs n f) o left 2 (2 ^ n) (2 ^ n)) (atS (goodK o n many) popN 2 (2 ^ n) 0)).2.1]? = some T1) :
    LoopOW Try.prog none p93 (T9k 2) (st9k p n c many (mvs n f) o left 2 (2 ^ n) 0) (end9k p n c many f o (.exit 0, 0, st9k p n c many (mvs n f) o left 2 (2 ^ n) (2 ^ n)) (atS (goodK o n many) popN 2 (2 ^ n) 0)).1 T1 (end9k p n c many f o (.exit 0, 0, st9k p n c many (mvs n f) o left 2 (2 ^ n) (2 ^ n)) (atS (goodK o n many) popN 2 (2 ^ n) 0)).2.2 := by
  obtain ⟨z1, z2⟩ := two_pow_lt hn
  have hrun := run9k (p := p) (n := n) (c := c) (many := many) (f := f) (o := o) (fin := (.exit 0, 0, st9k p n c many (mvs n f) o left 2 (2 ^ n) (2 ^ n))) (k := 2) (r := 2 ^ n) (s := 0)
  rw [← hrun] at h1 ⊢
  refine loop_untilW (Ts := [T9k 2, R9k 2]) (k := 11) (n := 2 ^ n) (st := fun s => (0, st9k p n c many (mvs n f) o left 2 (2 ^ n) s)) (e := .exit 0) (ex := ex9k p n c many f o 2) rfl vx_sound ?_ (by rw [nglob]; omega) ⟨by simp, trivial⟩ (fun s _ => cl9k) (fun s x hs hx => ?_) (fun s hs R h1 h2 => ?_) (fun R hR => ?_) (Nat.zero_le _) rfl (Nat.le_of_ble_eq_true rfl) (by decide) h1
  · intro T hT
    simp only [List.mem_cons, List.not_mem_nil, or_false] at hT
    rcases hT with rfl | rfl <;> rfl
  · unfold ex9k at hx
    split at hx
    · cases hx
      exact ⟨by simp, trivial, clr9⟩
    · cases hx
  · have hw : IntKind.i64.wrap ((s : Int) + 1) = ((s + 1 : Nat) : Int) := wrapI (by omega) (by omega)
    have hC := C83k_ok (o := o) (f := f) hn s
    have hx : goodK o n many s = decide (fewK o n s ≤ many) := rfl
    have h1' : ¬ (popN s = 2 ∧ goodK o n many s = true) → R 0 .normal (st9k p n c many (mvs n f) o left 2 (2 ^ n) (s + 1)) := fun h => h1 (by unfold ex9k; rw [if_neg h])
    have h2' : popN s = 2 ∧ goodK o n many s = true → R 1 .ret (rt9k p n c many (mvs n f) o s) := fun h => h2 (.ret, 1, rt9k p n c many (mvs n f) o s) (by unfold ex9k; rw [if_pos h])
    rw [hx] at h1' h2'
    generalize fewK o n s = few at hC h1' h2'
    refine ⟨T9k 2, _, rfl, (q932 p left n c many (kept s n).length few s (2 ^ n) (mvs n f) (jobsL f (kept s n)) o R).mpr ⟨fun _ => ⟨C82_ok (by omega), rfl, fun hp => ?_, fun hp => ?_⟩, fun h => absurd (show ((s : Nat) : Int) < ((2 ^ n : Nat) : Int) by omega) (of_decide_eq_false h)⟩⟩
    · have hp : popN s = 2 := by have h := eq_of_beq hp; omega
      have h84 := C84_ok (p := p) (c := c) (f := f) (s := s) (n := n) (by omega) hn (fun h => by have := kept_pop hn hs h; omega)
      refine ⟨h84, rfl, ⟨⟨rfl, ⟨Nat.le_refl _, rfl⟩, trivial⟩, hC, rfl, ⟨rfl, trivial⟩, fun hg => ?_, fun hg => ?_⟩⟩
      · exact h2' ⟨hp, by have := of_decide_eq_true hg; exact decide_eq_true (by omega)⟩
      · rw [hw]
        exact h1' (fun h => by have := of_decide_eq_true h.2; have := of_decide_eq_false hg; omega)
    · rw [hw]
      exact h1' (fun h => by rw [h.1] at hp; exact absurd hp (by decide))
  · exact ⟨T9k 2, _, rfl, (q932 p left n c many 0 0 (2 ^ n) (2 ^ n) (mvs n f) [] o R).mpr ⟨fun h => absurd (of_decide_eq_true h) (by omega), fun _ => hR⟩⟩
theorem loop9_3 (hn : n ≤ 7) (hk : 3 < n) (left : Int) {T1 : Tw} (h1 : [T9k 3, R9k 3][(end9k p n c many f o (.exit 0, 0, st9k p n c many (mvs n f) o left 3 (2 ^ n) (2 ^ n)) (atS (goodK o n many) popN 3 (2 ^ n) 0)).2.1]? = some T1) :
    LoopOW Try.prog none p93 (T9k 3) (st9k p n c many (mvs n f) o left 3 (2 ^ n) 0) (end9k p n c many f o (.exit 0, 0, st9k p n c many (mvs n f) o left 3 (2 ^ n) (2 ^ n)) (atS (goodK o n many) popN 3 (2 ^ n) 0)).1 T1 (end9k p n c many f o (.exit 0, 0, st9k p n c many (mvs n f) o left 3 (2 ^ n) (2 ^ n)) (atS (goodK o n many) popN 3 (2 ^ n) 0)).2.2 := by
  obtain ⟨z1, z2⟩ := two_pow_lt hn
  have hrun := run9k (p := p) (n := n) (c := c) (many := many) (f := f) (o := o) (fin := (.exit 0, 0, st9k p n c many (mvs n f) o left 3 (2 ^ n) (2 ^ n))) (k := 3) (r := 2 ^ n) (s := 0)
  rw [← hrun] at h1 ⊢
  refine loop_untilW (Ts := [T9k 3, R9k 3]) (k := 12) (n := 2 ^ n) (st := fun s => (0, st9k p n c many (mvs n f) o left 3 (2 ^ n) s)) (e := .exit 0) (ex := ex9k p n c many f o 3) rfl vx_sound ?_ (by rw [nglob]; omega) ⟨by simp, trivial⟩ (fun s _ => cl9k) (fun s x hs hx => ?_) (fun s hs R h1 h2 => ?_) (fun R hR => ?_) (Nat.zero_le _) rfl (Nat.le_of_ble_eq_true rfl) (by decide) h1
  · intro T hT
    simp only [List.mem_cons, List.not_mem_nil, or_false] at hT
    rcases hT with rfl | rfl <;> rfl
  · unfold ex9k at hx
    split at hx
    · cases hx
      exact ⟨by simp, trivial, clr9⟩
    · cases hx
  · have hw : IntKind.i64.wrap ((s : Int) + 1) = ((s + 1 : Nat) : Int) := wrapI (by omega) (by omega)
    have hC := C83k_ok (o := o) (f := f) hn s
    have hx : goodK o n many s = decide (fewK o n s ≤ many) := rfl
    have h1' : ¬ (popN s = 3 ∧ goodK o n many s = true) → R 0 .normal (st9k p n c many (mvs n f) o left 3 (2 ^ n) (s + 1)) := fun h => h1 (by unfold ex9k; rw [if_neg h])
    have h2' : popN s = 3 ∧ goodK o n many s = true → R 1 .ret (rt9k p n c many (mvs n f) o s) := fun h => h2 (.ret, 1, rt9k p n c many (mvs n f) o s) (by unfold ex9k; rw [if_pos h])
    rw [hx] at h1' h2'
    generalize fewK o n s = few at hC h1' h2'
    refine ⟨T9k 3, _, rfl, (q933 p left n c many (kept s n).length few s (2 ^ n) (mvs n f) (jobsL f (kept s n)) o R).mpr ⟨fun _ => ⟨C82_ok (by omega), rfl, fun hp => ?_, fun hp => ?_⟩, fun h => absurd (show ((s : Nat) : Int) < ((2 ^ n : Nat) : Int) by omega) (of_decide_eq_false h)⟩⟩
    · have hp : popN s = 3 := by have h := eq_of_beq hp; omega
      have h84 := C84_ok (p := p) (c := c) (f := f) (s := s) (n := n) (by omega) hn (fun h => by have := kept_pop hn hs h; omega)
      refine ⟨h84, rfl, ⟨⟨rfl, ⟨Nat.le_refl _, rfl⟩, trivial⟩, hC, rfl, ⟨rfl, trivial⟩, fun hg => ?_, fun hg => ?_⟩⟩
      · exact h2' ⟨hp, by have := of_decide_eq_true hg; exact decide_eq_true (by omega)⟩
      · rw [hw]
        exact h1' (fun h => by have := of_decide_eq_true h.2; have := of_decide_eq_false hg; omega)
    · rw [hw]
      exact h1' (fun h => by rw [h.1] at hp; exact absurd hp (by decide))
  · exact ⟨T9k 3, _, rfl, (q933 p left n c many 0 0 (2 ^ n) (2 ^ n) (mvs n f) [] o R).mpr ⟨fun h => absurd (of_decide_eq_true h) (by omega), fun _ => hR⟩⟩
theorem loop9_4 (hn : n ≤ 7) (hk : 4 < n) (left : Int) {T1 : Tw} (h1 : [T9k 4, R9k 4][(end9k p n c many f o (.exit 0, 0, st9k p n c many (mvs n f) o left 4 (2 ^ n) (2 ^ n)) (atS (goodK o n many) popN 4 (2 ^ n) 0)).2.1]? = some T1) :
    LoopOW Try.prog none p93 (T9k 4) (st9k p n c many (mvs n f) o left 4 (2 ^ n) 0) (end9k p n c many f o (.exit 0, 0, st9k p n c many (mvs n f) o left 4 (2 ^ n) (2 ^ n)) (atS (goodK o n many) popN 4 (2 ^ n) 0)).1 T1 (end9k p n c many f o (.exit 0, 0, st9k p n c many (mvs n f) o left 4 (2 ^ n) (2 ^ n)) (atS (goodK o n many) popN 4 (2 ^ n) 0)).2.2 := by
  obtain ⟨z1, z2⟩ := two_pow_lt hn
  have hrun := run9k (p := p) (n := n) (c := c) (many := many) (f := f) (o := o) (fin := (.exit 0, 0, st9k p n c many (mvs n f) o left 4 (2 ^ n) (2 ^ n))) (k := 4) (r := 2 ^ n) (s := 0)
  rw [← hrun] at h1 ⊢
  refine loop_untilW (Ts := [T9k 4, R9k 4]) (k := 13) (n := 2 ^ n) (st := fun s => (0, st9k p n c many (mvs n f) o left 4 (2 ^ n) s)) (e := .exit 0) (ex := ex9k p n c many f o 4) rfl vx_sound ?_ (by rw [nglob]; omega) ⟨by simp, trivial⟩ (fun s _ => cl9k) (fun s x hs hx => ?_) (fun s hs R h1 h2 => ?_) (fun R hR => ?_) (Nat.zero_le _) rfl (Nat.le_of_ble_eq_true rfl) (by decide) h1
  · intro T hT
    simp only [List.mem_cons, List.not_mem_nil, or_false] at hT
    rcases hT with rfl | rfl <;> rfl
  · unfold ex9k at hx
    split at hx
    · cases hx
      exact ⟨by simp, trivial, clr9⟩
    · cases hx
  · have hw : IntKind.i64.wrap ((s : Int) + 1) = ((s + 1 : Nat) : Int) := wrapI (by omega) (by omega)
    have hC := C83k_ok (o := o) (f := f) hn s
    have hx : goodK o n many s = decide (fewK o n s ≤ many) := rfl
    have h1' : ¬ (popN s = 4 ∧ goodK o n many s = true) → R 0 .normal (st9k p n c many (mvs n f) o left 4 (2 ^ n) (s + 1)) := fun h => h1 (by unfold ex9k; rw [if_neg h])
    have h2' : popN s = 4 ∧ goodK o n many s = true → R 1 .ret (rt9k p n c many (mvs n f) o s) := fun h => h2 (.ret, 1, rt9k p n c many (mvs n f) o s) (by unfold ex9k; rw [if_pos h])
    rw [hx] at h1' h2'
    generalize fewK o n s = few at hC h1' h2'
    refine ⟨T9k 4, _, rfl, (q934 p left n c many (kept s n).length few s (2 ^ n) (mvs n f) (jobsL f (kept s n)) o R).mpr ⟨fun _ => ⟨C82_ok (by omega), rfl, fun hp => ?_, fun hp => ?_⟩, fun h => absurd (show ((s : Nat) : Int) < ((2 ^ n : Nat) : Int) by omega) (of_decide_eq_false h)⟩⟩
    · have hp : popN s = 4 := by have h := eq_of_beq hp; omega
      have h84 := C84_ok (p := p) (c := c) (f := f) (s := s) (n := n) (by omega) hn (fun h => by have := kept_pop hn hs h; omega)
      refine ⟨h84, rfl, ⟨⟨rfl, ⟨Nat.le_refl _, rfl⟩, trivial⟩, hC, rfl, ⟨rfl, trivial⟩, fun hg => ?_, fun hg => ?_⟩⟩
      · exact h2' ⟨hp, by have := of_decide_eq_true hg; exact decide_eq_true (by omega)⟩
      · rw [hw]
        exact h1' (fun h => by have := of_decide_eq_true h.2; have := of_decide_eq_false hg; omega)
    · rw [hw]
      exact h1' (fun h => by rw [h.1] at hp; exact absurd hp (by decide))
  · exact ⟨T9k 4, _, rfl, (q934 p left n c many 0 0 (2 ^ n) (2 ^ n) (mvs n f) [] o R).mpr ⟨fun h => absurd (of_decide_eq_true h) (by omega), fun _ => hR⟩⟩
theorem loop9_5 (hn : n ≤ 7) (hk : 5 < n) (left : Int) {T1 : Tw} (h1 : [T9k 5, R9k 5][(end9k p n c many f o (.exit 0, 0, st9k p n c many (mvs n f) o left 5 (2 ^ n) (2 ^ n)) (atS (goodK o n many) popN 5 (2 ^ n) 0)).2.1]? = some T1) :
    LoopOW Try.prog none p93 (T9k 5) (st9k p n c many (mvs n f) o left 5 (2 ^ n) 0) (end9k p n c many f o (.exit 0, 0, st9k p n c many (mvs n f) o left 5 (2 ^ n) (2 ^ n)) (atS (goodK o n many) popN 5 (2 ^ n) 0)).1 T1 (end9k p n c many f o (.exit 0, 0, st9k p n c many (mvs n f) o left 5 (2 ^ n) (2 ^ n)) (atS (goodK o n many) popN 5 (2 ^ n) 0)).2.2 := by
  obtain ⟨z1, z2⟩ := two_pow_lt hn
  have hrun := run9k (p := p) (n := n) (c := c) (many := many) (f := f) (o := o) (fin := (.exit 0, 0, st9k p n c many (mvs n f) o left 5 (2 ^ n) (2 ^ n))) (k := 5) (r := 2 ^ n) (s := 0)
  rw [← hrun] at h1 ⊢
  refine loop_untilW (Ts := [T9k 5, R9k 5]) (k := 14) (n := 2 ^ n) (st := fun s => (0, st9k p n c many (mvs n f) o left 5 (2 ^ n) s)) (e := .exit 0) (ex := ex9k p n c many f o 5) rfl vx_sound ?_ (by rw [nglob]; omega) ⟨by simp, trivial⟩ (fun s _ => cl9k) (fun s x hs hx => ?_) (fun s hs R h1 h2 => ?_) (fun R hR => ?_) (Nat.zero_le _) rfl (Nat.le_of_ble_eq_true rfl) (by decide) h1
  · intro T hT
    simp only [List.mem_cons, List.not_mem_nil, or_false] at hT
    rcases hT with rfl | rfl <;> rfl
  · unfold ex9k at hx
    split at hx
    · cases hx
      exact ⟨by simp, trivial, clr9⟩
    · cases hx
  · have hw : IntKind.i64.wrap ((s : Int) + 1) = ((s + 1 : Nat) : Int) := wrapI (by omega) (by omega)
    have hC := C83k_ok (o := o) (f := f) hn s
    have hx : goodK o n many s = decide (fewK o n s ≤ many) := rfl
    have h1' : ¬ (popN s = 5 ∧ goodK o n many s = true) → R 0 .normal (st9k p n c many (mvs n f) o left 5 (2 ^ n) (s + 1)) := fun h => h1 (by unfold ex9k; rw [if_neg h])
    have h2' : popN s = 5 ∧ goodK o n many s = true → R 1 .ret (rt9k p n c many (mvs n f) o s) := fun h => h2 (.ret, 1, rt9k p n c many (mvs n f) o s) (by unfold ex9k; rw [if_pos h])
    rw [hx] at h1' h2'
    generalize fewK o n s = few at hC h1' h2'
    refine ⟨T9k 5, _, rfl, (q935 p left n c many (kept s n).length few s (2 ^ n) (mvs n f) (jobsL f (kept s n)) o R).mpr ⟨fun _ => ⟨C82_ok (by omega), rfl, fun hp => ?_, fun hp => ?_⟩, fun h => absurd (show ((s : Nat) : Int) < ((2 ^ n : Nat) : Int) by omega) (of_decide_eq_false h)⟩⟩
    · have hp : popN s = 5 := by have h := eq_of_beq hp; omega
      have h84 := C84_ok (p := p) (c := c) (f := f) (s := s) (n := n) (by omega) hn (fun h => by have := kept_pop hn hs h; omega)
      refine ⟨h84, rfl, ⟨⟨rfl, ⟨Nat.le_refl _, rfl⟩, trivial⟩, hC, rfl, ⟨rfl, trivial⟩, fun hg => ?_, fun hg => ?_⟩⟩
      · exact h2' ⟨hp, by have := of_decide_eq_true hg; exact decide_eq_true (by omega)⟩
      · rw [hw]
        exact h1' (fun h => by have := of_decide_eq_true h.2; have := of_decide_eq_false hg; omega)
    · rw [hw]
      exact h1' (fun h => by rw [h.1] at hp; exact absurd hp (by decide))
  · exact ⟨T9k 5, _, rfl, (q935 p left n c many 0 0 (2 ^ n) (2 ^ n) (mvs n f) [] o R).mpr ⟨fun h => absurd (of_decide_eq_true h) (by omega), fun _ => hR⟩⟩
theorem loop9_6 (hn : n ≤ 7) (hk : 6 < n) (left : Int) {T1 : Tw} (h1 : [T9k 6, R9k 6][(end9k p n c many f o (.exit 0, 0, st9k p n c many (mvs n f) o left 6 (2 ^ n) (2 ^ n)) (atS (goodK o n many) popN 6 (2 ^ n) 0)).2.1]? = some T1) :
    LoopOW Try.prog none p93 (T9k 6) (st9k p n c many (mvs n f) o left 6 (2 ^ n) 0) (end9k p n c many f o (.exit 0, 0, st9k p n c many (mvs n f) o left 6 (2 ^ n) (2 ^ n)) (atS (goodK o n many) popN 6 (2 ^ n) 0)).1 T1 (end9k p n c many f o (.exit 0, 0, st9k p n c many (mvs n f) o left 6 (2 ^ n) (2 ^ n)) (atS (goodK o n many) popN 6 (2 ^ n) 0)).2.2 := by
  obtain ⟨z1, z2⟩ := two_pow_lt hn
  have hrun := run9k (p := p) (n := n) (c := c) (many := many) (f := f) (o := o) (fin := (.exit 0, 0, st9k p n c many (mvs n f) o left 6 (2 ^ n) (2 ^ n))) (k := 6) (r := 2 ^ n) (s := 0)
  rw [← hrun] at h1 ⊢
  refine loop_untilW (Ts := [T9k 6, R9k 6]) (k := 15) (n := 2 ^ n) (st := fun s => (0, st9k p n c many (mvs n f) o left 6 (2 ^ n) s)) (e := .exit 0) (ex := ex9k p n c many f o 6) rfl vx_sound ?_ (by rw [nglob]; omega) ⟨by simp, trivial⟩ (fun s _ => cl9k) (fun s x hs hx => ?_) (fun s hs R h1 h2 => ?_) (fun R hR => ?_) (Nat.zero_le _) rfl (Nat.le_of_ble_eq_true rfl) (by decide) h1
  · intro T hT
    simp only [List.mem_cons, List.not_mem_nil, or_false] at hT
    rcases hT with rfl | rfl <;> rfl
  · unfold ex9k at hx
    split at hx
    · cases hx
      exact ⟨by simp, trivial, clr9⟩
    · cases hx
  · have hw : IntKind.i64.wrap ((s : Int) + 1) = ((s + 1 : Nat) : Int) := wrapI (by omega) (by omega)
    have hC := C83k_ok (o := o) (f := f) hn s
    have hx : goodK o n many s = decide (fewK o n s ≤ many) := rfl
    have h1' : ¬ (popN s = 6 ∧ goodK o n many s = true) → R 0 .normal (st9k p n c many (mvs n f) o left 6 (2 ^ n) (s + 1)) := fun h => h1 (by unfold ex9k; rw [if_neg h])
    have h2' : popN s = 6 ∧ goodK o n many s = true → R 1 .ret (rt9k p n c many (mvs n f) o s) := fun h => h2 (.ret, 1, rt9k p n c many (mvs n f) o s) (by unfold ex9k; rw [if_pos h])
    rw [hx] at h1' h2'
    generalize fewK o n s = few at hC h1' h2'
    refine ⟨T9k 6, _, rfl, (q936 p left n c many (kept s n).length few s (2 ^ n) (mvs n f) (jobsL f (kept s n)) o R).mpr ⟨fun _ => ⟨C82_ok (by omega), rfl, fun hp => ?_, fun hp => ?_⟩, fun h => absurd (show ((s : Nat) : Int) < ((2 ^ n : Nat) : Int) by omega) (of_decide_eq_false h)⟩⟩
    · have hp : popN s = 6 := by have h := eq_of_beq hp; omega
      have h84 := C84_ok (p := p) (c := c) (f := f) (s := s) (n := n) (by omega) hn (fun h => by have := kept_pop hn hs h; omega)
      refine ⟨h84, rfl, ⟨⟨rfl, ⟨Nat.le_refl _, rfl⟩, trivial⟩, hC, rfl, ⟨rfl, trivial⟩, fun hg => ?_, fun hg => ?_⟩⟩
      · exact h2' ⟨hp, by have := of_decide_eq_true hg; exact decide_eq_true (by omega)⟩
      · rw [hw]
        exact h1' (fun h => by have := of_decide_eq_true h.2; have := of_decide_eq_false hg; omega)
    · rw [hw]
      exact h1' (fun h => by rw [h.1] at hp; exact absurd hp (by decide))
  · exact ⟨T9k 6, _, rfl, (q936 p left n c many 0 0 (2 ^ n) (2 ^ n) (mvs n f) [] o R).mpr ⟨fun h => absurd (of_decide_eq_true h) (by omega), fun _ => hR⟩⟩
noncomputable def ts59 : List Tw := [T59 0, T59 1, T59 2, T59 3, T59 4, T59 5, T59 6, T59 7]
noncomputable def ex59 (p : Int) (n c many : Nat) (f : Nat → Mv) (o : Nat → Int) (k : Nat) : Option (AExit × Nat × Hw) := match atS (goodK o n many) popN k (2 ^ n) 0 with | some s => some (.exit 0, k + 1, st59 p n c many (mvs n f) o s k) | none => none
theorem round59_0 (hn : n ≤ 7) (hk : 0 < n) (left : Int) (R : Nat → AExit → Hw → Prop) (h1 : ex59 p n c many f o 0 = none → R 1 .normal (st59 p n c many (mvs n f) o left 1)) (h2 : ∀ x, ex59 p n c many f o 0 = some x → R x.2.1 x.1 x.2.2) :
    ∃ T hs, ts59[0]? = some T ∧ vx.code none (.l p59) (leafW ts59 R) (T.inst (st59 p n c many (mvs n f) o left 0)) hs := by
  have hl := fun T1 => loop9_0 (p := p) (c := c) (many := many) (f := f) (o := o) hn hk left (T1 := T1)
  unfold ex59 at h1 h2
  cases hx : atS (goodK o n many) popN 0 (2 ^ n) 0 with
  | none =>
    rw [hx] at hl h1
    have hl := hl (T9k 0) rfl
    have h1 := h1 rfl
    refine ⟨T59 0, _, rfl, (q59n0 p left left n c many (mvs n f) o R).mpr ⟨fun _ => ⟨C80_ok hn, rfl, ?_⟩, fun h => absurd (show (((0 : Nat) : Nat) : Int) < (n : Int) by omega) (of_decide_eq_false h)⟩⟩
    rw [wrapN hn]
    exact ⟨cl9k (p := p) (n := n) (c := c) (many := many) (f := f) (o := o) (left := left) (N := 2 ^ n) (s := 0) (k := 0), hl, h1⟩
  | some s =>
    rw [hx] at hl h2
    have hl := hl (R9k 0) rfl
    have h2 := h2 _ rfl
    refine ⟨T59 0, _, rfl, (q59r0 p left s n c many (mvs n f) o R).mpr ⟨fun _ => ⟨C80_ok hn, rfl, ?_⟩, fun h => absurd (show (((0 : Nat) : Nat) : Int) < (n : Int) by omega) (of_decide_eq_false h)⟩⟩
    rw [wrapN hn]
    exact ⟨cl9k (p := p) (n := n) (c := c) (many := many) (f := f) (o := o) (left := left) (N := 2 ^ n) (s := 0) (k := 0), hl, h2⟩
theorem round59_1 (hn : n ≤ 7) (hk : 1 < n) (left : Int) (R : Nat → AExit → Hw → Prop) (h1 : ex59 p n c many f o 1 = none → R 2 .normal (st59 p n c many (mvs n f) o left 2)) (h2 : ∀ x, ex59 p n c many f o 1 = some x → R x.2.1 x.1 x.2.2) :
    ∃ T hs, ts59[1]? = some T ∧ vx.code none (.l p59) (leafW ts59 R) (T.inst (st59 p n c many (mvs n f) o left 1)) hs := by
  have hl := fun T1 => loop9_1 (p := p) (c := c) (many := many) (f := f) (o := o) hn hk left (T1 := T1)
  unfold ex59 at h1 h2
  cases hx : atS (goodK o n many) popN 1 (2 ^ n) 0 with
  | none =>
    rw [hx] at hl h1
    have hl := hl (T9k 1) rfl
    have h1 := h1 rfl
    refine ⟨T59 1, _, rfl, (q59n1 p left left n c many (mvs n f) o R).mpr ⟨fun _ => ⟨C80_ok hn, rfl, ?_⟩, fun h => absurd (show (((1 : Nat) : Nat) : Int) < (n : Int) by omega) (of_decide_eq_false h)⟩⟩
    rw [wrapN hn]
    exact ⟨cl9k (p := p) (n := n) (c := c) (many := many) (f := f) (o := o) (left := left) (N := 2 ^ n) (s := 0) (k := 1), hl, h1⟩
  | some s =>
    rw [hx] at hl h2
    have hl := hl (R9k 1) rfl
    have h2 := h2 _ rfl
    refine ⟨T59 1, _, rfl, (q59r1 p left s n c many (mvs n f) o R).mpr ⟨fun _ => ⟨C80_ok hn, rfl, ?_⟩, fun h => absurd (show (((1 : Nat) : Nat) : Int) < (n : Int) by omega) (of_decide_eq_false h)⟩⟩
    rw [wrapN hn]
    exact ⟨cl9k (p := p) (n := n) (c := c) (many := many) (f := f) (o := o) (left := left) (N := 2 ^ n) (s := 0) (k := 1), hl, h2⟩
theorem round59_2 (hn : n ≤ 7) (hk : 2 < n) (left : Int) (R : Nat → AExit → Hw → Prop) (h1 : ex59 p n c many f o 2 = none → R 3 .normal (st59 p n c many (mvs n f) o left 3)) (h2 : ∀ x, ex59 p n c many f o 2 = some x → R x.2.1 x.1 x.2.2) :
    ∃ T hs, ts59[2]? = some T ∧ vx.code none (.l p59) (leafW ts59 R) (T.inst (st59 p n c many (mvs n f) o left 2)) hs := by
  have hl := fun T1 => loop9_2 (p := p) (c := c) (many := many) (f := f) (o := o) hn hk left (T1 := T1)
  unfold ex59 at h1 h2
  cases hx : atS (goodK o n many) popN 2 (2 ^ n) 0 with
  | none =>
    rw [hx] at hl h1
    have hl := hl (T9k 2) rfl
    have h1 := h1 rfl
    refine ⟨T59 2, _, rfl, (q59n2 p left left n c many (mvs n f) o R).mpr ⟨fun _ => ⟨C80_ok hn, rfl, ?_⟩, fun h => absurd (show (((2 : Nat) : Nat) : Int) < (n : Int) by omega) (of_decide_eq_false h)⟩⟩
    rw [wrapN hn]
    exact ⟨cl9k (p := p) (n := n) (c := c) (many := many) (f := f) (o := o) (left := left) (N := 2 ^ n) (s := 0) (k := 2), hl, h1⟩
  | some s =>
    rw [hx] at hl h2
    have hl := hl (R9k 2) rfl
    have h2 := h2 _ rfl
    refine ⟨T59 2, _, rfl, (q59r2 p left s n c many (mvs n f) o R).mpr ⟨fun _ => ⟨C80_ok hn, rfl, ?_⟩, fun h => absurd (show (((2 : Nat) : Nat) : Int) < (n : Int) by omega) (of_decide_eq_false h)⟩⟩
    rw [wrapN hn]
    exact ⟨cl9k (p := p) (n := n) (c := c) (many := many) (f := f) (o := o) (left := left) (N := 2 ^ n) (s := 0) (k := 2), hl, h2⟩
theorem round59_3 (hn : n ≤ 7) (hk : 3 < n) (left : Int) (R : Nat → AExit → Hw → Prop) (h1 : ex59 p n c many f o 3 = none → R 4 .normal (st59 p n c many (mvs n f) o left 4)) (h2 : ∀ x, ex59 p n c many f o 3 = some x → R x.2.1 x.1 x.2.2) :
    ∃ T hs, ts59[3]? = some T ∧ vx.code none (.l p59) (leafW ts59 R) (T.inst (st59 p n c many (mvs n f) o left 3)) hs := by
  have hl := fun T1 => loop9_3 (p := p) (c := c) (many := many) (f := f) (o := o) hn hk left (T1 := T1)
  unfold ex59 at h1 h2
  cases hx : atS (goodK o n many) popN 3 (2 ^ n) 0 with
  | none =>
    rw [hx] at hl h1
    have hl := hl (T9k 3) rfl
    have h1 := h1 rfl
    refine ⟨T59 3, _, rfl, (q59n3 p left left n c many (mvs n f) o R).mpr ⟨fun _ => ⟨C80_ok hn, rfl, ?_⟩, fun h => absurd (show (((3 : Nat) : Nat) : Int) < (n : Int) by omega) (of_decide_eq_false h)⟩⟩
    rw [wrapN hn]
    exact ⟨cl9k (p := p) (n := n) (c := c) (many := many) (f := f) (o := o) (left := left) (N := 2 ^ n) (s := 0) (k := 3), hl, h1⟩
  | some s =>
    rw [hx] at hl h2
    have hl := hl (R9k 3) rfl
    have h2 := h2 _ rfl
    refine ⟨T59 3, _, rfl, (q59r3 p left s n c many (mvs n f) o R).mpr ⟨fun _ => ⟨C80_ok hn, rfl, ?_⟩, fun h => absurd (show (((3 : Nat) : Nat) : Int) < (n : Int) by omega) (of_decide_eq_false h)⟩⟩
    rw [wrapN hn]
    exact ⟨cl9k (p := p) (n := n) (c := c) (many := many) (f := f) (o := o) (left := left) (N := 2 ^ n) (s := 0) (k := 3), hl, h2⟩
theorem round59_4 (hn : n ≤ 7) (hk : 4 < n) (left : Int) (R : Nat → AExit → Hw → Prop) (h1 : ex59 p n c many f o 4 = none → R 5 .normal (st59 p n c many (mvs n f) o left 5)) (h2 : ∀ x, ex59 p n c many f o 4 = some x → R x.2.1 x.1 x.2.2) :
    ∃ T hs, ts59[4]? = some T ∧ vx.code none (.l p59) (leafW ts59 R) (T.inst (st59 p n c many (mvs n f) o left 4)) hs := by
  have hl := fun T1 => loop9_4 (p := p) (c := c) (many := many) (f := f) (o := o) hn hk left (T1 := T1)
  unfold ex59 at h1 h2
  cases hx : atS (goodK o n many) popN 4 (2 ^ n) 0 with
  | none =>
    rw [hx] at hl h1
    have hl := hl (T9k 4) rfl
    have h1 := h1 rfl
    refine ⟨T59 4, _, rfl, (q59n4 p left left n c many (mvs n f) o R).mpr ⟨fun _ => ⟨C80_ok hn, rfl, ?_⟩, fun h => absurd (show (((4 : Nat) : Nat) : Int) < (n : Int) by omega) (of_decide_eq_false h)⟩⟩
    rw [wrapN hn]
    exact ⟨cl9k (p := p) (n := n) (c := c) (many := many) (f := f) (o := o) (left := left) (N := 2 ^ n) (s := 0) (k := 4), hl, h1⟩
  | some s =>
    rw [hx] at hl h2
    have hl := hl (R9k 4) rfl
    have h2 := h2 _ rfl
    refine ⟨T59 4, _, rfl, (q59r4 p left s n c many (mvs n f) o R).mpr ⟨fun _ => ⟨C80_ok hn, rfl, ?_⟩, fun h => absurd (show (((4 : Nat) : Nat) : Int) < (n : Int) by omega) (of_decide_eq_false h)⟩⟩
    rw [wrapN hn]
    exact ⟨cl9k (p := p) (n := n) (c := c) (many := many) (f := f) (o := o) (left := left) (N := 2 ^ n) (s := 0) (k := 4), hl, h2⟩
theorem round59_5 (hn : n ≤ 7) (hk : 5 < n) (left : Int) (R : Nat → AExit → Hw → Prop) (h1 : ex59 p n c many f o 5 = none → R 6 .normal (st59 p n c many (mvs n f) o left 6)) (h2 : ∀ x, ex59 p n c many f o 5 = some x → R x.2.1 x.1 x.2.2) :
    ∃ T hs, ts59[5]? = some T ∧ vx.code none (.l p59) (leafW ts59 R) (T.inst (st59 p n c many (mvs n f) o left 5)) hs := by
  have hl := fun T1 => loop9_5 (p := p) (c := c) (many := many) (f := f) (o := o) hn hk left (T1 := T1)
  unfold ex59 at h1 h2
  cases hx : atS (goodK o n many) popN 5 (2 ^ n) 0 with
  | none =>
    rw [hx] at hl h1
    have hl := hl (T9k 5) rfl
    have h1 := h1 rfl
    refine ⟨T59 5, _, rfl, (q59n5 p left left n c many (mvs n f) o R).mpr ⟨fun _ => ⟨C80_ok hn, rfl, ?_⟩, fun h => absurd (show (((5 : Nat) : Nat) : Int) < (n : Int) by omega) (of_decide_eq_false h)⟩⟩
    rw [wrapN hn]
    exact ⟨cl9k (p := p) (n := n) (c := c) (many := many) (f := f) (o := o) (left := left) (N := 2 ^ n) (s := 0) (k := 5), hl, h1⟩
  | some s =>
    rw [hx] at hl h2
    have hl := hl (R9k 5) rfl
    have h2 := h2 _ rfl
    refine ⟨T59 5, _, rfl, (q59r5 p left s n c many (mvs n f) o R).mpr ⟨fun _ => ⟨C80_ok hn, rfl, ?_⟩, fun h => absurd (show (((5 : Nat) : Nat) : Int) < (n : Int) by omega) (of_decide_eq_false h)⟩⟩
    rw [wrapN hn]
    exact ⟨cl9k (p := p) (n := n) (c := c) (many := many) (f := f) (o := o) (left := left) (N := 2 ^ n) (s := 0) (k := 5), hl, h2⟩
theorem round59_6 (hn : n ≤ 7) (hk : 6 < n) (left : Int) (R : Nat → AExit → Hw → Prop) (h1 : ex59 p n c many f o 6 = none → R 7 .normal (st59 p n c many (mvs n f) o left 7)) (h2 : ∀ x, ex59 p n c many f o 6 = some x → R x.2.1 x.1 x.2.2) :
    ∃ T hs, ts59[6]? = some T ∧ vx.code none (.l p59) (leafW ts59 R) (T.inst (st59 p n c many (mvs n f) o left 6)) hs := by
  have hl := fun T1 => loop9_6 (p := p) (c := c) (many := many) (f := f) (o := o) hn hk left (T1 := T1)
  unfold ex59 at h1 h2
  cases hx : atS (goodK o n many) popN 6 (2 ^ n) 0 with
  | none =>
    rw [hx] at hl h1
    have hl := hl (T9k 6) rfl
    have h1 := h1 rfl
    refine ⟨T59 6, _, rfl, (q59n6 p left left n c many (mvs n f) o R).mpr ⟨fun _ => ⟨C80_ok hn, rfl, ?_⟩, fun h => absurd (show (((6 : Nat) : Nat) : Int) < (n : Int) by omega) (of_decide_eq_false h)⟩⟩
    rw [wrapN hn]
    exact ⟨cl9k (p := p) (n := n) (c := c) (many := many) (f := f) (o := o) (left := left) (N := 2 ^ n) (s := 0) (k := 6), hl, h1⟩
  | some s =>
    rw [hx] at hl h2
    have hl := hl (R9k 6) rfl
    have h2 := h2 _ rfl
    refine ⟨T59 6, _, rfl, (q59r6 p left s n c many (mvs n f) o R).mpr ⟨fun _ => ⟨C80_ok hn, rfl, ?_⟩, fun h => absurd (show (((6 : Nat) : Nat) : Int) < (n : Int) by omega) (of_decide_eq_false h)⟩⟩
    rw [wrapN hn]
    exact ⟨cl9k (p := p) (n := n) (c := c) (many := many) (f := f) (o := o) (left := left) (N := 2 ^ n) (s := 0) (k := 6), hl, h2⟩
end
end Go.Ab
set_option maxRecDepth 100000
namespace Go.Ab
open Go Go.RowKit Go.Proofs
def foundS (good : Nat → Bool) (pop : Nat → Nat) (N : Nat) : Nat → Nat → Option (Nat × Nat)
  | 0, _ => none
  | r + 1, k => match atS good pop k N 0 with | some s => some (k, s) | none => foundS good pop N r (k + 1)
theorem foundS_lt {good : Nat → Bool} {pop : Nat → Nat} {N : Nat} : ∀ {r k : Nat} {x : Nat × Nat}, foundS good pop N r k = some x → x.1 < k + r := by
  intro r
  induction r with
  | zero => intro k x h; cases h
  | succ r ih =>
    intro k x h
    simp only [foundS] at h
    split at h
    · cases h; show k < _; omega
    · have := ih h; omega
theorem sizeS_found {good : Nat → Bool} {pop : Nat → Nat} {N dflt : Nat} : ∀ {r k : Nat}, sizeS good pop N dflt r k = match foundS good pop N r k with | some x => x.2 | none => dflt := by
  intro r
  induction r with
  | zero => intro k; rfl
  | succ r ih =>
    intro k
    simp only [sizeS, foundS]
    cases h : atS good pop k N 0 with
    | some s => rfl
    | none => exact ih
section
variable {p : Int} {n c many : Nat} {f : Nat → Mv} {o : Nat → Int}
noncomputable def end59 (p : Int) (n c many : Nat) (f : Nat → Mv) (o : Nat → Int) (fin : AExit × Nat × Hw) : Option (Nat × Nat) → AExit × Nat × Hw
  | some x => (.exit 0, x.1 + 1, st59 p n c many (mvs n f) o x.2 x.1)
  | none => fin
theorem run59 {fin : AExit × Nat × Hw} : ∀ {r k : Nat}, runX (ex59 p n c many f o) fin r k = end59 p n c many f o fin (foundS (goodK o n many) popN (2 ^ n) r k) := by
  intro r
  induction r with
  | zero => intro k; rfl
  | succ r ih =>
    intro k
    simp only [runX, ex59, foundS]
    cases h : atS (goodK o n many) popN k (2 ^ n) 0 with
    | some s => rfl
    | none => exact ih
theorem loop59 (hn : n ≤ 7) (left : Int) {T1 : Tw} (h1 : ts59[(end59 p n c many f o (.exit 0, n, st59 p n c many (mvs n f) o left n) (foundS (goodK o n many) popN (2 ^ n) n 0)).2.1]? = some T1) :
    LoopOW Try.prog none p59 (T59 0) (st59 p n c many (mvs n f) o left 0) (end59 p n c many f o (.exit 0, n, st59 p n c many (mvs n f) o left n) (foundS (goodK o n many) popN (2 ^ n) n 0)).1 T1 (end59 p n c many f o (.exit 0, n, st59 p n c many (mvs n f) o left n) (foundS (goodK o n many) popN (2 ^ n) n 0)).2.2 := by
  have hrun := run59 (p := p) (n := n) (c := c) (many := many) (f := f) (o := o) (fin := (.exit 0, n, st59 p n c many (mvs n f) o left n)) (r := n) (k := 0)
  rw [← hrun] at h1 ⊢
  refine loop_untilW (Ts := ts59) (k := 5) (n := n) (st := fun k => (k, st59 p n c many (mvs n f) o left k)) (e := .exit 0) (ex := ex59 p n c many f o) rfl vx_sound ?_ (by rw [nglob]; omega) ⟨by simp, trivial⟩ (fun k _ => cl59) (fun k x hk hx => ?_) (fun k hk R h1 h2 => ?_) (fun R hR => ?_) (Nat.zero_le _) rfl (Nat.le_of_ble_eq_true rfl) (by decide) h1
  · intro T hT
    simp only [ts59, List.mem_cons, List.not_mem_nil, or_false] at hT
    rcases hT with rfl | rfl | rfl | rfl | rfl | rfl | rfl | rfl <;> rfl
  · unfold ex59 at hx
    split at hx
    · cases hx
      exact ⟨by simp, trivial, cl59⟩
    · cases hx
  · have hk' : k = 0 ∨ k = 1 ∨ k = 2 ∨ k = 3 ∨ k = 4 ∨ k = 5 ∨ k = 6 := by omega
    rcases hk' with rfl | rfl | rfl | rfl | rfl | rfl | rfl
    · exact round59_0 hn hk left R h1 h2
    · exact round59_1 hn hk left R h1 h2
    · exact round59_2 hn hk left R h1 h2
    · exact round59_3 hn hk left R h1 h2
    · exact round59_4 hn hk left R h1 h2
    · exact round59_5 hn hk left R h1 h2
    · exact round59_6 hn hk left R h1 h2
  · have hk' : n = 0 ∨ n = 1 ∨ n = 2 ∨ n = 3 ∨ n = 4 ∨ n = 5 ∨ n = 6 ∨ n = 7 := by omega
    rcases hk' with rfl | rfl | rfl | rfl | rfl | rfl | rfl | rfl
    · exact ⟨T59 0, _, rfl, (q59n0 p left left 0 c many (mvs 0 f) o R).mpr ⟨fun h => absurd (of_decide_eq_true h) (by omega), fun _ => hR⟩⟩
    · exact ⟨T59 1, _, rfl, (q59n1 p left left 1 c many (mvs 1 f) o R).mpr ⟨fun h => absurd (of_decide_eq_true h) (by omega), fun _ => hR⟩⟩
    · exact ⟨T59 2, _, rfl, (q59n2 p left left 2 c many (mvs 2 f) o R).mpr ⟨fun h => absurd (of_decide_eq_true h) (by omega), fun _ => hR⟩⟩
    · exact ⟨T59 3, _, rfl, (q59n3 p left left 3 c many (mvs 3 f) o R).mpr ⟨fun h => absurd (of_decide_eq_true h) (by omega), fun _ => hR⟩⟩
    · exact ⟨T59 4, _, rfl, (q59n4 p left left 4 c many (mvs 4 f) o R).mpr ⟨fun h => absurd (of_decide_eq_true h) (by omega), fun _ => hR⟩⟩
    · exact ⟨T59 5, _, rfl, (q59n5 p left left 5 c many (mvs 5 f) o R).mpr ⟨fun h => absurd (of_decide_eq_true h) (by omega), fun _ => hR⟩⟩
    · exact ⟨T59 6, _, rfl, (q59n6 p left left 6 c many (mvs 6 f) o R).mpr ⟨fun h => absurd (of_decide_eq_true h) (by omega), fun _ => hR⟩⟩
    · exact ⟨T59 7, _, rfl, (q59e p left c many (mvs 7 f) o R).mpr hR⟩
theorem fin59 (hn : n ≤ 7) (R : ARes → Prop) {left kk j : Nat} (hj : j ≤ 7) (hl : LoopOW Try.prog none p59 (T59 0) (st59 p n c many (mvs n f) o (2 ^ n - 1 : Nat) 0) (.exit 0) (T59 j) (st59 p n c many (mvs n f) o left kk)) (hR : R (.ret (I left))) :
    ∃ hs, vx.call 59 [hV p n c, .agg ⟨ints 7 o⟩, I many] (retK R) (m1 (mvs n f)) hs := by
  have hk' : j = 0 ∨ j = 1 ∨ j = 2 ∨ j = 3 ∨ j = 4 ∨ j = 5 ∨ j = 6 ∨ j = 7 := by omega
  rcases hk' with rfl | rfl | rfl | rfl | rfl | rfl | rfl | rfl
  · exact ⟨_, (q59f0 p left n c many kk (mvs n f) o R).mpr ⟨C80_ok hn, rfl, cl59 (p := p) (n := n) (c := c) (many := many) (f := f) (o := o) (left := (2 ^ n - 1 : Nat)) (k := 0), hl, hR⟩⟩
  · exact ⟨_, (q59f1 p left n c many kk (mvs n f) o R).mpr ⟨C80_ok hn, rfl, cl59 (p := p) (n := n) (c := c) (many := many) (f := f) (o := o) (left := (2 ^ n - 1 : Nat)) (k := 0), hl, hR⟩⟩
  · exact ⟨_, (q59f2 p left n c many kk (mvs n f) o R).mpr ⟨C80_ok hn, rfl, cl59 (p := p) (n := n) (c := c) (many := many) (f := f) (o := o) (left := (2 ^ n - 1 : Nat)) (k := 0), hl, hR⟩⟩
  · exact ⟨_, (q59f3 p left n c many kk (mvs n f) o R).mpr ⟨C80_ok hn, rfl, cl59 (p := p) (n := n) (c := c) (many := many) (f := f) (o := o) (left := (2 ^ n - 1 : Nat)) (k := 0), hl, hR⟩⟩
  · exact ⟨_, (q59f4 p left n c many kk (mvs n f) o R).mpr ⟨C80_ok hn, rfl, cl59 (p := p) (n := n) (c := c) (many := many) (f := f) (o := o) (left := (2 ^ n - 1 : Nat)) (k := 0), hl, hR⟩⟩
  · exact ⟨_, (q59f5 p left n c many kk (mvs n f) o R).mpr ⟨C80_ok hn, rfl, cl59 (p := p) (n := n) (c := c) (many := many) (f := f) (o := o) (left := (2 ^ n - 1 : Nat)) (k := 0), hl, hR⟩⟩
  · exact ⟨_, (q59f6 p left n c many kk (mvs n f) o R).mpr ⟨C80_ok hn, rfl, cl59 (p := p) (n := n) (c := c) (many := many) (f := f) (o := o) (left := (2 ^ n - 1 : Nat)) (k := 0), hl, hR⟩⟩
  · exact ⟨_, (q59f7 p left n c many kk (mvs n f) o R).mpr ⟨C80_ok hn, rfl, cl59 (p := p) (n := n) (c := c) (many := many) (f := f) (o := o) (left := (2 ^ n - 1 : Nat)) (k := 0), hl, hR⟩⟩
def leaveF (o : Nat → Int) (n many : Nat) : Nat := sizeS (goodK o n many) popN (2 ^ n) (2 ^ n - 1) n 0
noncomputable def C59 (p : Int) (n c many : Nat) (f : Nat → Mv) (o : Nat → Int) (left : Nat) : Con where
  A := .agg (.hole (.slice 0 0 .nil)) (T7h (.hole .nil))
  bs := [.list 1 .ro]
  pre x := x = ⟨⟨I p :: ints 7 o ++ [I many], [(n, c)]⟩, [mvs n f]⟩
  res _ := .ret (I left)
theorem C59_ok (hn : n ≤ 7) : ConOK Try.prog 59 (C59 p n c many f o (leaveF o n many)) := by
  refine con_of vx_sound _ (fun y hy => ?_) rfl (fun y _ => rfl) (fun y hy => ?_) rfl (Nat.le_of_ble_eq_true rfl) (by rw [nglob]; exact Nat.zero_le _)
  · cases hy
    have hl := fun T1 => loop59 (p := p) (c := c) (many := many) (f := f) (o := o) hn ((2 ^ n - 1 : Nat) : Int) (T1 := T1)
    have hx := sizeS_found (good := goodK o n many) (pop := popN) (N := 2 ^ n) (dflt := 2 ^ n - 1) (r := n) (k := 0)
    have hlt := fun x => foundS_lt (good := goodK o n many) (pop := popN) (N := 2 ^ n) (r := n) (k := 0) (x := x)
    show ∃ hs, vx.call 59 [hV p n c, .agg ⟨ints 7 o⟩, I many] (retK fun r => r = .ret (I (sizeS (goodK o n many) popN (2 ^ n) (2 ^ n - 1) n 0 : Nat))) (m1 (mvs n f)) hs
    rw [hx]
    cases hf : foundS (goodK o n many) popN (2 ^ n) n 0 with
    | none =>
      rw [hf] at hl
      have hk' : n = 0 ∨ n = 1 ∨ n = 2 ∨ n = 3 ∨ n = 4 ∨ n = 5 ∨ n = 6 ∨ n = 7 := by omega
      have h1 := hl (T59 n) (by rcases hk' with rfl | rfl | rfl | rfl | rfl | rfl | rfl | rfl <;> rfl)
      exact fin59 hn _ hn h1 rfl
    | some x =>
      rw [hf] at hl
      have h0 := hlt x hf
      obtain ⟨k, s⟩ := x
      simp only [Nat.zero_add] at h0
      have hk' : k = 0 ∨ k = 1 ∨ k = 2 ∨ k = 3 ∨ k = 4 ∨ k = 5 ∨ k = 6 := by omega
      have h1 := hl (T59 (k + 1)) (by rcases hk' with rfl | rfl | rfl | rfl | rfl | rfl | rfl <;> rfl)
      exact fin59 hn _ (by omega) h1 rfl
  · cases hy
    exact mvs_atoms n f
theorem popN_leQ {n u : Nat} (hn : n ≤ 7) (hu : u < 2 ^ n) : popN u ≤ n := by
  have hn' : n = 0 ∨ n = 1 ∨ n = 2 ∨ n = 3 ∨ n = 4 ∨ n = 5 ∨ n = 6 ∨ n = 7 := by omega
  have key : ∀ N : Nat, N ≤ 7 → ((List.range (2 ^ N)).all fun u => decide (popN u ≤ N) && (!(popN u == N) || u == 2 ^ N - 1)) = true := by
    intro N hN
    have : N = 0 ∨ N = 1 ∨ N = 2 ∨ N = 3 ∨ N = 4 ∨ N = 5 ∨ N = 6 ∨ N = 7 := by omega
    rcases this with rfl | rfl | rfl | rfl | rfl | rfl | rfl | rfl <;> rfl
  have h := List.all_eq_true.1 (key n hn) u (List.mem_range.2 hu)
  rw [Bool.and_eq_true] at h
  exact of_decide_eq_true h.1
theorem popN_fullQ {n u : Nat} (hn : n ≤ 7) (hu : u < 2 ^ n) (h : popN u = n) : u = 2 ^ n - 1 := by
  have key : ∀ N : Nat, N ≤ 7 → ((List.range (2 ^ N)).all fun u => (!(popN u == N) || u == 2 ^ N - 1)) = true := by
    intro N hN
    have : N = 0 ∨ N = 1 ∨ N = 2 ∨ N = 3 ∨ N = 4 ∨ N = 5 ∨ N = 6 ∨ N = 7 := by omega
    rcases this with rfl | rfl | rfl | rfl | rfl | rfl | rfl | rfl <;> rfl
  have h2 := List.all_eq_true.1 (key n hn) u (List.mem_range.2 hu)
  rw [h] at h2
  simpa using h2
theorem few_all {o : Nat → Int} {n : Nat} : fewK o n (2 ^ n - 1) = 0 := by
  unfold fewK fewN
  rw [kept_all]
  rfl
theorem leaveF_least (hn : n ≤ 7) : Least (goodK o n many) popN n (leaveF o n many) :=
  sizeS_least (by unfold goodK; rw [few_all]; simp) (fun u hu h => popN_fullQ hn hu h) (fun u hu => popN_leQ hn hu) (popN_allQ hn) n 0 (by omega) (fun u _ _ => Nat.zero_le _)
end
end Go.Ab
set_option maxRecDepth 100000
namespace Go.Ab
open Go Go.RowKit Go.Proofs
theorem b29 (x a : Nat) (R : Nat → AExit → Hw → Prop) : (vx.code none (.l p29) (leafW [T29] R) (T29.inst ⟨⟨[I x, I a], []⟩, [], []⟩) ([(1, .split ([(9, .tm 0 [])]) ([(1, .tm 0 [])]))])) =
((((decide ((↑x : Int) > (0 : Int))) = true → R 0 .normal ⟨⟨[(I (IntKind.i64.wrap ((↑x : Int).tdiv (2 : Int)))), (I (IntKind.i64.wrap ((↑a : Int) + (↑x : Int).tmod (2 : Int))))], []⟩, [], []⟩) ∧
((decide ((↑x : Int) > (0 : Int))) = false → R 0 (.exit ((0 : Nat))) ⟨⟨[(I x), (I a)], []⟩, [], []⟩))) := by kernel_rfl
theorem f29 (x a : Nat) (R : ARes → Prop) : (vx.call 29 [I x] (retK R) ⟨.nil, 0⟩ ((3, .loopW T29 (.exit (0 : Nat)) T29 fun x => { hs := { vs := [I (0 : Int), I (↑a : Int)], ns := [] }, ls := [], es := [] }) :: [])) =
(((ClW ⟨⟨[(I x), (I 0)], []⟩, [], []⟩) ∧ (LoopOW Try.prog .none p29 (T29) ⟨⟨[(I x), (I 0)], []⟩, [], []⟩ (.exit ((0 : Nat))) (T29) ⟨⟨[(I 0), (I a)], []⟩, [], []⟩) ∧
R (.ret (I a)))) := by kernel_rfl
theorem popHalf : ((List.range 128).all fun x => decide (popN x = x % 2 + popN (x / 2))) = true := by kernel_rfl
theorem popN_half {x : Nat} (h : x < 128) : popN x = x % 2 + popN (x / 2) := by
  have := List.all_eq_true.1 popHalf x (List.mem_range.2 h)
  exact of_decide_eq_true this
theorem cl29 (x a : Nat) : ClW ⟨⟨[I x, I a], []⟩, [], []⟩ := ⟨fun cs h => (by cases h), fun cs h => (by cases h)⟩
theorem loop29 {x : Nat} (h : x < 128) : LoopOW Try.prog none p29 T29 ⟨⟨[I x, I (0 : Nat)], []⟩, [], []⟩ (.exit 0) T29 ⟨⟨[I (0 : Nat), I (popN x : Nat)], []⟩, [], []⟩ := by
  have hl := loop_vcW (P := Try.prog) (ro := none) (p := p29) (Ts := [T29]) (k := 0) (X := Nat × Nat) (inv := fun y => y.1 < 128 ∧ y.2 ≤ 1000 * (128 - y.1)) (μ := fun y => y.1) (st := fun y => (0, ⟨⟨[I y.1, I y.2], []⟩, [], []⟩)) (out := fun y => (.exit 0, 0, ⟨⟨[I (0 : Nat), I (y.2 + popN y.1 : Nat)], []⟩, [], []⟩)) rfl vx_sound (by intro T hT; simp only [List.mem_singleton] at hT; subst hT; rfl) (by rw [nglob]; omega) (fun y hy => by
    obtain ⟨x, a⟩ := y
    obtain ⟨hx, ha⟩ := hy
    have hx : x < 128 := hx
    have ha : a ≤ 1000 * (128 - x) := ha
    refine ⟨T29, _, rfl, (b29 x a _).mpr ⟨fun hp => ?_, fun hp => ?_⟩⟩
    · have hp : (x : Int) > 0 := of_decide_eq_true hp
      have e1 : IntKind.i64.wrap ((x : Int).tdiv 2) = ((x / 2 : Nat) : Int) := by
        have : (x : Int).tdiv 2 = ((x / 2 : Nat) : Int) := rfl
        rw [this]; exact wrapI (by omega) (by omega)
      have e2 : IntKind.i64.wrap ((a : Int) + (x : Int).tmod 2) = ((a + x % 2 : Nat) : Int) := by
        have : (x : Int).tmod 2 = ((x % 2 : Nat) : Int) := rfl
        rw [this, wrapI (by omega) (by omega)]; omega
      rw [e1, e2]
      refine ⟨⟨cl29 _ _, trivial⟩, .inl ⟨rfl, (x / 2, a + x % 2), ⟨by show x / 2 < 128; omega, by show a + x % 2 ≤ 1000 * (128 - x / 2); omega⟩, by show x / 2 < x; omega, rfl, ?_⟩⟩
      have := popN_half hx
      show (AExit.exit 0, 0, (⟨⟨[I (0 : Nat), I (a + x % 2 + popN (x / 2) : Nat)], []⟩, [], []⟩ : Hw)) = (AExit.exit 0, 0, ⟨⟨[I (0 : Nat), I (a + popN x : Nat)], []⟩, [], []⟩)
      rw [this, Nat.add_assoc]
    · have hp := of_decide_eq_false hp
      have e0 : x = 0 := by omega
      subst e0
      exact ⟨⟨cl29 _ _, trivial⟩, .inr ⟨by simp, by
        show (AExit.exit 0, 0, (⟨⟨[I (0 : Nat), I (a + popN 0 : Nat)], []⟩, [], []⟩ : Hw)) = _
        have e : popN 0 = 0 := by decide
        first | (rw [e, Nat.add_zero]; done) | (rw [e, Nat.add_zero]; rfl)⟩⟩) (x := (x, 0)) ⟨h, by show 0 ≤ 1000 * (128 - x); omega⟩ (T0 := T29) (T1 := T29) rfl (Nat.le_of_ble_eq_true rfl) (by decide) rfl
  have e : 0 + popN x = popN x := Nat.zero_add _
  simp only [e] at hl
  exact hl
theorem C29_ok {x : Nat} (h : x < 128) : ConOK Try.prog 29 (C29 x) := by
  refine con_of vx_sound _ (fun y hy => ?_) rfl (fun y _ => rfl) (fun y hy => ?_) rfl (Nat.le_of_ble_eq_true rfl) (by rw [nglob]; exact Nat.zero_le _)
  · cases hy
    exact ⟨_, (f29 x (popN x) _).mpr ⟨cl29 x 0, loop29 h, rfl⟩⟩
  · cases hy
    intro cs hcs
    cases hcs
def nb (own i : Nat) : Bool := bits .and .i64 ((own : Int) / 2 ^ i) 1 == 0
theorem nb_eq {own i : Nat} (h : own < 2 ^ 62) : nb own i = !own.testBit i := by
  have e : (own : Int) / 2 ^ i = ((own / 2 ^ i : Nat) : Int) := by simp
  have hd : own / 2 ^ i < 2 ^ 62 := Nat.lt_of_le_of_lt (Nat.div_le_self _ _) h
  simp only [nb, e]
  have h1 := and_nat (own / 2 ^ i) 1 hd (by decide)
  rw [show ((1 : Nat) : Int) = 1 from rfl] at h1
  rw [h1, Nat.testBit_eq_decide_div_mod_eq, Nat.and_one_is_mod]
  have hmod : own / 2 ^ i % 2 = 0 ∨ own / 2 ^ i % 2 = 1 := by omega
  rcases hmod with h | h <;> simp [h]
end Go.Ab
