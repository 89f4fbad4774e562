/- package surf: all plans: the loops over parts, where nothing is known of the surf. -/
import Derived.Test.YtoelpblmhmhglaaDoorPL
import Derived.Test.YtoelpblmhmhglaaDoorPJ
set_option maxRecDepth 100000
namespace Go.Ab
open Go Go.RowKit Go.Proofs
theorem d960t (s size i p many F : Nat) (f L2 : Nat → Int) (D2 : Nat → Nat) (lim lim2 : Int) (R : Nat → AExit → Hw → Prop) : (vx.code none (.l p96i) (leafW [T96id, R96] R) (T96id.inst (h96id s size (rcL many 0 F f) lim i lim2 p)) ((0, .val (.bool true)) :: [(6, .split ((2, .con (C101 p)) :: [(1, .split ((18, .conW (CW102 (rcL many 0 F f) p 0 (ints 5 fun _ => 0) (dsD fun _ => 0) true (ints 5 L2) (dsD D2))) :: [(33, .tm 1 [((25 : Nat), (31 : Nat))])]) ([(6, .tm 0 [])]))]) ([(7, .tm 0 [])]))])) =
((OT (decide ((p : Int) < lim2)) true) ∧
(((bits BinOp.andNot IntKind.i64 (p : Int) (s : Int) == 0) = true → (CA 101 (C101 p) ⟨⟨[I p], []⟩, []⟩ <|
((((↑(popN p) : Int) == (size : Int)) = true → (CW 102 (CW102 [Value.int .i64 many, Value.int .i64 0, Value.int .i64 F, Value.int .i64 (f 0), Value.int .i64 (f 1), Value.int .i64 (f 2), Value.int .i64 (f 3), Value.int .i64 (f 4)] p 0 [Value.int .i64 0, Value.int .i64 0, Value.int .i64 0, Value.int .i64 0, Value.int .i64 0] [Value.int .i64 (0 : Int), Value.int .i64 (0 : Int), Value.int .i64 (0 : Int), Value.int .i64 (0 : Int), Value.int .i64 (0 : Int), Value.int .i64 (0 : Int), Value.int .i64 (0 : Int), Value.int .i64 (0 : Int)] true [Value.int .i64 (L2 0), Value.int .i64 (L2 1), Value.int .i64 (L2 2), Value.int .i64 (L2 3), Value.int .i64 (L2 4)] [Value.int .i64 (↑(D2 0) : Int), Value.int .i64 (↑(D2 1) : Int), Value.int .i64 (↑(D2 2) : Int), Value.int .i64 (↑(D2 3) : Int), Value.int .i64 (↑(D2 4) : Int), Value.int .i64 (↑(D2 5) : Int), Value.int .i64 (↑(D2 6) : Int), Value.int .i64 (↑(D2 7) : Int)]) ⟨⟨[I 0, I p], []⟩, [[I many, I 0, I F, I (f (0 : Nat)), I (f (1 : Nat)), I (f (2 : Nat)), I (f (3 : Nat)), I (f (4 : Nat))], [I 0, I 0, I 0, I 0, I 0], [I 0, I 0, I 0, I 0, I 0, I 0, I 0, I 0]], []⟩ <|
R (1 : Nat) .ret ⟨⟨[I p, .bool true], [⟨(0 : Nat), (0 : Nat)⟩]⟩, [[]], []⟩)) ∧
(((↑(popN p) : Int) == (size : Int)) = false → R (0 : Nat) .normal ⟨⟨[I s, I size, I lim, I i, I lim2, I (IntKind.i64.wrap ((p : Int) + (1 : Int)))], []⟩, [[I many, I 0, I F, I (f (0 : Nat)), I (f (1 : Nat)), I (f (2 : Nat)), I (f (3 : Nat)), I (f (4 : Nat))]], []⟩)))) ∧
((bits BinOp.andNot IntKind.i64 (p : Int) (s : Int) == 0) = false → R (0 : Nat) .normal ⟨⟨[I s, I size, I lim, I i, I lim2, I (IntKind.i64.wrap ((p : Int) + (1 : Int)))], []⟩, [[I many, I 0, I F, I (f (0 : Nat)), I (f (1 : Nat)), I (f (2 : Nat)), I (f (3 : Nat)), I (f (4 : Nat))]], []⟩))) := by kernel_rfl
theorem d960f (s size i p many F : Nat) (f L2 : Nat → Int) (D2 : Nat → Nat) (lim lim2 : Int) (R : Nat → AExit → Hw → Prop) : (vx.code none (.l p96i) (leafW [T96id, R96] R) (T96id.inst (h96id s size (rcL many 0 F f) lim i lim2 p)) ((0, .val (.bool true)) :: [(6, .split ((2, .con (C101 p)) :: [(1, .split ((18, .conW (CW102 (rcL many 0 F f) p 0 (ints 5 fun _ => 0) (dsD fun _ => 0) false (ints 5 L2) (dsD D2))) :: [(33, .tm 0 [])]) ([(6, .tm 0 [])]))]) ([(7, .tm 0 [])]))])) =
((OT (decide ((p : Int) < lim2)) true) ∧
(((bits BinOp.andNot IntKind.i64 (p : Int) (s : Int) == 0) = true → (CA 101 (C101 p) ⟨⟨[I p], []⟩, []⟩ <|
((((↑(popN p) : Int) == (size : Int)) = true → (CW 102 (CW102 [Value.int .i64 many, Value.int .i64 0, Value.int .i64 F, Value.int .i64 (f 0), Value.int .i64 (f 1), Value.int .i64 (f 2), Value.int .i64 (f 3), Value.int .i64 (f 4)] p 0 [Value.int .i64 0, Value.int .i64 0, Value.int .i64 0, Value.int .i64 0, Value.int .i64 0] [Value.int .i64 (0 : Int), Value.int .i64 (0 : Int), Value.int .i64 (0 : Int), Value.int .i64 (0 : Int), Value.int .i64 (0 : Int), Value.int .i64 (0 : Int), Value.int .i64 (0 : Int), Value.int .i64 (0 : Int)] false [Value.int .i64 (L2 0), Value.int .i64 (L2 1), Value.int .i64 (L2 2), Value.int .i64 (L2 3), Value.int .i64 (L2 4)] [Value.int .i64 (↑(D2 0) : Int), Value.int .i64 (↑(D2 1) : Int), Value.int .i64 (↑(D2 2) : Int), Value.int .i64 (↑(D2 3) : Int), Value.int .i64 (↑(D2 4) : Int), Value.int .i64 (↑(D2 5) : Int), Value.int .i64 (↑(D2 6) : Int), Value.int .i64 (↑(D2 7) : Int)]) ⟨⟨[I 0, I p], []⟩, [[I many, I 0, I F, I (f (0 : Nat)), I (f (1 : Nat)), I (f (2 : Nat)), I (f (3 : Nat)), I (f (4 : Nat))], [I 0, I 0, I 0, I 0, I 0], [I 0, I 0, I 0, I 0, I 0, I 0, I 0, I 0]], []⟩ <|
R (0 : Nat) .normal ⟨⟨[I s, I size, I lim, I i, I lim2, I (IntKind.i64.wrap ((p : Int) + (1 : Int)))], []⟩, [[I many, I 0, I F, I (f (0 : Nat)), I (f (1 : Nat)), I (f (2 : Nat)), I (f (3 : Nat)), I (f (4 : Nat))]], []⟩)) ∧
(((↑(popN p) : Int) == (size : Int)) = false → R (0 : Nat) .normal ⟨⟨[I s, I size, I lim, I i, I lim2, I (IntKind.i64.wrap ((p : Int) + (1 : Int)))], []⟩, [[I many, I 0, I F, I (f (0 : Nat)), I (f (1 : Nat)), I (f (2 : Nat)), I (f (3 : Nat)), I (f (4 : Nat))]], []⟩)))) ∧
((bits BinOp.andNot IntKind.i64 (p : Int) (s : Int) == 0) = false → R (0 : Nat) .normal ⟨⟨[I s, I size, I lim, I i, I lim2, I (IntKind.i64.wrap ((p : Int) + (1 : Int)))], []⟩, [[I many, I 0, I F, I (f (0 : Nat)), I (f (1 : Nat)), I (f (2 : Nat)), I (f (3 : Nat)), I (f (4 : Nat))]], []⟩))) := by kernel_rfl
theorem d961t (s size i p many F : Nat) (f L2 : Nat → Int) (D2 : Nat → Nat) (lim lim2 : Int) (R : Nat → AExit → Hw → Prop) : (vx.code none (.l p96i) (leafW [T96id, R96] R) (T96id.inst (h96id s size (rcL many 1 F f) lim i lim2 p)) ((0, .val (.bool true)) :: [(6, .split ((2, .con (C101 p)) :: [(1, .split ((18, .conW (CW102 (rcL many 1 F f) p 0 (ints 5 fun _ => 0) (dsD fun _ => 0) true (ints 5 L2) (dsD D2))) :: [(33, .tm 1 [((25 : Nat), (31 : Nat))])]) ([(6, .tm 0 [])]))]) ([(7, .tm 0 [])]))])) =
((OT (decide ((p : Int) < lim2)) true) ∧
(((bits BinOp.andNot IntKind.i64 (p : Int) (s : Int) == 0) = true → (CA 101 (C101 p) ⟨⟨[I p], []⟩, []⟩ <|
((((↑(popN p) : Int) == (size : Int)) = true → (CW 102 (CW102 [Value.int .i64 many, Value.int .i64 1, Value.int .i64 F, Value.int .i64 (f 0), Value.int .i64 (f 1), Value.int .i64 (f 2), Value.int .i64 (f 3), Value.int .i64 (f 4)] p 0 [Value.int .i64 0, Value.int .i64 0, Value.int .i64 0, Value.int .i64 0, Value.int .i64 0] [Value.int .i64 (0 : Int), Value.int .i64 (0 : Int), Value.int .i64 (0 : Int), Value.int .i64 (0 : Int), Value.int .i64 (0 : Int), Value.int .i64 (0 : Int), Value.int .i64 (0 : Int), Value.int .i64 (0 : Int)] true [Value.int .i64 (L2 0), Value.int .i64 (L2 1), Value.int .i64 (L2 2), Value.int .i64 (L2 3), Value.int .i64 (L2 4)] [Value.int .i64 (↑(D2 0) : Int), Value.int .i64 (↑(D2 1) : Int), Value.int .i64 (↑(D2 2) : Int), Value.int .i64 (↑(D2 3) : Int), Value.int .i64 (↑(D2 4) : Int), Value.int .i64 (↑(D2 5) : Int), Value.int .i64 (↑(D2 6) : Int), Value.int .i64 (↑(D2 7) : Int)]) ⟨⟨[I 0, I p], []⟩, [[I many, I 1, I F, I (f (0 : Nat)), I (f (1 : Nat)), I (f (2 : Nat)), I (f (3 : Nat)), I (f (4 : Nat))], [I 0, I 0, I 0, I 0, I 0], [I 0, I 0, I 0, I 0, I 0, I 0, I 0, I 0]], []⟩ <|
R (1 : Nat) .ret ⟨⟨[I p, .bool true], [⟨(1 : Nat), (1 : Nat)⟩]⟩, [[I (L2 (0 : Nat))]], []⟩)) ∧
(((↑(popN p) : Int) == (size : Int)) = false → R (0 : Nat) .normal ⟨⟨[I s, I size, I lim, I i, I lim2, I (IntKind.i64.wrap ((p : Int) + (1 : Int)))], []⟩, [[I many, I 1, I F, I (f (0 : Nat)), I (f (1 : Nat)), I (f (2 : Nat)), I (f (3 : Nat)), I (f (4 : Nat))]], []⟩)))) ∧
((bits BinOp.andNot IntKind.i64 (p : Int) (s : Int) == 0) = false → R (0 : Nat) .normal ⟨⟨[I s, I size, I lim, I i, I lim2, I (IntKind.i64.wrap ((p : Int) + (1 : Int)))], []⟩, [[I many, I 1, I F, I (f (0 : Nat)), I (f (1 : Nat)), I (f (2 : Nat)), I (f (3 : Nat)), I (f (4 : Nat))]], []⟩))) := by kernel_rfl
theorem d961f (s size i p many F : Nat) (f L2 : Nat → Int) (D2 : Nat → Nat) (lim lim2 : Int) (R : Nat → AExit → Hw → Prop) : (vx.code none (.l p96i) (leafW [T96id, R96] R) (T96id.inst (h96id s size (rcL many 1 F f) lim i lim2 p)) ((0, .val (.bool true)) :: [(6, .split ((2, .con (C101 p)) :: [(1, .split ((18, .conW (CW102 (rcL many 1 F f) p 0 (ints 5 fun _ => 0) (dsD fun _ => 0) false (ints 5 L2) (dsD D2))) :: [(33, .tm 0 [])]) ([(6, .tm 0 [])]))]) ([(7, .tm 0 [])]))])) =
((OT (decide ((p : Int) < lim2)) true) ∧
(((bits BinOp.andNot IntKind.i64 (p : Int) (s : Int) == 0) = true → (CA 101 (C101 p) ⟨⟨[I p], []⟩, []⟩ <|
((((↑(popN p) : Int) == (size : Int)) = true → (CW 102 (CW102 [Value.int .i64 many, Value.int .i64 1, Value.int .i64 F, Value.int .i64 (f 0), Value.int .i64 (f 1), Value.int .i64 (f 2), Value.int .i64 (f 3), Value.int .i64 (f 4)] p 0 [Value.int .i64 0, Value.int .i64 0, Value.int .i64 0, Value.int .i64 0, Value.int .i64 0] [Value.int .i64 (0 : Int), Value.int .i64 (0 : Int), Value.int .i64 (0 : Int), Value.int .i64 (0 : Int), Value.int .i64 (0 : Int), Value.int .i64 (0 : Int), Value.int .i64 (0 : Int), Value.int .i64 (0 : Int)] false [Value.int .i64 (L2 0), Value.int .i64 (L2 1), Value.int .i64 (L2 2), Value.int .i64 (L2 3), Value.int .i64 (L2 4)] [Value.int .i64 (↑(D2 0) : Int), Value.int .i64 (↑(D2 1) : Int), Value.int .i64 (↑(D2 2) : Int), Value.int .i64 (↑(D2 3) : Int), Value.int .i64 (↑(D2 4) : Int), Value.int .i64 (↑(D2 5) : Int), Value.int .i64 (↑(D2 6) : Int), Value.int .i64 (↑(D2 7) : Int)]) ⟨⟨[I 0, I p], []⟩, [[I many, I 1, I F, I (f (0 : Nat)), I (f (1 : Nat)), I (f (2 : Nat)), I (f (3 : Nat)), I (f (4 : Nat))], [I 0, I 0, I 0, I 0, I 0], [I 0, I 0, I 0, I 0, I 0, I 0, I 0, I 0]], []⟩ <|
R (0 : Nat) .normal ⟨⟨[I s, I size, I lim, I i, I lim2, I (IntKind.i64.wrap ((p : Int) + (1 : Int)))], []⟩, [[I many, I 1, I F, I (f (0 : Nat)), I (f (1 : Nat)), I (f (2 : Nat)), I (f (3 : Nat)), I (f (4 : Nat))]], []⟩)) ∧
(((↑(popN p) : Int) == (size : Int)) = false → R (0 : Nat) .normal ⟨⟨[I s, I size, I lim, I i, I lim2, I (IntKind.i64.wrap ((p : Int) + (1 : Int)))], []⟩, [[I many, I 1, I F, I (f (0 : Nat)), I (f (1 : Nat)), I (f (2 : Nat)), I (f (3 : Nat)), I (f (4 : Nat))]], []⟩)))) ∧
((bits BinOp.andNot IntKind.i64 (p : Int) (s : Int) == 0) = false → R (0 : Nat) .normal ⟨⟨[I s, I size, I lim, I i, I lim2, I (IntKind.i64.wrap ((p : Int) + (1 : Int)))], []⟩, [[I many, I 1, I F, I (f (0 : Nat)), I (f (1 : Nat)), I (f (2 : Nat)), I (f (3 : Nat)), I (f (4 : Nat))]], []⟩))) := by kernel_rfl
theorem d962t (s size i p many F : Nat) (f L2 : Nat → Int) (D2 : Nat → Nat) (lim lim2 : Int) (R : Nat → AExit → Hw → Prop) : (vx.code none (.l p96i) (leafW [T96id, R96] R) (T96id.inst (h96id s size (rcL many 2 F f) lim i lim2 p)) ((0, .val (.bool true)) :: [(6, .split ((2, .con (C101 p)) :: [(1, .split ((18, .conW (CW102 (rcL many 2 F f) p 0 (ints 5 fun _ => 0) (dsD fun _ => 0) true (ints 5 L2) (dsD D2))) :: [(33, .tm 1 [((25 : Nat), (31 : Nat))])]) ([(6, .tm 0 [])]))]) ([(7, .tm 0 [])]))])) =
((OT (decide ((p : Int) < lim2)) true) ∧
(((bits BinOp.andNot IntKind.i64 (p : Int) (s : Int) == 0) = true → (CA 101 (C101 p) ⟨⟨[I p], []⟩, []⟩ <|
((((↑(popN p) : Int) == (size : Int)) = true → (CW 102 (CW102 [Value.int .i64 many, Value.int .i64 2, Value.int .i64 F, Value.int .i64 (f 0), Value.int .i64 (f 1), Value.int .i64 (f 2), Value.int .i64 (f 3), Value.int .i64 (f 4)] p 0 [Value.int .i64 0, Value.int .i64 0, Value.int .i64 0, Value.int .i64 0, Value.int .i64 0] [Value.int .i64 (0 : Int), Value.int .i64 (0 : Int), Value.int .i64 (0 : Int), Value.int .i64 (0 : Int), Value.int .i64 (0 : Int), Value.int .i64 (0 : Int), Value.int .i64 (0 : Int), Value.int .i64 (0 : Int)] true [Value.int .i64 (L2 0), Value.int .i64 (L2 1), Value.int .i64 (L2 2), Value.int .i64 (L2 3), Value.int .i64 (L2 4)] [Value.int .i64 (↑(D2 0) : Int), Value.int .i64 (↑(D2 1) : Int), Value.int .i64 (↑(D2 2) : Int), Value.int .i64 (↑(D2 3) : Int), Value.int .i64 (↑(D2 4) : Int), Value.int .i64 (↑(D2 5) : Int), Value.int .i64 (↑(D2 6) : Int), Value.int .i64 (↑(D2 7) : Int)]) ⟨⟨[I 0, I p], []⟩, [[I many, I 2, I F, I (f (0 : Nat)), I (f (1 : Nat)), I (f (2 : Nat)), I (f (3 : Nat)), I (f (4 : Nat))], [I 0, I 0, I 0, I 0, I 0], [I 0, I 0, I 0, I 0, I 0, I 0, I 0, I 0]], []⟩ <|
R (1 : Nat) .ret ⟨⟨[I p, .bool true], [⟨(2 : Nat), (2 : Nat)⟩]⟩, [[I (L2 (0 : Nat)), I (L2 (1 : Nat))]], []⟩)) ∧
(((↑(popN p) : Int) == (size : Int)) = false → R (0 : Nat) .normal ⟨⟨[I s, I size, I lim, I i, I lim2, I (IntKind.i64.wrap ((p : Int) + (1 : Int)))], []⟩, [[I many, I 2, I F, I (f (0 : Nat)), I (f (1 : Nat)), I (f (2 : Nat)), I (f (3 : Nat)), I (f (4 : Nat))]], []⟩)))) ∧
((bits BinOp.andNot IntKind.i64 (p : Int) (s : Int) == 0) = false → R (0 : Nat) .normal ⟨⟨[I s, I size, I lim, I i, I lim2, I (IntKind.i64.wrap ((p : Int) + (1 : Int)))], []⟩, [[I many, I 2, I F, I (f (0 : Nat)), I (f (1 : Nat)), I (f (2 : Nat)), I (f (3 : Nat)), I (f (4 : Nat))]], []⟩))) := by kernel_rfl
theorem d962f (s size i p many F : Nat) (f L2 : Nat → Int) (D2 : Nat → Nat) (lim lim2 : Int) (R : Nat → AExit → Hw → Prop) : (vx.code none (.l p96i) (leafW [T96id, R96] R) (T96id.inst (h96id s size (rcL many 2 F f) lim i lim2 p)) ((0, .val (.bool true)) :: [(6, .split ((2, .con (C101 p)) :: [(1, .split ((18, .conW (CW102 (rcL many 2 F f) p 0 (ints 5 fun _ => 0) (dsD fun _ => 0) false (ints 5 L2) (dsD D2))) :: [(33, .tm 0 [])]) ([(6, .tm 0 [])]))]) ([(7, .tm 0 [])]))])) =
((OT (decide ((p : Int) < lim2)) true) ∧
(((bits BinOp.andNot IntKind.i64 (p : Int) (s : Int) == 0) = true → (CA 101 (C101 p) ⟨⟨[I p], []⟩, []⟩ <|
((((↑(popN p) : Int) == (size : Int)) = true → (CW 102 (CW102 [Value.int .i64 many, Value.int .i64 2, Value.int .i64 F, Value.int .i64 (f 0), Value.int .i64 (f 1), Value.int .i64 (f 2), Value.int .i64 (f 3), Value.int .i64 (f 4)] p 0 [Value.int .i64 0, Value.int .i64 0, Value.int .i64 0, Value.int .i64 0, Value.int .i64 0] [Value.int .i64 (0 : Int), Value.int .i64 (0 : Int), Value.int .i64 (0 : Int), Value.int .i64 (0 : Int), Value.int .i64 (0 : Int), Value.int .i64 (0 : Int), Value.int .i64 (0 : Int), Value.int .i64 (0 : Int)] false [Value.int .i64 (L2 0), Value.int .i64 (L2 1), Value.int .i64 (L2 2), Value.int .i64 (L2 3), Value.int .i64 (L2 4)] [Value.int .i64 (↑(D2 0) : Int), Value.int .i64 (↑(D2 1) : Int), Value.int .i64 (↑(D2 2) : Int), Value.int .i64 (↑(D2 3) : Int), Value.int .i64 (↑(D2 4) : Int), Value.int .i64 (↑(D2 5) : Int), Value.int .i64 (↑(D2 6) : Int), Value.int .i64 (↑(D2 7) : Int)]) ⟨⟨[I 0, I p], []⟩, [[I many, I 2, I F, I (f (0 : Nat)), I (f (1 : Nat)), I (f (2 : Nat)), I (f (3 : Nat)), I (f (4 : Nat))], [I 0, I 0, I 0, I 0, I 0], [I 0, I 0, I 0, I 0, I 0, I 0, I 0, I 0]], []⟩ <|
R (0 : Nat) .normal ⟨⟨[I s, I size, I lim, I i, I lim2, I (IntKind.i64.wrap ((p : Int) + (1 : Int)))], []⟩, [[I many, I 2, I F, I (f (0 : Nat)), I (f (1 : Nat)), I (f (2 : Nat)), I (f (3 : Nat)), I (f (4 : Nat))]], []⟩)) ∧
(((↑(popN p) : Int) == (size : Int)) = false → R (0 : Nat) .normal ⟨⟨[I s, I size, I lim, I i, I lim2, I (IntKind.i64.wrap ((p : Int) + (1 : Int)))], []⟩, [[I many, I 2, I F, I (f (0 : Nat)), I (f (1 : Nat)), I (f (2 : Nat)), I (f (3 : Nat)), I (f (4 : Nat))]], []⟩)))) ∧
((bits BinOp.andNot IntKind.i64 (p : Int) (s : Int) == 0) = false → R (0 : Nat) .normal ⟨⟨[I s, I size, I lim, I i, I lim2, I (IntKind.i64.wrap ((p : Int) + (1 : Int)))], []⟩, [[I many, I 2, I F, I (f (0 : Nat)), I (f (1 : Nat)), I (f (2 : Nat)), I (f (3 : Nat)), I (f (4 : Nat))]], []⟩))) := by kernel_rfl
theorem d963t (s size i p many F : Nat) (f L2 : Nat → Int) (D2 : Nat → Nat) (lim lim2 : Int) (R : Nat → AExit → Hw → Prop) : (vx.code none (.l p96i) (leafW [T96id, R96] R) (T96id.inst (h96id s size (rcL many 3 F f) lim i lim2 p)) ((0, .val (.bool true)) :: [(6, .split ((2, .con (C101 p)) :: [(1, .split ((18, .conW (CW102 (rcL many 3 F f) p 0 (ints 5 fun _ => 0) (dsD fun _ => 0) true (ints 5 L2) (dsD D2))) :: [(33, .tm 1 [((25 : Nat), (31 : Nat))])]) ([(6, .tm 0 [])]))]) ([(7, .tm 0 [])]))])) =
((OT (decide ((p : Int) < lim2)) true) ∧
(((bits BinOp.andNot IntKind.i64 (p : Int) (s : Int) == 0) = true → (CA 101 (C101 p) ⟨⟨[I p], []⟩, []⟩ <|
((((↑(popN p) : Int) == (size : Int)) = true → (CW 102 (CW102 [Value.int .i64 many, Value.int .i64 3, Value.int .i64 F, Value.int .i64 (f 0), Value.int .i64 (f 1), Value.int .i64 (f 2), Value.int .i64 (f 3), Value.int .i64 (f 4)] p 0 [Value.int .i64 0, Value.int .i64 0, Value.int .i64 0, Value.int .i64 0, Value.int .i64 0] [Value.int .i64 (0 : Int), Value.int .i64 (0 : Int), Value.int .i64 (0 : Int), Value.int .i64 (0 : Int), Value.int .i64 (0 : Int), Value.int .i64 (0 : Int), Value.int .i64 (0 : Int), Value.int .i64 (0 : Int)] true [Value.int .i64 (L2 0), Value.int .i64 (L2 1), Value.int .i64 (L2 2), Value.int .i64 (L2 3), Value.int .i64 (L2 4)] [Value.int .i64 (↑(D2 0) : Int), Value.int .i64 (↑(D2 1) : Int), Value.int .i64 (↑(D2 2) : Int), Value.int .i64 (↑(D2 3) : Int), Value.int .i64 (↑(D2 4) : Int), Value.int .i64 (↑(D2 5) : Int), Value.int .i64 (↑(D2 6) : Int), Value.int .i64 (↑(D2 7) : Int)]) ⟨⟨[I 0, I p], []⟩, [[I many, I 3, I F, I (f (0 : Nat)), I (f (1 : Nat)), I (f (2 : Nat)), I (f (3 : Nat)), I (f (4 : Nat))], [I 0, I 0, I 0, I 0, I 0], [I 0, I 0, I 0, I 0, I 0, I 0, I 0, I 0]], []⟩ <|
R (1 : Nat) .ret ⟨⟨[I p, .bool true], [⟨(3 : Nat), (3 : Nat)⟩]⟩, [[I (L2 (0 : Nat)), I (L2 (1 : Nat)), I (L2 (2 : Nat))]], []⟩)) ∧
(((↑(popN p) : Int) == (size : Int)) = false → R (0 : Nat) .normal ⟨⟨[I s, I size, I lim, I i, I lim2, I (IntKind.i64.wrap ((p : Int) + (1 : Int)))], []⟩, [[I many, I 3, I F, I (f (0 : Nat)), I (f (1 : Nat)), I (f (2 : Nat)), I (f (3 : Nat)), I (f (4 : Nat))]], []⟩)))) ∧
((bits BinOp.andNot IntKind.i64 (p : Int) (s : Int) == 0) = false → R (0 : Nat) .normal ⟨⟨[I s, I size, I lim, I i, I lim2, I (IntKind.i64.wrap ((p : Int) + (1 : Int)))], []⟩, [[I many, I 3, I F, I (f (0 : Nat)), I (f (1 : Nat)), I (f (2 : Nat)), I (f (3 : Nat)), I (f (4 : Nat))]], []⟩))) := by kernel_rfl
theorem d963f (s size i p many F : Nat) (f L2 : Nat → Int) (D2 : Nat → Nat) (lim lim2 : Int) (R : Nat → AExit → Hw → Prop) : (vx.code none (.l p96i) (leafW [T96id, R96] R) (T96id.inst (h96id s size (rcL many 3 F f) lim i lim2 p)) ((0, .val (.bool true)) :: [(6, .split ((2, .con (C101 p)) :: [(1, .split ((18, .conW (CW102 (rcL many 3 F f) p 0 (ints 5 fun _ => 0) (dsD fun _ => 0) false (ints 5 L2) (dsD D2))) :: [(33, .tm 0 [])]) ([(6, .tm 0 [])]))]) ([(7, .tm 0 [])]))])) =
((OT (decide ((p : Int) < lim2)) true) ∧
(((bits BinOp.andNot IntKind.i64 (p : Int) (s : Int) == 0) = true → (CA 101 (C101 p) ⟨⟨[I p], []⟩, []⟩ <|
((((↑(popN p) : Int) == (size : Int)) = true → (CW 102 (CW102 [Value.int .i64 many, Value.int .i64 3, Value.int .i64 F, Value.int .i64 (f 0), Value.int .i64 (f 1), Value.int .i64 (f 2), Value.int .i64 (f 3), Value.int .i64 (f 4)] p 0 [Value.int .i64 0, Value.int .i64 0, Value.int .i64 0, Value.int .i64 0, Value.int .i64 0] [Value.int .i64 (0 : Int), Value.int .i64 (0 : Int), Value.int .i64 (0 : Int), Value.int .i64 (0 : Int), Value.int .i64 (0 : Int), Value.int .i64 (0 : Int), Value.int .i64 (0 : Int), Value.int .i64 (0 : Int)] false [Value.int .i64 (L2 0), Value.int .i64 (L2 1), Value.int .i64 (L2 2), Value.int .i64 (L2 3), Value.int .i64 (L2 4)] [Value.int .i64 (↑(D2 0) : Int), Value.int .i64 (↑(D2 1) : Int), Value.int .i64 (↑(D2 2) : Int), Value.int .i64 (↑(D2 3) : Int), Value.int .i64 (↑(D2 4) : Int), Value.int .i64 (↑(D2 5) : Int), Value.int .i64 (↑(D2 6) : Int), Value.int .i64 (↑(D2 7) : Int)]) ⟨⟨[I 0, I p], []⟩, [[I many, I 3, I F, I (f (0 : Nat)), I (f (1 : Nat)), I (f (2 : Nat)), I (f (3 : Nat)), I (f (4 : Nat))], [I 0, I 0, I 0, I 0, I 0], [I 0, I 0, I 0, I 0, I 0, I 0, I 0, I 0]], []⟩ <|
R (0 : Nat) .normal ⟨⟨[I s, I size, I lim, I i, I lim2, I (IntKind.i64.wrap ((p : Int) + (1 : Int)))], []⟩, [[I many, I 3, I F, I (f (0 : Nat)), I (f (1 : Nat)), I (f (2 : Nat)), I (f (3 : Nat)), I (f (4 : Nat))]], []⟩)) ∧
(((↑(popN p) : Int) == (size : Int)) = false → R (0 : Nat) .normal ⟨⟨[I s, I size, I lim, I i, I lim2, I (IntKind.i64.wrap ((p : Int) + (1 : Int)))], []⟩, [[I many, I 3, I F, I (f (0 : Nat)), I (f (1 : Nat)), I (f (2 : Nat)), I (f (3 : Nat)), I (f (4 : Nat))]], []⟩)))) ∧
((bits BinOp.andNot IntKind.i64 (p : Int) (s : Int) == 0) = false → R (0 : Nat) .normal ⟨⟨[I s, I size, I lim, I i, I lim2, I (IntKind.i64.wrap ((p : Int) + (1 : Int)))], []⟩, [[I many, I 3, I F, I (f (0 : Nat)), I (f (1 : Nat)), I (f (2 : Nat)), I (f (3 : Nat)), I (f (4 : Nat))]], []⟩))) := by kernel_rfl
theorem d964t (s size i p many F : Nat) (f L2 : Nat → Int) (D2 : Nat → Nat) (lim lim2 : Int) (R : Nat → AExit → Hw → Prop) : (vx.code none (.l p96i) (leafW [T96id, R96] R) (T96id.inst (h96id s size (rcL many 4 F f) lim i lim2 p)) ((0, .val (.bool true)) :: [(6, .split ((2, .con (C101 p)) :: [(1, .split ((18, .conW (CW102 (rcL many 4 F f) p 0 (ints 5 fun _ => 0) (dsD fun _ => 0) true (ints 5 L2) (dsD D2))) :: [(33, .tm 1 [((25 : Nat), (31 : Nat))])]) ([(6, .tm 0 [])]))]) ([(7, .tm 0 [])]))])) =
((OT (decide ((p : Int) < lim2)) true) ∧
(((bits BinOp.andNot IntKind.i64 (p : Int) (s : Int) == 0) = true → (CA 101 (C101 p) ⟨⟨[I p], []⟩, []⟩ <|
((((↑(popN p) : Int) == (size : Int)) = true → (CW 102 (CW102 [Value.int .i64 many, Value.int .i64 4, Value.int .i64 F, Value.int .i64 (f 0), Value.int .i64 (f 1), Value.int .i64 (f 2), Value.int .i64 (f 3), Value.int .i64 (f 4)] p 0 [Value.int .i64 0, Value.int .i64 0, Value.int .i64 0, Value.int .i64 0, Value.int .i64 0] [Value.int .i64 (0 : Int), Value.int .i64 (0 : Int), Value.int .i64 (0 : Int), Value.int .i64 (0 : Int), Value.int .i64 (0 : Int), Value.int .i64 (0 : Int), Value.int .i64 (0 : Int), Value.int .i64 (0 : Int)] true [Value.int .i64 (L2 0), Value.int .i64 (L2 1), Value.int .i64 (L2 2), Value.int .i64 (L2 3), Value.int .i64 (L2 4)] [Value.int .i64 (↑(D2 0) : Int), Value.int .i64 (↑(D2 1) : Int), Value.int .i64 (↑(D2 2) : Int), Value.int .i64 (↑(D2 3) : Int), Value.int .i64 (↑(D2 4) : Int), Value.int .i64 (↑(D2 5) : Int), Value.int .i64 (↑(D2 6) : Int), Value.int .i64 (↑(D2 7) : Int)]) ⟨⟨[I 0, I p], []⟩, [[I many, I 4, I F, I (f (0 : Nat)), I (f (1 : Nat)), I (f (2 : Nat)), I (f (3 : Nat)), I (f (4 : Nat))], [I 0, I 0, I 0, I 0, I 0], [I 0, I 0, I 0, I 0, I 0, I 0, I 0, I 0]], []⟩ <|
R (1 : Nat) .ret ⟨⟨[I p, .bool true], [⟨(4 : Nat), (4 : Nat)⟩]⟩, [[I (L2 (0 : Nat)), I (L2 (1 : Nat)), I (L2 (2 : Nat)), I (L2 (3 : Nat))]], []⟩)) ∧
(((↑(popN p) : Int) == (size : Int)) = false → R (0 : Nat) .normal ⟨⟨[I s, I size, I lim, I i, I lim2, I (IntKind.i64.wrap ((p : Int) + (1 : Int)))], []⟩, [[I many, I 4, I F, I (f (0 : Nat)), I (f (1 : Nat)), I (f (2 : Nat)), I (f (3 : Nat)), I (f (4 : Nat))]], []⟩)))) ∧
((bits BinOp.andNot IntKind.i64 (p : Int) (s : Int) == 0) = false → R (0 : Nat) .normal ⟨⟨[I s, I size, I lim, I i, I lim2, I (IntKind.i64.wrap ((p : Int) + (1 : Int)))], []⟩, [[I many, I 4, I F, I (f (0 : Nat)), I (f (1 : Nat)), I (f (2 : Nat)), I (f (3 : Nat)), I (f (4 : Nat))]], []⟩))) := by kernel_rfl
theorem d964f (s size i p many F : Nat) (f L2 : Nat → Int) (D2 : Nat → Nat) (lim lim2 : Int) (R : Nat → AExit → Hw → Prop) : (vx.code none (.l p96i) (leafW [T96id, R96] R) (T96id.inst (h96id s size (rcL many 4 F f) lim i lim2 p)) ((0, .val (.bool true)) :: [(6, .split ((2, .con (C101 p)) :: [(1, .split ((18, .conW (CW102 (rcL many 4 F f) p 0 (ints 5 fun _ => 0) (dsD fun _ => 0) false (ints 5 L2) (dsD D2))) :: [(33, .tm 0 [])]) ([(6, .tm 0 [])]))]) ([(7, .tm 0 [])]))])) =
((OT (decide ((p : Int) < lim2)) true) ∧
(((bits BinOp.andNot IntKind.i64 (p : Int) (s : Int) == 0) = true → (CA 101 (C101 p) ⟨⟨[I p], []⟩, []⟩ <|
((((↑(popN p) : Int) == (size : Int)) = true → (CW 102 (CW102 [Value.int .i64 many, Value.int .i64 4, Value.int .i64 F, Value.int .i64 (f 0), Value.int .i64 (f 1), Value.int .i64 (f 2), Value.int .i64 (f 3), Value.int .i64 (f 4)] p 0 [Value.int .i64 0, Value.int .i64 0, Value.int .i64 0, Value.int .i64 0, Value.int .i64 0] [Value.int .i64 (0 : Int), Value.int .i64 (0 : Int), Value.int .i64 (0 : Int), Value.int .i64 (0 : Int), Value.int .i64 (0 : Int), Value.int .i64 (0 : Int), Value.int .i64 (0 : Int), Value.int .i64 (0 : Int)] false [Value.int .i64 (L2 0), Value.int .i64 (L2 1), Value.int .i64 (L2 2), Value.int .i64 (L2 3), Value.int .i64 (L2 4)] [Value.int .i64 (↑(D2 0) : Int), Value.int .i64 (↑(D2 1) : Int), Value.int .i64 (↑(D2 2) : Int), Value.int .i64 (↑(D2 3) : Int), Value.int .i64 (↑(D2 4) : Int), Value.int .i64 (↑(D2 5) : Int), Value.int .i64 (↑(D2 6) : Int), Value.int .i64 (↑(D2 7) : Int)]) ⟨⟨[I 0, I p], []⟩, [[I many, I 4, I F, I (f (0 : Nat)), I (f (1 : Nat)), I (f (2 : Nat)), I (f (3 : Nat)), I (f (4 : Nat))], [I 0, I 0, I 0, I 0, I 0], [I 0, I 0, I 0, I 0, I 0, I 0, I 0, I 0]], []⟩ <|
R (0 : Nat) .normal ⟨⟨[I s, I size, I lim, I i, I lim2, I (IntKind.i64.wrap ((p : Int) + (1 : Int)))], []⟩, [[I many, I 4, I F, I (f (0 : Nat)), I (f (1 : Nat)), I (f (2 : Nat)), I (f (3 : Nat)), I (f (4 : Nat))]], []⟩)) ∧
(((↑(popN p) : Int) == (size : Int)) = false → R (0 : Nat) .normal ⟨⟨[I s, I size, I lim, I i, I lim2, I (IntKind.i64.wrap ((p : Int) + (1 : Int)))], []⟩, [[I many, I 4, I F, I (f (0 : Nat)), I (f (1 : Nat)), I (f (2 : Nat)), I (f (3 : Nat)), I (f (4 : Nat))]], []⟩)))) ∧
((bits BinOp.andNot IntKind.i64 (p : Int) (s : Int) == 0) = false → R (0 : Nat) .normal ⟨⟨[I s, I size, I lim, I i, I lim2, I (IntKind.i64.wrap ((p : Int) + (1 : Int)))], []⟩, [[I many, I 4, I F, I (f (0 : Nat)), I (f (1 : Nat)), I (f (2 : Nat)), I (f (3 : Nat)), I (f (4 : Nat))]], []⟩))) := by kernel_rfl
theorem d965t (s size i p many F : Nat) (f L2 : Nat → Int) (D2 : Nat → Nat) (lim lim2 : Int) (R : Nat → AExit → Hw → Prop) : (vx.code none (.l p96i) (leafW [T96id, R96] R) (T96id.inst (h96id s size (rcL many 5 F f) lim i lim2 p)) ((0, .val (.bool true)) :: [(6, .split ((2, .con (C101 p)) :: [(1, .split ((18, .conW (CW102 (rcL many 5 F f) p 0 (ints 5 fun _ => 0) (dsD fun _ => 0) true (ints 5 L2) (dsD D2))) :: [(33, .tm 1 [((25 : Nat), (31 : Nat))])]) ([(6, .tm 0 [])]))]) ([(7, .tm 0 [])]))])) =
((OT (decide ((p : Int) < lim2)) true) ∧
(((bits BinOp.andNot IntKind.i64 (p : Int) (s : Int) == 0) = true → (CA 101 (C101 p) ⟨⟨[I p], []⟩, []⟩ <|
((((↑(popN p) : Int) == (size : Int)) = true → (CW 102 (CW102 [Value.int .i64 many, Value.int .i64 5, Value.int .i64 F, Value.int .i64 (f 0), Value.int .i64 (f 1), Value.int .i64 (f 2), Value.int .i64 (f 3), Value.int .i64 (f 4)] p 0 [Value.int .i64 0, Value.int .i64 0, Value.int .i64 0, Value.int .i64 0, Value.int .i64 0] [Value.int .i64 (0 : Int), Value.int .i64 (0 : Int), Value.int .i64 (0 : Int), Value.int .i64 (0 : Int), Value.int .i64 (0 : Int), Value.int .i64 (0 : Int), Value.int .i64 (0 : Int), Value.int .i64 (0 : Int)] true [Value.int .i64 (L2 0), Value.int .i64 (L2 1), Value.int .i64 (L2 2), Value.int .i64 (L2 3), Value.int .i64 (L2 4)] [Value.int .i64 (↑(D2 0) : Int), Value.int .i64 (↑(D2 1) : Int), Value.int .i64 (↑(D2 2) : Int), Value.int .i64 (↑(D2 3) : Int), Value.int .i64 (↑(D2 4) : Int), Value.int .i64 (↑(D2 5) : Int), Value.int .i64 (↑(D2 6) : Int), Value.int .i64 (↑(D2 7) : Int)]) ⟨⟨[I 0, I p], []⟩, [[I many, I 5, I F, I (f (0 : Nat)), I (f (1 : Nat)), I (f (2 : Nat)), I (f (3 : Nat)), I (f (4 : Nat))], [I 0, I 0, I 0, I 0, I 0], [I 0, I 0, I 0, I 0, I 0, I 0, I 0, I 0]], []⟩ <|
R (1 : Nat) .ret ⟨⟨[I p, .bool true], [⟨(5 : Nat), (5 : Nat)⟩]⟩, [[I (L2 (0 : Nat)), I (L2 (1 : Nat)), I (L2 (2 : Nat)), I (L2 (3 : Nat)), I (L2 (4 : Nat))]], []⟩)) ∧
(((↑(popN p) : Int) == (size : Int)) = false → R (0 : Nat) .normal ⟨⟨[I s, I size, I lim, I i, I lim2, I (IntKind.i64.wrap ((p : Int) + (1 : Int)))], []⟩, [[I many, I 5, I F, I (f (0 : Nat)), I (f (1 : Nat)), I (f (2 : Nat)), I (f (3 : Nat)), I (f (4 : Nat))]], []⟩)))) ∧
((bits BinOp.andNot IntKind.i64 (p : Int) (s : Int) == 0) = false → R (0 : Nat) .normal ⟨⟨[I s, I size, I lim, I i, I lim2, I (IntKind.i64.wrap ((p : Int) + (1 : Int)))], []⟩, [[I many, I 5, I F, I (f (0 : Nat)), I (f (1 : Nat)), I (f (2 : Nat)), I (f (3 : Nat)), I (f (4 : Nat))]], []⟩))) := by kernel_rfl
theorem d965f (s size i p many F : Nat) (f L2 : Nat → Int) (D2 : Nat → Nat) (lim lim2 : Int) (R : Nat → AExit → Hw → Prop) : (vx.code none (.l p96i) (leafW [T96id, R96] R) (T96id.inst (h96id s size (rcL many 5 F f) lim i lim2 p)) ((0, .val (.bool true)) :: [(6, .split ((2, .con (C101 p)) :: [(1, .split ((18, .conW (CW102 (rcL many 5 F f) p 0 (ints 5 fun _ => 0) (dsD fun _ => 0) false (ints 5 L2) (dsD D2))) :: [(33, .tm 0 [])]) ([(6, .tm 0 [])]))]) ([(7, .tm 0 [])]))])) =
((OT (decide ((p : Int) < lim2)) true) ∧
(((bits BinOp.andNot IntKind.i64 (p : Int) (s : Int) == 0) = true → (CA 101 (C101 p) ⟨⟨[I p], []⟩, []⟩ <|
((((↑(popN p) : Int) == (size : Int)) = true → (CW 102 (CW102 [Value.int .i64 many, Value.int .i64 5, Value.int .i64 F, Value.int .i64 (f 0), Value.int .i64 (f 1), Value.int .i64 (f 2), Value.int .i64 (f 3), Value.int .i64 (f 4)] p 0 [Value.int .i64 0, Value.int .i64 0, Value.int .i64 0, Value.int .i64 0, Value.int .i64 0] [Value.int .i64 (0 : Int), Value.int .i64 (0 : Int), Value.int .i64 (0 : Int), Value.int .i64 (0 : Int), Value.int .i64 (0 : Int), Value.int .i64 (0 : Int), Value.int .i64 (0 : Int), Value.int .i64 (0 : Int)] false [Value.int .i64 (L2 0), Value.int .i64 (L2 1), Value.int .i64 (L2 2), Value.int .i64 (L2 3), Value.int .i64 (L2 4)] [Value.int .i64 (↑(D2 0) : Int), Value.int .i64 (↑(D2 1) : Int), Value.int .i64 (↑(D2 2) : Int), Value.int .i64 (↑(D2 3) : Int), Value.int .i64 (↑(D2 4) : Int), Value.int .i64 (↑(D2 5) : Int), Value.int .i64 (↑(D2 6) : Int), Value.int .i64 (↑(D2 7) : Int)]) ⟨⟨[I 0, I p], []⟩, [[I many, I 5, I F, I (f (0 : Nat)), I (f (1 : Nat)), I (f (2 : Nat)), I (f (3 : Nat)), I (f (4 : Nat))], [I 0, I 0, I 0, I 0, I 0], [I 0, I 0, I 0, I 0, I 0, I 0, I 0, I 0]], []⟩ <|
R (0 : Nat) .normal ⟨⟨[I s, I size, I lim, I i, I lim2, I (IntKind.i64.wrap ((p : Int) + (1 : Int)))], []⟩, [[I many, I 5, I F, I (f (0 : Nat)), I (f (1 : Nat)), I (f (2 : Nat)), I (f (3 : Nat)), I (f (4 : Nat))]], []⟩)) ∧
(((↑(popN p) : Int) == (size : Int)) = false → R (0 : Nat) .normal ⟨⟨[I s, I size, I lim, I i, I lim2, I (IntKind.i64.wrap ((p : Int) + (1 : Int)))], []⟩, [[I many, I 5, I F, I (f (0 : Nat)), I (f (1 : Nat)), I (f (2 : Nat)), I (f (3 : Nat)), I (f (4 : Nat))]], []⟩)))) ∧
((bits BinOp.andNot IntKind.i64 (p : Int) (s : Int) == 0) = false → R (0 : Nat) .normal ⟨⟨[I s, I size, I lim, I i, I lim2, I (IntKind.i64.wrap ((p : Int) + (1 : Int)))], []⟩, [[I many, I 5, I F, I (f (0 : Nat)), I (f (1 : Nat)), I (f (2 : Nat)), I (f (3 : Nat)), I (f (4 : Nat))]], []⟩))) := by kernel_rfl
theorem d96x (s size i p many m F : Nat) (f : Nat → Int) (lim lim2 : Int) (R : Nat → AExit → Hw → Prop) : (vx.code none (.l p96i) (leafW [T96id, R96] R) (T96id.inst (h96id s size (rcL many m F f) lim i lim2 p)) ((0, .val (.bool false)) :: [(1, .tm 0 [])])) =
((OT (decide ((p : Int) < lim2)) false) ∧
R (0 : Nat) (.exit 2) ⟨⟨[I s, I size, I lim, I i, I lim2, I p], []⟩, [[I many, I m, I F, I (f (0 : Nat)), I (f (1 : Nat)), I (f (2 : Nat)), I (f (3 : Nat)), I (f (4 : Nat))]], []⟩) := by kernel_rfl
section
variable {many m F : Nat} {lim : Nat → Nat}
noncomputable def hId (m : Nat) (many F : Nat) (lim : Nat → Nat) (i p : Nat) : Hw := h96id F i (rcL many m F fun i => (lim i : Nat)) ((popN F : Int) + 1) i ((F : Int) + 1) p
noncomputable def outId (m : Nat) (many F : Nat) (lim : Nat → Nat) (i : Nat) (x : Option Nat) : AExit × Nat × Hw := match x with
 | some q => (.ret, 1, r96 m q (drwG many m F lim q).2.L)
 | none => (.exit 2, 0, hId m many F lim i (F + 1))
theorem clId (i p : Nat) : ClW (hId m many F lim i p) := by
 refine ⟨fun cs hc => ?_, fun e hc => (by cases hc)⟩
 simp only [hId, h96id, List.mem_singleton] at hc
 subst hc
 exact rl5_at
theorem round96d (hm5 : m ≤ 5) (hmany : many ≤ 5) (hlim : ∀ i, i < m → lim i < 8) (hF : F < 32) {i p : Nat} (hp : p < F + 1) {R : Nat → AExit → Hw → Prop}
    (h1 : okP many m F lim i p = false → R 0 .normal (hId m many F lim i (p + 1)))
    (h2 : okP many m F lim i p = true → R 1 .ret (r96 m p (drwG many m F lim p).2.L)) :
    ∃ hs, vx.code none (.l p96i) (leafW [T96id, R96] R) (T96id.inst (hId m many F lim i p)) hs := by
 have hw := wrS (i := p) (by omega)
 have c101 := C101_ok (s := p) (by omega)
 have hsub := sub_eq (x := p) (y := F) (by omega) hF
 have hC : (bits BinOp.andNot IntKind.i64 (p : Int) (F : Int) == (0 : Int)) = true → ConWOK Tryd.prog 102 (C102 many m F p lim 0 ds0 (drwG many m F lim p)) := fun h => by
  rw [hsub] at h
  have h := of_decide_eq_true h
  exact C102_ok hm5 hmany hlim (by omega) (by omega) (fun j hj => by
   have : (p &&& F).testBit j = true := by rw [h]; exact hj
   rw [Nat.testBit_and, Bool.and_eq_true] at this
   exact this.2) (m + 1) 0 ds0 (Nat.zero_le _) (by omega) (fun h => Nat.le_refl _)
 have n1 : (bits BinOp.andNot IntKind.i64 (p : Int) (F : Int) == (0 : Int)) = false → okP many m F lim i p = false := fun h => by
  rw [hsub] at h
  unfold okP; rw [h]; rfl
 have n2 : (((popN p : Nat) : Int) == ((i : Nat) : Int)) = false → okP many m F lim i p = false := fun h => by
  have h : ¬ popN p = i := fun e => by rw [e] at h; simp at h
  unfold okP; rw [decide_eq_false h]; simp
 have y1 : (bits BinOp.andNot IntKind.i64 (p : Int) (F : Int) == (0 : Int)) = true → (((popN p : Nat) : Int) == ((i : Nat) : Int)) = true → okP many m F lim i p = (drwG many m F lim p).1 := fun h h' => by
  rw [hsub] at h
  have h' : popN p = i := by
   have : ((popN p : Nat) : Int) = i := by simpa using h'
   omega
  unfold okP; rw [h, decide_eq_true h']; rfl
 unfold hId h96id at h1
 rw [← hw] at h1
 generalize drwG many m F lim p = g at *
 obtain ⟨b, σ⟩ := g
 obtain rfl | rfl | rfl | rfl | rfl | rfl : m = 0 ∨ m = 1 ∨ m = 2 ∨ m = 3 ∨ m = 4 ∨ m = 5 := by omega
 · cases b with
   | true => exact ⟨_, (d960t F i i p many F (fun i => (lim i : Nat)) σ.L σ.D ((popN F : Int) + 1) ((F : Int) + 1) R).mpr ⟨tt (decide_eq_true (by omega)), fun h => ⟨c101, rfl, fun h' => ⟨hC h, rfl, h2 (y1 h h')⟩, fun h' => h1 (n2 h')⟩, fun h => h1 (n1 h)⟩⟩
   | false => exact ⟨_, (d960f F i i p many F (fun i => (lim i : Nat)) σ.L σ.D ((popN F : Int) + 1) ((F : Int) + 1) R).mpr ⟨tt (decide_eq_true (by omega)), fun h => ⟨c101, rfl, fun h' => ⟨hC h, rfl, h1 (y1 h h')⟩, fun h' => h1 (n2 h')⟩, fun h => h1 (n1 h)⟩⟩
 · cases b with
   | true => exact ⟨_, (d961t F i i p many F (fun i => (lim i : Nat)) σ.L σ.D ((popN F : Int) + 1) ((F : Int) + 1) R).mpr ⟨tt (decide_eq_true (by omega)), fun h => ⟨c101, rfl, fun h' => ⟨hC h, rfl, h2 (y1 h h')⟩, fun h' => h1 (n2 h')⟩, fun h => h1 (n1 h)⟩⟩
   | false => exact ⟨_, (d961f F i i p many F (fun i => (lim i : Nat)) σ.L σ.D ((popN F : Int) + 1) ((F : Int) + 1) R).mpr ⟨tt (decide_eq_true (by omega)), fun h => ⟨c101, rfl, fun h' => ⟨hC h, rfl, h1 (y1 h h')⟩, fun h' => h1 (n2 h')⟩, fun h => h1 (n1 h)⟩⟩
 · cases b with
   | true => exact ⟨_, (d962t F i i p many F (fun i => (lim i : Nat)) σ.L σ.D ((popN F : Int) + 1) ((F : Int) + 1) R).mpr ⟨tt (decide_eq_true (by omega)), fun h => ⟨c101, rfl, fun h' => ⟨hC h, rfl, h2 (y1 h h')⟩, fun h' => h1 (n2 h')⟩, fun h => h1 (n1 h)⟩⟩
   | false => exact ⟨_, (d962f F i i p many F (fun i => (lim i : Nat)) σ.L σ.D ((popN F : Int) + 1) ((F : Int) + 1) R).mpr ⟨tt (decide_eq_true (by omega)), fun h => ⟨c101, rfl, fun h' => ⟨hC h, rfl, h1 (y1 h h')⟩, fun h' => h1 (n2 h')⟩, fun h => h1 (n1 h)⟩⟩
 · cases b with
   | true => exact ⟨_, (d963t F i i p many F (fun i => (lim i : Nat)) σ.L σ.D ((popN F : Int) + 1) ((F : Int) + 1) R).mpr ⟨tt (decide_eq_true (by omega)), fun h => ⟨c101, rfl, fun h' => ⟨hC h, rfl, h2 (y1 h h')⟩, fun h' => h1 (n2 h')⟩, fun h => h1 (n1 h)⟩⟩
   | false => exact ⟨_, (d963f F i i p many F (fun i => (lim i : Nat)) σ.L σ.D ((popN F : Int) + 1) ((F : Int) + 1) R).mpr ⟨tt (decide_eq_true (by omega)), fun h => ⟨c101, rfl, fun h' => ⟨hC h, rfl, h1 (y1 h h')⟩, fun h' => h1 (n2 h')⟩, fun h => h1 (n1 h)⟩⟩
 · cases b with
   | true => exact ⟨_, (d964t F i i p many F (fun i => (lim i : Nat)) σ.L σ.D ((popN F : Int) + 1) ((F : Int) + 1) R).mpr ⟨tt (decide_eq_true (by omega)), fun h => ⟨c101, rfl, fun h' => ⟨hC h, rfl, h2 (y1 h h')⟩, fun h' => h1 (n2 h')⟩, fun h => h1 (n1 h)⟩⟩
   | false => exact ⟨_, (d964f F i i p many F (fun i => (lim i : Nat)) σ.L σ.D ((popN F : Int) + 1) ((F : Int) + 1) R).mpr ⟨tt (decide_eq_true (by omega)), fun h => ⟨c101, rfl, fun h' => ⟨hC h, rfl, h1 (y1 h h')⟩, fun h' => h1 (n2 h')⟩, fun h => h1 (n1 h)⟩⟩
 · cases b with
   | true => exact ⟨_, (d965t F i i p many F (fun i => (lim i : Nat)) σ.L σ.D ((popN F : Int) + 1) ((F : Int) + 1) R).mpr ⟨tt (decide_eq_true (by omega)), fun h => ⟨c101, rfl, fun h' => ⟨hC h, rfl, h2 (y1 h h')⟩, fun h' => h1 (n2 h')⟩, fun h => h1 (n1 h)⟩⟩
   | false => exact ⟨_, (d965f F i i p many F (fun i => (lim i : Nat)) σ.L σ.D ((popN F : Int) + 1) ((F : Int) + 1) R).mpr ⟨tt (decide_eq_true (by omega)), fun h => ⟨c101, rfl, fun h' => ⟨hC h, rfl, h1 (y1 h h')⟩, fun h' => h1 (n2 h')⟩, fun h => h1 (n1 h)⟩⟩
theorem loop96id (hm5 : m ≤ 5) (hmany : many ≤ 5) (hlim : ∀ i, i < m → lim i < 8) (hF : F < 32) {i : Nat} {T' : Tw} (hT' : [T96id, R96][(outId m many F lim i (seekP (okP many m F lim i) (F + 1) 0)).2.1]? = some T') :
    LoopOW Tryd.prog none p96i T96id (hId m many F lim i 0) (outId m many F lim i (seekP (okP many m F lim i) (F + 1) 0)).1 T' (outId m many F lim i (seekP (okP many m F lim i) (F + 1) 0)).2.2 := by
 refine loop_vcW (Ts := [T96id, R96]) (k := 25) (X := Nat) (inv := fun p => p ≤ F + 1) (μ := fun p => F + 1 - p) (st := fun p => (0, hId m many F lim i p))
  (out := fun p => outId m many F lim i (seekP (okP many m F lim i) (F + 1 - p) p)) rfl vx_sound ?_ (by rw [nglob]; omega) (fun p hp => ?_) (x := 0) (Nat.zero_le _) rfl (Nat.le_of_ble_eq_true rfl) (by decide) hT'
 · intro T hT
   simp only [List.mem_cons, List.not_mem_nil, or_false] at hT
   rcases hT with rfl | rfl <;> rfl
 · have hp : p ≤ F + 1 := hp
   by_cases hlt : p < F + 1
   · have e1 : F + 1 - p = (F + 1 - (p + 1)) + 1 := by omega
     obtain ⟨hs, hr⟩ := round96d hm5 hmany hlim hF (i := i) hlt (R := RoundW (fun p : Nat => p ≤ F + 1) (fun p => F + 1 - p) (fun p => (0, hId m many F lim i p)) (fun p => outId m many F lim i (seekP (okP many m F lim i) (F + 1 - p) p)) p)
      (fun hf => ⟨⟨clId i _, trivial⟩, .inl ⟨rfl, p + 1, hlt, by show F + 1 - (p + 1) < F + 1 - p; omega, rfl, by
       show outId m many F lim i (seekP (okP many m F lim i) (F + 1 - (p + 1)) (p + 1)) = outId m many F lim i (seekP (okP many m F lim i) (F + 1 - p) p)
       rw [e1]; simp only [seekP]; rw [if_neg (by rw [hf]; simp)]⟩⟩)
      (fun hf => ⟨⟨clR96 _ _, trivial⟩, .inr ⟨by simp, by
       show outId m many F lim i (seekP (okP many m F lim i) (F + 1 - p) p) = _
       rw [e1]; simp only [seekP]; rw [if_pos hf]; rfl⟩⟩)
     exact ⟨T96id, hs, rfl, hr⟩
   · obtain rfl : p = F + 1 := by omega
     refine ⟨T96id, _, rfl, (d96x F i i (F + 1) many m F (fun i => (lim i : Nat)) ((popN F : Int) + 1) ((F : Int) + 1) _).mpr ⟨tf (decide_eq_false (by omega)), ?_⟩⟩
     refine ⟨⟨clId i _, trivial⟩, .inr ⟨by simp, ?_⟩⟩
     show outId m many F lim i (seekP (okP many m F lim i) (F + 1 - (F + 1)) (F + 1)) = _
     rw [Nat.sub_self]
     rfl
end
end Go.Ab
set_option maxRecDepth 100000
namespace Go.Ab
open Go Go.RowKit Go.Proofs
theorem d96on (s many m F i : Nat) (f : Nat → Int) (lim : Int) (R : Nat → AExit → Hw → Prop) : (vx.code none (.l p96o) (leafW [T96od, R96] R) (T96od.inst (h96od s (rcL many m F f) lim i)) ([(0, .split ((6, .loopW T96id (.exit 2) T96id fun _ => h96id s i (rcL (many : Int) (m : Int) (F : Int) f) lim i ((s : Int) + (1 : Int)) (s + (1 : Nat))) :: [(2, .tm 0 [])]) ([(1, .tm 0 [])]))])) =
(((decide ((i : Int) < lim)) = true → (LW p96i T96id ⟨⟨[I s, I i, I lim, I i, I (IntKind.i64.wrap ((s : Int) + (1 : Int))), I 0], []⟩, [[I many, I m, I F, I (f (0 : Nat)), I (f (1 : Nat)), I (f (2 : Nat)), I (f (3 : Nat)), I (f (4 : Nat))]], []⟩ (.exit 2) T96id (h96id s i (rcL (many : Int) (m : Int) (F : Int) f) lim i ((s : Int) + (1 : Int)) (s + (1 : Nat))) <|
R (0 : Nat) .normal ⟨⟨[I s, I lim, I (IntKind.i64.wrap ((i : Int) + (1 : Int)))], []⟩, [[I many, I m, I F, I (f (0 : Nat)), I (f (1 : Nat)), I (f (2 : Nat)), I (f (3 : Nat)), I (f (4 : Nat))]], []⟩)) ∧
((decide ((i : Int) < lim)) = false → R (0 : Nat) (.exit 0) ⟨⟨[I s, I lim, I i], []⟩, [[I many, I m, I F, I (f (0 : Nat)), I (f (1 : Nat)), I (f (2 : Nat)), I (f (3 : Nat)), I (f (4 : Nat))]], []⟩)) := by kernel_rfl
theorem d96ot (s many m F i left : Nat) (f L : Nat → Int) (lim : Int) (R : Nat → AExit → Hw → Prop) : (vx.code none (.l p96o) (leafW [T96od, R96] R) (T96od.inst (h96od s (rcL many m F f) lim i)) ([(0, .split ((6, .loopW T96id AExit.ret R96 fun _ => r96 m left L) :: [(0, .tm 1 [((25 : Nat), (25 : Nat))])]) ([(1, .tm 0 [])]))])) =
(((decide ((i : Int) < lim)) = true → (LW p96i T96id ⟨⟨[I s, I i, I lim, I i, I (IntKind.i64.wrap ((s : Int) + (1 : Int))), I 0], []⟩, [[I many, I m, I F, I (f (0 : Nat)), I (f (1 : Nat)), I (f (2 : Nat)), I (f (3 : Nat)), I (f (4 : Nat))]], []⟩ .ret R96 ⟨⟨[I left, .bool true], [⟨m, m⟩]⟩, [ints m L], []⟩ <|
R (1 : Nat) .ret ⟨⟨[I left, .bool true], [⟨m, m⟩]⟩, [ints m L], []⟩)) ∧
((decide ((i : Int) < lim)) = false → R (0 : Nat) (.exit 0) ⟨⟨[I s, I lim, I i], []⟩, [[I many, I m, I F, I (f (0 : Nat)), I (f (1 : Nat)), I (f (2 : Nat)), I (f (3 : Nat)), I (f (4 : Nat))]], []⟩)) := by kernel_rfl
section
variable {many m F : Nat} {lim : Nat → Nat}
noncomputable def hOd (m : Nat) (many F : Nat) (lim : Nat → Nat) (i : Nat) : Hw := h96od F (rcL many m F fun i => (lim i : Nat)) ((popN F : Int) + 1) i
noncomputable def outSd (m : Nat) (many F : Nat) (lim : Nat → Nat) (x : Option Nat) : AExit × Nat × Hw := match x with
 | some q => (.ret, 1, r96 m q (drwG many m F lim q).2.L)
 | none => (.exit 0, 0, hOd m many F lim (popN F + 1))
theorem clOd (i : Nat) : ClW (hOd m many F lim i) := by
 refine ⟨fun cs hc => ?_, fun e hc => (by cases hc)⟩
 simp only [hOd, h96od, List.mem_singleton] at hc
 subst hc
 exact rl5_at
theorem loop96od (hm5 : m ≤ 5) (hmany : many ≤ 5) (hlim : ∀ i, i < m → lim i < 8) (hF : F < 32) {T' : Tw} (hT' : [T96od, R96][(outSd m many F lim (seekS (okP many m F lim) F (popN F + 1) 0)).2.1]? = some T') :
    LoopOW Tryd.prog none p96o T96od (hOd m many F lim 0) (outSd m many F lim (seekS (okP many m F lim) F (popN F + 1) 0)).1 T' (outSd m many F lim (seekS (okP many m F lim) F (popN F + 1) 0)).2.2 := by
 have hp8 : popN F ≤ 8 := popN_le
 refine loop_vcW (Ts := [T96od, R96]) (k := 25) (X := Nat) (inv := fun i => i ≤ popN F + 1) (μ := fun i => popN F + 1 - i) (st := fun i => (0, hOd m many F lim i))
  (out := fun i => outSd m many F lim (seekS (okP many m F lim) F (popN F + 1 - i) i)) rfl vx_sound ?_ (by rw [nglob]; omega) (fun i hi => ?_) (x := 0) (Nat.zero_le _) rfl (Nat.le_of_ble_eq_true rfl) (by decide) hT'
 · intro T hT
   simp only [List.mem_cons, List.not_mem_nil, or_false] at hT
   rcases hT with rfl | rfl <;> rfl
 · have hi : i ≤ popN F + 1 := hi
   have hwF : IntKind.i64.wrap ((F : Int) + 1) = (F : Int) + 1 := wrapI (by omega) (by omega)
   by_cases hlt : i < popN F + 1
   · have hw := wrS (i := i) (by omega)
     have e1 : popN F + 1 - i = (popN F + 1 - (i + 1)) + 1 := by omega
     have hl := fun T' => loop96id (T' := T') hm5 hmany hlim hF (i := i)
     cases hs : seekP (okP many m F lim i) (F + 1) 0 with
     | none =>
      rw [hs] at hl
      refine ⟨T96od, _, rfl, (d96on F many m F i (fun i => (lim i : Nat)) ((popN F : Int) + 1) _).mpr ⟨fun _ => ?_, fun h => absurd (by omega) (of_decide_eq_false h)⟩⟩
      rw [hwF, hw]
      refine ⟨clId i 0, hl T96id rfl, ⟨clOd (i + 1), trivial⟩, .inl ⟨rfl, i + 1, hlt, by show popN F + 1 - (i + 1) < popN F + 1 - i; omega, rfl, ?_⟩⟩
      show outSd m many F lim (seekS (okP many m F lim) F (popN F + 1 - (i + 1)) (i + 1)) = outSd m many F lim (seekS (okP many m F lim) F (popN F + 1 - i) i)
      rw [e1]; simp only [seekS, hs]
     | some q =>
      rw [hs] at hl
      refine ⟨T96od, _, rfl, (d96ot F many m F i q (fun i => (lim i : Nat)) (drwG many m F lim q).2.L ((popN F : Int) + 1) _).mpr ⟨fun _ => ?_, fun h => absurd (by omega) (of_decide_eq_false h)⟩⟩
      rw [hwF]
      refine ⟨clId i 0, hl R96 rfl, ⟨clR96 _ _, trivial⟩, .inr ⟨by simp, ?_⟩⟩
      show outSd m many F lim (seekS (okP many m F lim) F (popN F + 1 - i) i) = _
      rw [e1]; simp only [seekS, hs]; rfl
   · obtain rfl : i = popN F + 1 := by omega
     refine ⟨T96od, _, rfl, (d96on F many m F (popN F + 1) (fun i => (lim i : Nat)) ((popN F : Int) + 1) _).mpr ⟨fun h => absurd (of_decide_eq_true h) (by omega), fun _ => ?_⟩⟩
     refine ⟨⟨clOd _, trivial⟩, .inr ⟨by simp, ?_⟩⟩
     show outSd m many F lim (seekS (okP many m F lim) F (popN F + 1 - (popN F + 1)) (popN F + 1)) = _
     rw [Nat.sub_self]
     rfl
end
end Go.Ab
