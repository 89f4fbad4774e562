/- the law HorseTurned: its loops. -/
import Derived.Test.YtamfplmmfbbabaaVG
import Derived.Test.YtamfplmmfbbabaaVP
import Derived.Test.YtamfplmmfbbabaaVN
set_option maxRecDepth 100000
namespace Go.Ab
open Go Go.RowKit Go.Proofs
theorem b32 (n c d i : Nat) (o : Nat → Int) (R : Nat → AExit → Hw → Prop) : (vx.code none (.l p32) (leafW [T32] R) (T32.inst (h32 n c d o i)) ([(3, .split ((3, .val (.pointer (.some ⟨((0 : Nat)), ((0 : Nat) + i * (1 : Nat)), .none⟩))) :: (0, .val (.int .i64 (o i))) :: (2, .val (.pointer (.some ⟨((1 : Nat)), ((0 : Nat) + i * (1 : Nat)), .none⟩))) :: (0, .val (.int .i64 (o i))) :: [(0, .split ([(2, .tm 0 [])]) ([(4, .tm 0 [])]))]) ([(1, .tm 0 [])]))])) =
((((decide ((↑i : Int) < (↑n : Int))) = true → ((((((0 : Int) ≤ (↑i : Int))) ∧ (((↑i : Int) < (↑n : Int)))) ∧ (((.pointer (.some ⟨((0 : Nat)), ((0 : Nat) + i * (1 : Nat)), .none⟩)) : Value) = (.pointer (.some ⟨((0 : Nat)), ((0 : Nat) + i * (1 : Nat)), .none⟩)))) ∧
((((ints n o)[(0 : Nat) + i * (1 : Nat)]? = some (.int .i64 (o i)))) ∧
((((((0 : Int) ≤ (↑i : Int))) ∧ (((↑i : Int) < (↑n : Int)))) ∧ (((.pointer (.some ⟨((1 : Nat)), ((0 : Nat) + i * (1 : Nat)), .none⟩)) : Value) = (.pointer (.some ⟨((1 : Nat)), ((0 : Nat) + i * (1 : Nat)), .none⟩)))) ∧
((((ints n o)[(0 : Nat) + i * (1 : Nat)]? = some (.int .i64 (o i)))) ∧
(((o i != o i) = true → R 0 .ret ⟨⟨[(.int .i64 i)], [⟨n, c⟩, ⟨n, d⟩]⟩, [(ints n o), (ints n o)], []⟩) ∧
((o i != o i) = false → R 0 .normal ⟨⟨[(.int .i64 (IntKind.i64.wrap ((↑i : Int) + (1 : Int))))], [⟨n, c⟩, ⟨n, d⟩]⟩, [(ints n o), (ints n o)], []⟩))))))) ∧
((decide ((↑i : Int) < (↑n : Int))) = false → R 0 (.exit ((0 : Nat))) ⟨⟨[(.int .i64 i)], [⟨n, c⟩, ⟨n, d⟩]⟩, [(ints n o), (ints n o)], []⟩))) := by kernel_rfl
theorem f32 (n c d : Nat) (o : Nat → Int) (R : ARes → Prop) : (vx.call 32 [slV 0 n c, slV 1 n d] (retK R) (mL2 (ints n o) (ints n o)) ([(6, .split ([]) ((2, Hint.loopW T32 (AExit.exit (0 : Nat)) T32 fun x => h32 n c d o n) :: []))])) =
(((((↑n : Int) != (↑n : Int)) = true → R (.ret (.bool false))) ∧
(((↑n : Int) != (↑n : Int)) = false → ((ClW ⟨⟨[(.int .i64 0)], [⟨n, c⟩, ⟨n, d⟩]⟩, [(ints n o), (ints n o)], []⟩) ∧ (LoopOW Try.prog .none p32 (T32) ⟨⟨[(.int .i64 0)], [⟨n, c⟩, ⟨n, d⟩]⟩, [(ints n o), (ints n o)], []⟩ (.exit ((0 : Nat))) (T32) ⟨⟨[(.int .i64 n)], [⟨n, c⟩, ⟨n, d⟩]⟩, [(ints n o), (ints n o)], []⟩) ∧
R (.ret (.bool true)))))) := by kernel_rfl
theorem b10a (p nu : Int) (sure : Bool) (n c i : Nat) (f : Nat → Mv) (g : Nat → Nat) (ot ot2 : List Value) (R : Nat → AExit → Hw → Prop) : (vx.code none (.l p10a) (leafW [T10a, T10b] R) (T10a.inst (h10a p sure nu n c (mvs n f) (natL n g) ot i)) ([(0, .split ((9, .val (.pointer (.some ⟨((0 : Nat)), ((n - (1 : Nat) - i) * (4 : Nat)), .none⟩))) :: (0, .val (.agg ⟨[(.int .i64 ((f (n - (1 : Nat) - i)).at_)), (.int .i64 ((f (n - (1 : Nat) - i)).place)), (.int .i64 ((f (n - (1 : Nat) - i)).lo)), (.int .i64 ((f (n - (1 : Nat) - i)).hi))]⟩)) :: (21, .val (.pointer (.some ⟨((6 : Nat)), (i), .none⟩))) :: (0, .val (.int .i64 ((↑(g i) : Int)))) :: (0, .val (.pointer (.some ⟨((7 : Nat)), (n - (1 : Nat) - i), .none⟩))) :: (0, Hint.put ot2) :: [(2, Hint.tm (1 : Nat) [((8 : Nat), (10 : Nat))])]) ([(1, .tm 0 [])]))])) =
((((decide ((↑i : Int) < (↑n : Int))) = true → ((((((0 : Int) ≤ IntKind.i64.wrap (IntKind.i64.wrap ((↑n : Int) - (1 : Int)) - (↑i : Int)))) ∧ ((IntKind.i64.wrap (IntKind.i64.wrap ((↑n : Int) - (1 : Int)) - (↑i : Int)) < (↑n : Int)))) ∧ (((.pointer (.some ⟨((0 : Nat)), ((n - (1 : Nat) - i) * (4 : Nat)), .none⟩)) : Value) = (.pointer (.some ⟨((0 : Nat)), ((0 : Nat) + (IntKind.i64.wrap (IntKind.i64.wrap ((↑n : Int) - (1 : Int)) - (↑i : Int))).toNat * (4 : Nat)), .none⟩)))) ∧
(((((n - (1 : Nat) - i) * (4 : Nat) + (4 : Nat) ≤ (mvs n f).length)) ∧ (((.agg ⟨[(.int .i64 ((f (n - (1 : Nat) - i)).at_)), (.int .i64 ((f (n - (1 : Nat) - i)).place)), (.int .i64 ((f (n - (1 : Nat) - i)).lo)), (.int .i64 ((f (n - (1 : Nat) - i)).hi))]⟩) : Value) = (.agg ⟨(List.take ((4 : Nat)) (List.drop ((n - (1 : Nat) - i) * (4 : Nat)) (mvs n f)))⟩))) ∧
((((((0 : Int) ≤ (↑i : Int))) ∧ (((↑i : Int) < (↑n : Int)))) ∧ (((.pointer (.some ⟨((6 : Nat)), (i), .none⟩)) : Value) = (.pointer (.some ⟨((6 : Nat)), ((0 : Nat) + i * (1 : Nat)), .none⟩)))) ∧
((((natL n g)[i]? = some (.int .i64 ((↑(g i) : Int))))) ∧
((((((0 : Int) ≤ IntKind.i64.wrap (IntKind.i64.wrap ((↑n : Int) - (1 : Int)) - (↑i : Int)))) ∧ ((IntKind.i64.wrap (IntKind.i64.wrap ((↑n : Int) - (1 : Int)) - (↑i : Int)) < (↑n : Int)))) ∧ (((.pointer (.some ⟨((7 : Nat)), (n - (1 : Nat) - i), .none⟩)) : Value) = (.pointer (.some ⟨((7 : Nat)), ((0 : Nat) + (IntKind.i64.wrap (IntKind.i64.wrap ((↑n : Int) - (1 : Int)) - (↑i : Int))).toNat * (1 : Nat)), .none⟩)))) ∧
((((n - (1 : Nat) - i + (1 : Nat) ≤ ot.length)) ∧ ((List.take (n - (1 : Nat) - i) ot ++ [Value.int .i64 (↑(g i) : Int)] ++ List.drop (n - (1 : Nat) - i + (1 : Nat)) ot = ot2))) ∧
R 1 .normal ⟨⟨[(.bool sure), (.int .u8 (nu)), (.int .i64 n), (.int .i64 n), (.int .i64 (IntKind.i64.wrap ((↑i : Int) + (1 : Int)))), (.int .i64 p), (.int .i64 p)], [⟨n, n⟩, ⟨n, n⟩, ⟨n, c⟩, ⟨((1 : Nat)), ((1 : Nat))⟩]⟩, [(mvs n f), (natL n g), (ot2), [(.int .i64 ((f (n - (1 : Nat) - i)).at_)), (.int .i64 (IntKind.i64.wrap ((30 : Int) - (f (n - (1 : Nat) - i)).place))), (.int .i64 ((f (n - (1 : Nat) - i)).lo)), (.int .i64 ((f (n - (1 : Nat) - i)).hi))]], []⟩))))))) ∧
((decide ((↑i : Int) < (↑n : Int))) = false → R 0 (.exit ((0 : Nat))) ⟨⟨[(.bool sure), (.int .u8 (nu)), (.int .i64 n), (.int .i64 n), (.int .i64 i), (.int .i64 p), (.int .i64 p)], [⟨n, n⟩, ⟨n, n⟩, ⟨n, c⟩]⟩, [(mvs n f), (natL n g), (ot)], []⟩))) := by kernel_rfl
theorem b10b (p nu : Int) (sure : Bool) (n c i : Nat) (f : Nat → Mv) (g : Nat → Nat) (ot ot2 ls : List Value) (R : Nat → AExit → Hw → Prop) : (vx.code none (.l p10a) (leafW [T10a, T10b] R) (T10b.inst (h10b p sure nu n c (mvs n f) (natL n g) ot i ls)) ([(0, .split ((9, .val (.pointer (.some ⟨((0 : Nat)), ((n - (1 : Nat) - i) * (4 : Nat)), .none⟩))) :: (0, .val (.agg ⟨[(.int .i64 ((f (n - (1 : Nat) - i)).at_)), (.int .i64 ((f (n - (1 : Nat) - i)).place)), (.int .i64 ((f (n - (1 : Nat) - i)).lo)), (.int .i64 ((f (n - (1 : Nat) - i)).hi))]⟩)) :: (11, Hint.grow) :: (9, .val (.pointer (.some ⟨((6 : Nat)), (i), .none⟩))) :: (0, .val (.int .i64 ((↑(g i) : Int)))) :: (0, .val (.pointer (.some ⟨((7 : Nat)), (n - (1 : Nat) - i), .none⟩))) :: (0, Hint.put ot2) :: [(2, Hint.tm (1 : Nat) [((8 : Nat), (11 : Nat))])]) ([(1, Hint.tm (1 : Nat) [((8 : Nat), (8 : Nat))])]))])) =
((((decide ((↑i : Int) < (↑n : Int))) = true → ((((((0 : Int) ≤ IntKind.i64.wrap (IntKind.i64.wrap ((↑n : Int) - (1 : Int)) - (↑i : Int)))) ∧ ((IntKind.i64.wrap (IntKind.i64.wrap ((↑n : Int) - (1 : Int)) - (↑i : Int)) < (↑n : Int)))) ∧ (((.pointer (.some ⟨((0 : Nat)), ((n - (1 : Nat) - i) * (4 : Nat)), .none⟩)) : Value) = (.pointer (.some ⟨((0 : Nat)), ((0 : Nat) + (IntKind.i64.wrap (IntKind.i64.wrap ((↑n : Int) - (1 : Int)) - (↑i : Int))).toNat * (4 : Nat)), .none⟩)))) ∧
(((((n - (1 : Nat) - i) * (4 : Nat) + (4 : Nat) ≤ (mvs n f).length)) ∧ (((.agg ⟨[(.int .i64 ((f (n - (1 : Nat) - i)).at_)), (.int .i64 ((f (n - (1 : Nat) - i)).place)), (.int .i64 ((f (n - (1 : Nat) - i)).lo)), (.int .i64 ((f (n - (1 : Nat) - i)).hi))]⟩) : Value) = (.agg ⟨(List.take ((4 : Nat)) (List.drop ((n - (1 : Nat) - i) * (4 : Nat)) (mvs n f)))⟩))) ∧
((((¬i + (1 : Nat) ≤ i)) ∧ (((i * (4 : Nat) = ls.length)) ∧ ((((i + (1 : Nat)) * (32 : Nat) ≤ (140737488355328 : Nat))) ∧ ((i + (1 : Nat) ≤ (4611686018427387904 : Nat)))))) ∧
((((((0 : Int) ≤ (↑i : Int))) ∧ (((↑i : Int) < (↑n : Int)))) ∧ (((.pointer (.some ⟨((6 : Nat)), (i), .none⟩)) : Value) = (.pointer (.some ⟨((6 : Nat)), ((0 : Nat) + i * (1 : Nat)), .none⟩)))) ∧
((((natL n g)[i]? = some (.int .i64 ((↑(g i) : Int))))) ∧
((((((0 : Int) ≤ IntKind.i64.wrap (IntKind.i64.wrap ((↑n : Int) - (1 : Int)) - (↑i : Int)))) ∧ ((IntKind.i64.wrap (IntKind.i64.wrap ((↑n : Int) - (1 : Int)) - (↑i : Int)) < (↑n : Int)))) ∧ (((.pointer (.some ⟨((7 : Nat)), (n - (1 : Nat) - i), .none⟩)) : Value) = (.pointer (.some ⟨((7 : Nat)), ((0 : Nat) + (IntKind.i64.wrap (IntKind.i64.wrap ((↑n : Int) - (1 : Int)) - (↑i : Int))).toNat * (1 : Nat)), .none⟩)))) ∧
((((n - (1 : Nat) - i + (1 : Nat) ≤ ot.length)) ∧ ((List.take (n - (1 : Nat) - i) ot ++ [Value.int .i64 (↑(g i) : Int)] ++ List.drop (n - (1 : Nat) - i + (1 : Nat)) ot = ot2))) ∧
R 1 .normal ⟨⟨[(.bool sure), (.int .u8 (nu)), (.int .i64 n), (.int .i64 n), (.int .i64 (IntKind.i64.wrap ((↑i : Int) + (1 : Int)))), (.int .i64 p), (.int .i64 p)], [⟨n, n⟩, ⟨n, n⟩, ⟨n, c⟩, ⟨(i + (1 : Nat)), (i + (1 : Nat))⟩]⟩, [(mvs n f), (natL n g), (ot2), ((List.take (i * (4 : Nat)) (ls)) ++ [(.int .i64 ((f (n - (1 : Nat) - i)).at_)), (.int .i64 (IntKind.i64.wrap ((30 : Int) - (f (n - (1 : Nat) - i)).place))), (.int .i64 ((f (n - (1 : Nat) - i)).lo)), (.int .i64 ((f (n - (1 : Nat) - i)).hi))])], []⟩)))))))) ∧
((decide ((↑i : Int) < (↑n : Int))) = false → R 1 (.exit ((0 : Nat))) ⟨⟨[(.bool sure), (.int .u8 (nu)), (.int .i64 n), (.int .i64 n), (.int .i64 i), (.int .i64 p), (.int .i64 p)], [⟨n, n⟩, ⟨n, n⟩, ⟨n, c⟩, ⟨i, i⟩]⟩, [(mvs n f), (natL n g), (ot), (ls)], []⟩))) := by kernel_rfl
theorem b10c (p : Int) (sure : Bool) (n c s : Nat) (ms ms2 keep own : List Value) (R : Nat → AExit → Hw → Prop) : (vx.code none (.l p10b) (leafW [T10c] R) (T10c.inst (h10c p sure n c ms ms2 keep own s)) ([(0, .split ((5, Hint.loopW T10d (AExit.exit (4 : Nat)) T10d fun x => h10d p sure n c ms ms2 keep own s n) :: [(2, .tm 0 [])]) ([(1, .tm 0 [])]))])) =
((((decide ((↑s : Int) < (↑n : Int))) = true → ((ClW ⟨⟨[(.bool sure), (.int .i64 n), (.int .i64 0), (.int .i64 s), (.int .i64 n), (.int .i64 s), (.int .i64 n), (.int .i64 0), (.int .i64 p), (.int .i64 p)], [⟨n, n⟩, ⟨n, n⟩, ⟨n, c⟩, ⟨n, n⟩]⟩, [(ms), (ms2), (keep), (own)], []⟩) ∧ (LoopOW Try.prog .none p10c (T10d) ⟨⟨[(.bool sure), (.int .i64 n), (.int .i64 0), (.int .i64 s), (.int .i64 n), (.int .i64 s), (.int .i64 n), (.int .i64 0), (.int .i64 p), (.int .i64 p)], [⟨n, n⟩, ⟨n, n⟩, ⟨n, c⟩, ⟨n, n⟩]⟩, [(ms), (ms2), (keep), (own)], []⟩ (.exit ((4 : Nat))) (T10d) ⟨⟨[(.bool sure), (.int .i64 n), (.int .i64 0), (.int .i64 s), (.int .i64 n), (.int .i64 s), (.int .i64 n), (.int .i64 n), (.int .i64 p), (.int .i64 p)], [⟨n, n⟩, ⟨n, n⟩, ⟨n, c⟩, ⟨n, n⟩]⟩, [(ms), (ms2), (keep), (own)], []⟩) ∧
R 0 .normal ⟨⟨[(.bool sure), (.int .i64 n), (.int .i64 0), (.int .i64 n), (.int .i64 (IntKind.i64.wrap ((↑s : Int) + (1 : Int)))), (.int .i64 p), (.int .i64 p)], [⟨n, n⟩, ⟨n, n⟩, ⟨n, c⟩, ⟨n, n⟩]⟩, [(ms), (ms2), (keep), (own)], []⟩)) ∧
((decide ((↑s : Int) < (↑n : Int))) = false → R 0 (.exit ((2 : Nat))) ⟨⟨[(.bool sure), (.int .i64 n), (.int .i64 0), (.int .i64 n), (.int .i64 s), (.int .i64 p), (.int .i64 p)], [⟨n, n⟩, ⟨n, n⟩, ⟨n, c⟩, ⟨n, n⟩]⟩, [(ms), (ms2), (keep), (own)], []⟩))) := by kernel_rfl
theorem b10d (p : Int) (sure : Bool) (n c s t : Nat) (f f2 : Nat → Mv) (keep own : List Value) (R : Nat → AExit → Hw → Prop) : (vx.code none (.l p10c) (leafW [T10d] R) (T10d.inst (h10d p sure n c (mvs n f) (mvs n f2) keep own s t)) ([(0, .split ((6, Hint.con (C18 p s t n c f)) :: (14, Hint.con (C18 p (n - (1 : Nat) - s) (n - (1 : Nat) - t) n n f2)) :: [(7, .split ([(4, .tm 0 [])]) ([(8, .tm 0 [])]))]) ([(1, .tm 0 [])]))])) =
((((decide ((↑t : Int) < (↑n : Int))) = true → ((ConOK Try.prog 18 (C18 p s t n c f)) ∧ (Con.pre (C18 p s t n c f) ⟨⟨[(.int .i64 p), (.int .i64 s), (.int .i64 t)], [⟨n, c⟩]⟩, [(mvs n f)]⟩) ∧
((ConOK Try.prog 18 (C18 p (n - (1 : Nat) - s) (n - (1 : Nat) - t) n n f2)) ∧ (Con.pre (C18 p (n - (1 : Nat) - s) (n - (1 : Nat) - t) n n f2) ⟨⟨[(.int .i64 p), (.int .i64 (IntKind.i64.wrap (IntKind.i64.wrap ((↑n : Int) - (1 : Int)) - (↑s : Int)))), (.int .i64 (IntKind.i64.wrap (IntKind.i64.wrap ((↑n : Int) - (1 : Int)) - (↑t : Int))))], [⟨n, n⟩]⟩, [(mvs n f2)]⟩) ∧
(((folV p n f s t != folV p n f2 (n - (1 : Nat) - s) (n - (1 : Nat) - t)) = true → R 0 .ret ⟨⟨[(.bool sure), (.int .i64 n), (.int .i64 0), (.int .i64 s), (.int .i64 n), (.int .i64 s), (.int .i64 n), (.int .i64 t), (.int .i64 p), (.int .i64 p)], [⟨n, n⟩, ⟨n, n⟩, ⟨n, c⟩, ⟨n, n⟩]⟩, [(mvs n f), (mvs n f2), (keep), (own)], []⟩) ∧
((folV p n f s t != folV p n f2 (n - (1 : Nat) - s) (n - (1 : Nat) - t)) = false → R 0 .normal ⟨⟨[(.bool sure), (.int .i64 n), (.int .i64 0), (.int .i64 s), (.int .i64 n), (.int .i64 s), (.int .i64 n), (.int .i64 (IntKind.i64.wrap ((↑t : Int) + (1 : Int)))), (.int .i64 p), (.int .i64 p)], [⟨n, n⟩, ⟨n, n⟩, ⟨n, c⟩, ⟨n, n⟩]⟩, [(mvs n f), (mvs n f2), (keep), (own)], []⟩))))) ∧
((decide ((↑t : Int) < (↑n : Int))) = false → R 0 (.exit ((4 : Nat))) ⟨⟨[(.bool sure), (.int .i64 n), (.int .i64 0), (.int .i64 s), (.int .i64 n), (.int .i64 s), (.int .i64 n), (.int .i64 t), (.int .i64 p), (.int .i64 p)], [⟨n, n⟩, ⟨n, n⟩, ⟨n, c⟩, ⟨n, n⟩]⟩, [(mvs n f), (mvs n f2), (keep), (own)], []⟩))) := by kernel_rfl
theorem b10e (p : Int) (sure : Bool) (n c s : Nat) (ms keep ow ow2 kept : List Value) (R : Nat → AExit → Hw → Prop) : (vx.code none (.l p10d) (leafW [T10e] R) (T10e.inst (h10e p sure n c ms keep ow kept s)) ([(0, .split ((5, .val (.pointer (.some ⟨((11 : Nat)), ((0 : Nat) + s * (1 : Nat)), .none⟩))) :: (0, Hint.put ow2) :: [(2, .tm 0 [])]) ([(1, .tm 0 [])]))])) =
((((decide ((↑s : Int) < (↑n : Int))) = true → ((((((0 : Int) ≤ (↑s : Int))) ∧ (((↑s : Int) < (↑n : Int)))) ∧ (((.pointer (.some ⟨((11 : Nat)), ((0 : Nat) + s * (1 : Nat)), .none⟩)) : Value) = (.pointer (.some ⟨((11 : Nat)), ((0 : Nat) + s * (1 : Nat)), .none⟩)))) ∧
(((((0 : Nat) + s * (1 : Nat) + (1 : Nat) ≤ ow.length)) ∧ ((List.take ((0 : Nat) + s * (1 : Nat)) ow ++ [Value.int .i64 (-9 : Int)] ++ List.drop ((0 : Nat) + s * (1 : Nat) + (1 : Nat)) ow = ow2))) ∧
R 0 .normal ⟨⟨[(.bool sure), (.int .i64 0), (.int .i64 n), (.int .i64 (IntKind.i64.wrap ((↑s : Int) + (1 : Int)))), (.int .i64 p)], [⟨n, n⟩, ⟨n, n⟩, ⟨n, n⟩, ⟨n, c⟩]⟩, [(ms), (keep), (ow2), (kept)], []⟩))) ∧
((decide ((↑s : Int) < (↑n : Int))) = false → R 0 (.exit ((6 : Nat))) ⟨⟨[(.bool sure), (.int .i64 0), (.int .i64 n), (.int .i64 s), (.int .i64 p)], [⟨n, n⟩, ⟨n, n⟩, ⟨n, n⟩, ⟨n, c⟩]⟩, [(ms), (keep), (ow), (kept)], []⟩))) := by kernel_rfl
theorem b10f (p : Int) (n c s : Nat) (f : Nat → Mv) (R : Nat → AExit → Hw → Prop) : (vx.code none (.l p10e) (leafW [T10f] R) (T10f.inst (h10f p n c (mvs n f) (mvs n f) s)) ([(0, .split ((5, .val (.pointer (.some ⟨((10 : Nat)), ((0 : Nat) + s * (4 : Nat)), .none⟩))) :: (0, .val (.agg ⟨[(.int .i64 ((f s).at_)), (.int .i64 ((f s).place)), (.int .i64 ((f s).lo)), (.int .i64 ((f s).hi))]⟩)) :: (3, .val (.pointer (.some ⟨((0 : Nat)), ((0 : Nat) + s * (4 : Nat)), .none⟩))) :: (0, .val (.agg ⟨[(.int .i64 ((f s).at_)), (.int .i64 ((f s).place)), (.int .i64 ((f s).lo)), (.int .i64 ((f s).hi))]⟩)) :: [(0, .split ([(2, .tm 0 [])]) ([(3, .tm 0 [])]))]) ([(1, .tm 0 [])]))])) =
((((decide ((↑s : Int) < (↑n : Int))) = true → ((((((0 : Int) ≤ (↑s : Int))) ∧ (((↑s : Int) < (↑n : Int)))) ∧ (((.pointer (.some ⟨((10 : Nat)), ((0 : Nat) + s * (4 : Nat)), .none⟩)) : Value) = (.pointer (.some ⟨((10 : Nat)), ((0 : Nat) + s * (4 : Nat)), .none⟩)))) ∧
(((((0 : Nat) + s * (4 : Nat) + (4 : Nat) ≤ (mvs n f).length)) ∧ (((.agg ⟨[(.int .i64 ((f s).at_)), (.int .i64 ((f s).place)), (.int .i64 ((f s).lo)), (.int .i64 ((f s).hi))]⟩) : Value) = (.agg ⟨(List.take ((4 : Nat)) (List.drop ((0 : Nat) + s * (4 : Nat)) (mvs n f)))⟩))) ∧
((((((0 : Int) ≤ (↑s : Int))) ∧ (((↑s : Int) < (↑n : Int)))) ∧ (((.pointer (.some ⟨((0 : Nat)), ((0 : Nat) + s * (4 : Nat)), .none⟩)) : Value) = (.pointer (.some ⟨((0 : Nat)), ((0 : Nat) + s * (4 : Nat)), .none⟩)))) ∧
(((((0 : Nat) + s * (4 : Nat) + (4 : Nat) ≤ (mvs n f).length)) ∧ (((.agg ⟨[(.int .i64 ((f s).at_)), (.int .i64 ((f s).place)), (.int .i64 ((f s).lo)), (.int .i64 ((f s).hi))]⟩) : Value) = (.agg ⟨(List.take ((4 : Nat)) (List.drop ((0 : Nat) + s * (4 : Nat)) (mvs n f)))⟩))) ∧
(((!((f s).at_ == (f s).at_ && (fun c => (f s).place == (f s).place && c) ((fun c => (f s).lo == (f s).lo && c) ((fun c => (f s).hi == (f s).hi && c) true)))) = true → R 0 .ret ⟨⟨[(.int .i64 n), (.int .i64 s), (.int .i64 p)], [⟨n, n⟩, ⟨n, c⟩]⟩, [(mvs n f), (mvs n f)], []⟩) ∧
((!((f s).at_ == (f s).at_ && (fun c => (f s).place == (f s).place && c) ((fun c => (f s).lo == (f s).lo && c) ((fun c => (f s).hi == (f s).hi && c) true)))) = false → R 0 .normal ⟨⟨[(.int .i64 n), (.int .i64 (IntKind.i64.wrap ((↑s : Int) + (1 : Int)))), (.int .i64 p)], [⟨n, n⟩, ⟨n, c⟩]⟩, [(mvs n f), (mvs n f)], []⟩))))))) ∧
((decide ((↑s : Int) < (↑n : Int))) = false → R 0 (.exit ((8 : Nat))) ⟨⟨[(.int .i64 n), (.int .i64 s), (.int .i64 p)], [⟨n, n⟩, ⟨n, c⟩]⟩, [(mvs n f), (mvs n f)], []⟩))) := by kernel_rfl
theorem mvs_aw (n : Nat) (f : Nat → Mv) : ∀ v ∈ mvs n f, atomic v = true := mvs_atoms n f _ (by simp)
theorem cl32 (n c d : Nat) (o : Nat → Int) (i : Nat) : ClW (h32 n c d o i) := by
  refine ⟨fun cs hc => ?_, fun es hc => (by cases hc)⟩
  simp only [h32, List.mem_cons, List.not_mem_nil, or_false, or_self] at hc
  subst hc
  exact ints_atom n o
theorem loop32 {n c d : Nat} {o : Nat → Int} (hn : n ≤ 1000000) : LoopOW Try.prog none p32 T32 (h32 n c d o 0) (.exit 0) T32 (h32 n c d o n) := by
  refine loop_forW (Ts := [T32]) (k := 2) (n := n) (e := .exit 0) (st := fun i => (0, h32 n c d o i)) rfl vx_sound ?_ (by rw [nglob]; omega) ⟨by simp, trivial⟩ (fun i _ => cl32 n c d o i) (fun i hi R hR => ?_) (fun R hR => ?_) rfl (Nat.le_of_ble_eq_true rfl) (by decide) rfl
  · intro T hT; simp only [List.mem_singleton] at hT; subst hT; rfl
  · have hw : IntKind.i64.wrap ((i : Int) + 1) = ((i + 1 : Nat) : Int) := wrapI (by omega) (by omega)
    have hg := ints_get o hi
    refine ⟨T32, _, rfl, (b32 n c d i o R).mpr ⟨fun _ => ⟨⟨⟨by omega, by omega⟩, rfl⟩, hg, ⟨⟨by omega, by omega⟩, rfl⟩, hg, fun h => ?_, fun _ => ?_⟩, fun h => absurd (by omega) (of_decide_eq_false h)⟩⟩
    · simp at h
    · rw [hw]; exact hR
  · exact ⟨T32, _, rfl, (b32 n c d n o R).mpr ⟨fun h => absurd (of_decide_eq_true h) (by omega), fun _ => hR⟩⟩
theorem C32_ok {n : Nat} (c d : Nat) (o : Nat → Int) (hn : n ≤ 1000000) : ConOK Try.prog 32 (C32 n c d o) := by
  refine con_of vx_sound ⟨⟨[], [(n, c), (n, d)]⟩, [ints n o, ints n o]⟩ (fun y hy => ?_) rfl (fun y _ => rfl) (fun y hy => ?_) rfl (Nat.le_of_ble_eq_true rfl) (by rw [nglob]; exact Nat.zero_le _)
  · cases hy
    exact ⟨_, (f32 n c d o _).mpr ⟨fun h => (by simp at h), fun _ => ⟨cl32 n c d o 0, loop32 hn, rfl⟩⟩⟩
  · cases hy
    intro cs hcs
    simp only [List.mem_cons, List.not_mem_nil, or_false, or_self] at hcs
    subst hcs
    exact ints_atom n o
theorem wr2 {n i : Nat} (hn : n ≤ 7) (hi : i < n) : IntKind.i64.wrap (IntKind.i64.wrap ((n : Int) - (1 : Int)) - (i : Int)) = ((n - 1 - i : Nat) : Int) := by
  rw [wrapI (x := (n : Int) - 1) (by omega) (by omega), wrapI (by omega) (by omega)]
  omega
def othF (n : Nat) (g : Nat → Nat) (i k : Nat) : Nat := if n ≤ k + i then g (n - 1 - k) else 0
theorem oth_put {n i : Nat} (g : Nat → Nat) (hi : i < n) : (natL n (othF n g i)).take (n - 1 - i) ++ [I (g i)] ++ (natL n (othF n g i)).drop (n - 1 - i + 1) = natL n (othF n g (i + 1)) := by
  have h := ints_put (n := n) (i := n - 1 - i) (fun k => (othF n g i k : Int)) (g i : Int) (by omega)
  rw [Nat.zero_add, Nat.mul_one] at h
  refine h.trans (flatC_congr fun k hk => ?_)
  simp only [updF, othF]
  by_cases e : k = n - 1 - i
  · subst e
    rw [if_pos rfl, if_pos (by omega)]
    have : n - 1 - (n - 1 - i) = i := by omega
    rw [this]
  · rw [if_neg e]
    by_cases e2 : n ≤ k + i
    · rw [if_pos e2, if_pos (by omega)]
    · rw [if_neg e2, if_neg (by omega)]
theorem oth_0 (n : Nat) (g : Nat → Nat) : natL n (othF n g 0) = ints n fun _ => 0 := flatC_congr fun k hk => by
  simp only [othF, Nat.add_zero, if_neg (show ¬ n ≤ k by omega)]
  rfl
theorem oth_n (n : Nat) (g : Nat → Nat) : natL n (othF n g n) = natL n fun k => g (n - 1 - k) := flatC_congr fun k hk => by
  simp only [othF, if_pos (show n ≤ k + n by omega)]
theorem natL_len (n : Nat) (g : Nat → Nat) : (natL n g).length = n * 1 := flatC_len fun i _ => rfl
theorem mvs_part0 {n i : Nat} (f : Nat → Mv) (h : i < n) : ((mvs n f).drop (i * 4)).take 4 = mvV (f i) := by
  have := mvs_part (n := n) f h
  rw [Nat.zero_add] at this
  exact this
theorem take_mvs (n : Nat) (f : Nat → Mv) : List.take (n * 4) (mvs n f) = mvs n f := by rw [← mvs_len n f, List.take_length]
section
variable {p nu : Int} {sure : Bool} {n c : Nat} {f : Nat → Mv} {g : Nat → Nat}
noncomputable def st10a (p : Int) (sure : Bool) (nu : Int) (n c : Nat) (f : Nat → Mv) (g : Nat → Nat) : Nat → Nat × Hw
  | 0 => (0, h10a p sure nu n c (mvs n f) (natL n g) (ints n fun _ => 0) 0)
  | i + 1 => (1, h10b p sure nu n c (mvs n f) (natL n g) (natL n (othF n g (i + 1))) (i + 1) (mvs (i + 1) (revF n f)))
theorem cl10a (i : Nat) : ClW (st10a p sure nu n c f g i).2 := by
  cases i with
  | zero =>
    refine ⟨fun cs hc => ?_, fun es hc => (by cases hc)⟩
    simp only [st10a, h10a, List.mem_cons, List.not_mem_nil, or_false] at hc
    rcases hc with rfl | rfl | rfl
    · exact mvs_aw n f
    · exact natL_atom n g
    · exact ints_atom n _
  | succ i =>
    refine ⟨fun cs hc => ?_, fun es hc => (by cases hc)⟩
    simp only [st10a, h10b, List.mem_cons, List.not_mem_nil, or_false] at hc
    rcases hc with rfl | rfl | rfl | rfl
    · exact mvs_aw n f
    · exact natL_atom n g
    · exact natL_atom n _
    · exact mvs_aw (i + 1) _
theorem loop10a (h0 : 0 < n) (h7 : n ≤ 7) : LoopOW Try.prog none p10a T10a (h10a p sure nu n c (mvs n f) (natL n g) (ints n fun _ => 0) 0) (.exit 0) T10b (h10b p sure nu n c (mvs n f) (natL n g) (natL n fun k => g (n - 1 - k)) n (mvs n (revF n f))) := by
  have hn : n = (n - 1) + 1 := by omega
  have hst : st10a p sure nu n c f g n = (1, h10b p sure nu n c (mvs n f) (natL n g) (natL n fun k => g (n - 1 - k)) n (mvs n (revF n f))) := by
    rw [← oth_n]
    obtain ⟨m, rfl⟩ : ∃ m, n = m + 1 := ⟨n - 1, hn⟩
    rfl
  have main := loop_forW (P := Try.prog) (ro := none) (p := p10a) (Ts := [T10a, T10b]) (k := 8) (n := n) (e := .exit 0) (st := st10a p sure nu n c f g) rfl vx_sound (by
    intro T hT
    simp only [List.mem_cons, List.not_mem_nil, or_false] at hT
    rcases hT with rfl | rfl <;> rfl) (by rw [nglob]; omega) ⟨by simp, trivial⟩ (fun i _ => cl10a i) (fun i hi R hR => by
    have hw : IntKind.i64.wrap ((i : Int) + 1) = ((i + 1 : Nat) : Int) := wrapI (by omega) (by omega)
    have h2 := wr2 h7 hi
    have hp := mvs_part0 f (show n - 1 - i < n by omega)
    have hng : (natL n g)[i]? = some (I (g i)) := by have := natL_get (g := g) hi; rwa [Nat.zero_add, Nat.mul_one] at this
    have hlen := mvs_len n f
    have hput := oth_put g hi
    cases i with
    | zero =>
      rw [oth_0] at hput
      refine ⟨T10a, _, rfl, (b10a p nu sure n c 0 f g (ints n fun _ => 0) (natL n (othF n g 1)) R).mpr ⟨fun _ => ?_, fun h => absurd (by omega) (of_decide_eq_false h)⟩⟩
      rw [h2]
      refine ⟨⟨⟨by omega, by omega⟩, ?_⟩, ⟨by rw [hlen]; omega, by rw [hp]; rfl⟩, ⟨⟨by omega, by omega⟩, rfl⟩, hng, ⟨⟨by omega, by omega⟩, ?_⟩, ⟨by rw [← oth_0 n g, natL_len]; omega, hput⟩, ?_⟩
      · rw [Int.toNat_natCast, Nat.zero_add]
      · rw [Int.toNat_natCast, Nat.zero_add, Nat.mul_one]
      · rw [hw]; exact hR
    | succ i =>
      refine ⟨T10b, _, rfl, (b10b p nu sure n c (i + 1) f g (natL n (othF n g (i + 1))) (natL n (othF n g (i + 1 + 1))) (mvs (i + 1) (revF n f)) R).mpr ⟨fun _ => ?_, fun h => absurd (by omega) (of_decide_eq_false h)⟩⟩
      rw [h2]
      refine ⟨⟨⟨by omega, by omega⟩, ?_⟩, ⟨by rw [hlen]; omega, by rw [hp]; rfl⟩, ⟨by omega, by rw [mvs_len], by omega, by omega⟩, ⟨⟨by omega, by omega⟩, ?_⟩, hng, ⟨⟨by omega, by omega⟩, ?_⟩, ⟨by rw [natL_len]; omega, hput⟩, ?_⟩
      · rw [Int.toNat_natCast, Nat.zero_add]
      · rw [Nat.zero_add, Nat.mul_one]
      · rw [Int.toNat_natCast, Nat.zero_add, Nat.mul_one]
      · rw [hw, take_mvs]
        have e : mvs (i + 1) (revF n f) ++ mvV (revF n f (i + 1)) = mvs (i + 1 + 1) (revF n f) := (flatC_succ ..).symm
        show R 1 AExit.normal ⟨_, [_, _, _, mvs (i + 1) (revF n f) ++ mvV (revF n f (i + 1))], _⟩
        rw [e]
        exact hR) (fun R hR => by
    rw [hst] at hR ⊢
    exact ⟨T10b, _, rfl, (b10b p nu sure n c n f g (natL n fun k => g (n - 1 - k)) [] (mvs n (revF n f)) R).mpr ⟨fun h => absurd (of_decide_eq_true h) (by omega), fun _ => hR⟩⟩) (T0 := T10a) (T1 := T10b) rfl (Nat.le_of_ble_eq_true rfl) (by decide) (by rw [hst]; rfl)
  rw [hst] at main
  exact main
theorem cl10 {keep own : List Value} {f2 : Nat → Mv} (hk : ∀ v ∈ keep, atomic v = true) (ho : ∀ v ∈ own, atomic v = true) (s : Nat) : ClW (h10c p sure n c (mvs n f) (mvs n f2) keep own s) := by
  refine ⟨fun cs hc => ?_, fun es hc => (by cases hc)⟩
  simp only [h10c, List.mem_cons, List.not_mem_nil, or_false] at hc
  rcases hc with rfl | rfl | rfl | rfl
  · exact mvs_aw n f
  · exact mvs_aw n f2
  · exact hk
  · exact ho
theorem cl10d {keep own : List Value} {f2 : Nat → Mv} (hk : ∀ v ∈ keep, atomic v = true) (ho : ∀ v ∈ own, atomic v = true) (s t : Nat) : ClW (h10d p sure n c (mvs n f) (mvs n f2) keep own s t) := by
  refine ⟨fun cs hc => ?_, fun es hc => (by cases hc)⟩
  simp only [h10d, List.mem_cons, List.not_mem_nil, or_false] at hc
  rcases hc with rfl | rfl | rfl | rfl
  · exact mvs_aw n f
  · exact mvs_aw n f2
  · exact hk
  · exact ho
theorem loop10d {keep own : List Value} (h : HOK p n f) (hk : ∀ v ∈ keep, atomic v = true) (ho : ∀ v ∈ own, atomic v = true) {s : Nat} (hs : s < n) : LoopOW Try.prog none p10c T10d (h10d p sure n c (mvs n f) (mvs n (revF n f)) keep own s 0) (.exit 4) T10d (h10d p sure n c (mvs n f) (mvs n (revF n f)) keep own s n) := by
  have h7 := h.n7
  have hok := okH_of h
  have hok2 := okH_of (rev_hok h)
  refine loop_forW (Ts := [T10d]) (k := 15) (n := n) (e := .exit 4) (st := fun t => (0, h10d p sure n c (mvs n f) (mvs n (revF n f)) keep own s t)) rfl vx_sound ?_ (by rw [nglob]; omega) ⟨by simp, trivial⟩ (fun t _ => cl10d hk ho s t) (fun t ht R hR => ?_) (fun R hR => ?_) rfl (Nat.le_of_ble_eq_true rfl) (by decide) rfl
  · intro T hT; simp only [List.mem_singleton] at hT; subst hT; rfl
  · have hw : IntKind.i64.wrap ((t : Int) + 1) = ((t + 1 : Nat) : Int) := wrapI (by omega) (by omega)
    have hfol := fol_rev (p := p) h (i := n - 1 - s) (j := n - 1 - t) (by omega) (by omega)
    have e1 : n - 1 - (n - 1 - s) = s := by omega
    have e2 : n - 1 - (n - 1 - t) = t := by omega
    rw [e1, e2] at hfol
    refine ⟨T10d, _, rfl, (b10d p sure n c s t f (revF n f) keep own R).mpr ⟨fun _ => ⟨C18_ok p s t n c f hok hs ht h7, rfl, C18_ok p (n - 1 - s) (n - 1 - t) n n (revF n f) hok2 (by omega) (by omega) h7, ?_, fun hx => ?_, fun _ => ?_⟩, fun hx => absurd (by omega) (of_decide_eq_false hx)⟩⟩
    · rw [wr2 h7 hs, wr2 h7 ht]; rfl
    · rw [hfol] at hx; simp at hx
    · rw [hw]; exact hR
  · exact ⟨T10d, _, rfl, (b10d p sure n c s n f (revF n f) keep own R).mpr ⟨fun hx => absurd (of_decide_eq_true hx) (by omega), fun _ => hR⟩⟩
theorem loop10c {keep own : List Value} (h : HOK p n f) (hk : ∀ v ∈ keep, atomic v = true) (ho : ∀ v ∈ own, atomic v = true) : LoopOW Try.prog none p10b T10c (h10c p sure n c (mvs n f) (mvs n (revF n f)) keep own 0) (.exit 2) T10c (h10c p sure n c (mvs n f) (mvs n (revF n f)) keep own n) := by
  have h7 := h.n7
  refine loop_forW (Ts := [T10c]) (k := 15) (n := n) (e := .exit 2) (st := fun s => (0, h10c p sure n c (mvs n f) (mvs n (revF n f)) keep own s)) rfl vx_sound ?_ (by rw [nglob]; omega) ⟨by simp, trivial⟩ (fun s _ => cl10 hk ho s) (fun s hs R hR => ?_) (fun R hR => ?_) rfl (Nat.le_of_ble_eq_true rfl) (by decide) rfl
  · intro T hT; simp only [List.mem_singleton] at hT; subst hT; rfl
  · have hw : IntKind.i64.wrap ((s : Int) + 1) = ((s + 1 : Nat) : Int) := wrapI (by omega) (by omega)
    refine ⟨T10c, _, rfl, (b10c p sure n c s (mvs n f) (mvs n (revF n f)) keep own R).mpr ⟨fun _ => ⟨cl10d hk ho s 0, loop10d h hk ho hs, ?_⟩, fun hx => absurd (by omega) (of_decide_eq_false hx)⟩⟩
    rw [hw]; exact hR
  · exact ⟨T10c, _, rfl, (b10c p sure n c n (mvs n f) (mvs n (revF n f)) keep own R).mpr ⟨fun hx => absurd (of_decide_eq_true hx) (by omega), fun _ => hR⟩⟩
def spoilF (q : Nat → Nat) (s i : Nat) : Int := if i < s then -9 else q i
theorem spoil_n (n : Nat) (q : Nat → Nat) : ints n (spoilF q n) = ints n fun _ => -9 := flatC_congr fun i hi => by simp only [spoilF, if_pos hi]
theorem spoil_put {n s : Nat} (q : Nat → Nat) (hs : s < n) : (ints n (spoilF q s)).take (0 + s * 1) ++ [I (-9)] ++ (ints n (spoilF q s)).drop (0 + s * 1 + 1) = ints n (spoilF q (s + 1)) := by
  refine (ints_put (spoilF q s) (-9) hs).trans (flatC_congr fun i _ => ?_)
  simp only [updF, spoilF]
  by_cases e : i = s
  · subst e
    rw [if_pos rfl, if_pos (by omega)]
  · rw [if_neg e]
    by_cases e2 : i < s
    · rw [if_pos e2, if_pos (by omega)]
    · rw [if_neg e2, if_neg (by omega)]
theorem cl10e {ms keep kept : List Value} (hm : ∀ v ∈ ms, atomic v = true) (hk : ∀ v ∈ keep, atomic v = true) (ho : ∀ v ∈ kept, atomic v = true) (o : Nat → Int) (s : Nat) : ClW (h10e p sure n c ms keep (ints n o) kept s) := by
  refine ⟨fun cs hc => ?_, fun es hc => (by cases hc)⟩
  simp only [h10e, List.mem_cons, List.not_mem_nil, or_false] at hc
  rcases hc with rfl | rfl | rfl | rfl
  · exact hm
  · exact hk
  · exact ints_atom n o
  · exact ho
theorem loop10e {ms keep kept : List Value} {q : Nat → Nat} (h7 : n ≤ 7) (hm : ∀ v ∈ ms, atomic v = true) (hk : ∀ v ∈ keep, atomic v = true) (ho : ∀ v ∈ kept, atomic v = true) : LoopOW Try.prog none p10d T10e (h10e p sure n c ms keep (natL n q) kept 0) (.exit 6) T10e (h10e p sure n c ms keep (ints n fun _ => -9) kept n) := by
  have main := loop_forW (P := Try.prog) (ro := none) (p := p10d) (Ts := [T10e]) (k := 17) (n := n) (e := .exit 6) (st := fun s => (0, h10e p sure n c ms keep (ints n (spoilF q s)) kept s)) rfl vx_sound (by intro T hT; simp only [List.mem_singleton] at hT; subst hT; rfl) (by rw [nglob]; omega) ⟨by simp, trivial⟩ (fun s _ => cl10e hm hk ho _ s) (fun s hs R hR => by
    have hw : IntKind.i64.wrap ((s : Int) + 1) = ((s + 1 : Nat) : Int) := wrapI (by omega) (by omega)
    have hl : (ints n (spoilF q s)).length = n * 1 := flatC_len fun i _ => rfl
    refine ⟨T10e, _, rfl, (b10e p sure n c s ms keep (ints n (spoilF q s)) (ints n (spoilF q (s + 1))) kept R).mpr ⟨fun _ => ⟨⟨⟨by omega, by omega⟩, rfl⟩, ⟨by rw [hl]; omega, spoil_put q hs⟩, ?_⟩, fun hx => absurd (by omega) (of_decide_eq_false hx)⟩⟩
    rw [hw]; exact hR) (fun R hR => ⟨T10e, _, rfl, (b10e p sure n c n ms keep (ints n (spoilF q n)) [] kept R).mpr ⟨fun hx => absurd (of_decide_eq_true hx) (by omega), fun _ => hR⟩⟩) (T0 := T10e) (T1 := T10e) rfl (Nat.le_of_ble_eq_true rfl) (by decide) rfl
  rw [spoil_n] at main
  exact main
theorem cl10f (s : Nat) : ClW (h10f p n c (mvs n f) (mvs n f) s) := by
  refine ⟨fun cs hc => ?_, fun es hc => (by cases hc)⟩
  simp only [h10f, List.mem_cons, List.not_mem_nil, or_false, or_self] at hc
  subst hc
  exact mvs_aw n f
theorem loop10f (h7 : n ≤ 7) : LoopOW Try.prog none p10e T10f (h10f p n c (mvs n f) (mvs n f) 0) (.exit 8) T10f (h10f p n c (mvs n f) (mvs n f) n) := by
  refine loop_forW (Ts := [T10f]) (k := 18) (n := n) (e := .exit 8) (st := fun s => (0, h10f p n c (mvs n f) (mvs n f) s)) rfl vx_sound ?_ (by rw [nglob]; omega) ⟨by simp, trivial⟩ (fun s _ => cl10f s) (fun s hs R hR => ?_) (fun R hR => ?_) rfl (Nat.le_of_ble_eq_true rfl) (by decide) rfl
  · intro T hT; simp only [List.mem_singleton] at hT; subst hT; rfl
  · have hw : IntKind.i64.wrap ((s : Int) + 1) = ((s + 1 : Nat) : Int) := wrapI (by omega) (by omega)
    have hp := mvs_part (n := n) f hs
    have hl := mvs_len n f
    refine ⟨T10f, _, rfl, (b10f p n c s f R).mpr ⟨fun _ => ⟨⟨⟨by omega, by omega⟩, rfl⟩, ⟨by rw [hl]; omega, by rw [hp]; rfl⟩, ⟨⟨by omega, by omega⟩, rfl⟩, ⟨by rw [hl]; omega, by rw [hp]; rfl⟩, fun hx => ?_, fun _ => ?_⟩, fun hx => absurd (by omega) (of_decide_eq_false hx)⟩⟩
    · simp at hx
    · rw [hw]; exact hR
  · exact ⟨T10f, _, rfl, (b10f p n c n f R).mpr ⟨fun hx => absurd (of_decide_eq_true hx) (by omega), fun _ => hR⟩⟩
end
end Go.Ab
