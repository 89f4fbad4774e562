/- package surf: who is drawn in when: one hut. -/
import Derived.Test.YtoelpblmhmhglaaDoorPI
import Derived.Test.YtoelpblmhmhglaaDoorOZ
import Derived.Test.YtoelpblmhmhglaaDoorOY
import Derived.Test.YtoelpblmhmhglaaDoorOT
import Derived.Test.YtoelpblmhmhglaaDoorPB
set_option maxRecDepth 100000
namespace Go.Ab
open Go Go.RowKit Go.Proofs
theorem f74 (s : Int) (i : Nat) (R : ARes → Prop) : (vx.call 74 [I s, I i] (retK R) m2d ((4, .val (I (s / (2 : Int) ^ i))) :: [(1, .split ([]) ([]))])) =
(((((0 : Int) ≤ i) ∧ ((i : Int) ≤ (↑(64 : Nat) : Int))) ∧ (((I (s / (2 : Int) ^ i)) : Value) = (I (s / (2 : Int) ^ i)))) ∧
(((bits BinOp.and IntKind.i64 (s / (2 : Int) ^ i) (1 : Int) == 1) = true → R (.ret (.bool true))) ∧
((bits BinOp.and IntKind.i64 (s / (2 : Int) ^ i) (1 : Int) == 1) = false → R (.ret (.bool false))))) := by kernel_rfl
theorem f102e (rl : List Value) (_ m _ left : Int) (_ : Nat → Int) (hut : Nat) (Hl Dl : List Value) (R : ARes → List WB → Prop) : (vx.call 102 [I hut, pS 2, pS 3, pS 4, pS 5, pS 6] (retW bs102 R) (m102 rl left Hl Dl) ((4, .val (I m)) :: (0, .val (.bool true)) :: [])) =
((rl[(1 : Nat)]? = some (I m)) ∧
((OT ((hut : Int) == m) true) ∧
R (.ret (.bool true)) [.lst Hl, .lst Dl])) := by kernel_rfl
theorem f102s1t (rl : List Value) (_ m _ left : Int) (_ : Nat → Int) (hut : Nat) (_ _ : Nat → Int) (Hl Dl Hl2 Hl3 Dl3 : List Value) (R : ARes → List WB → Prop) : (vx.call 102 [I hut, pS 2, pS 3, pS 4, pS 5, pS 6] (retW bs102 R) (m102 rl left Hl Dl) ((4, .val (I m)) :: (0, .val (.bool false)) :: (2, .val (.pointer (some ⟨3, 0 + hut * 1, none⟩))) :: (0, .put Hl2) :: (2, .con (C74s left (hut : Int) true)) :: (6, .conW (CW102 rl left (IntKind.i64.wrap (hut + 1)) Hl2 Dl true Hl3 Dl3)) :: [])) =
((rl[(1 : Nat)]? = some (I m)) ∧
((OT ((hut : Int) == m) false) ∧
(((((0 : Int) ≤ hut) ∧ ((hut : Int) < (↑(5 : Nat) : Int))) ∧ (VR (.pointer (some ⟨3, 0 + hut * 1, none⟩)))) ∧
(((0 + hut * 1 + 1 ≤ Hl.length) ∧ (List.take ((0 : Nat) + hut * (1 : Nat)) Hl ++ [Value.int .i64 (-1 : Int)] ++ List.drop ((0 : Nat) + hut * (1 : Nat) + (1 : Nat)) Hl = Hl2)) ∧
(CA 74 (C74s left (hut : Int) true) ⟨⟨[I left, I hut], []⟩, []⟩ <|
(CW 102 (CW102 rl left (IntKind.i64.wrap (hut + 1)) Hl2 Dl true Hl3 Dl3) ⟨⟨[I (IntKind.i64.wrap ((hut : Int) + (1 : Int))), I left], []⟩, [rl, Hl2, Dl], []⟩ <|
R (.ret (.bool true)) [.lst Hl3, .lst Dl3])))))) := by kernel_rfl
theorem f102s1f (rl : List Value) (_ m _ left : Int) (_ : Nat → Int) (hut : Nat) (_ _ : Nat → Int) (Hl Dl Hl2 Hl3 Dl3 : List Value) (R : ARes → List WB → Prop) : (vx.call 102 [I hut, pS 2, pS 3, pS 4, pS 5, pS 6] (retW bs102 R) (m102 rl left Hl Dl) ((4, .val (I m)) :: (0, .val (.bool false)) :: (2, .val (.pointer (some ⟨3, 0 + hut * 1, none⟩))) :: (0, .put Hl2) :: (2, .con (C74s left (hut : Int) true)) :: (6, .conW (CW102 rl left (IntKind.i64.wrap (hut + 1)) Hl2 Dl false Hl3 Dl3)) :: [])) =
((rl[(1 : Nat)]? = some (I m)) ∧
((OT ((hut : Int) == m) false) ∧
(((((0 : Int) ≤ hut) ∧ ((hut : Int) < (↑(5 : Nat) : Int))) ∧ (VR (.pointer (some ⟨3, 0 + hut * 1, none⟩)))) ∧
(((0 + hut * 1 + 1 ≤ Hl.length) ∧ (List.take ((0 : Nat) + hut * (1 : Nat)) Hl ++ [Value.int .i64 (-1 : Int)] ++ List.drop ((0 : Nat) + hut * (1 : Nat) + (1 : Nat)) Hl = Hl2)) ∧
(CA 74 (C74s left (hut : Int) true) ⟨⟨[I left, I hut], []⟩, []⟩ <|
(CW 102 (CW102 rl left (IntKind.i64.wrap (hut + 1)) Hl2 Dl false Hl3 Dl3) ⟨⟨[I (IntKind.i64.wrap ((hut : Int) + (1 : Int))), I left], []⟩, [rl, Hl2, Dl], []⟩ <|
R (.ret (.bool false)) [.lst Hl3, .lst Dl3])))))) := by kernel_rfl
theorem f102s2t (rl : List Value) (_ m F left : Int) (_ : Nat → Int) (hut : Nat) (_ _ : Nat → Int) (Hl Dl Hl2 Hl3 Dl3 : List Value) (R : ARes → List WB → Prop) : (vx.call 102 [I hut, pS 2, pS 3, pS 4, pS 5, pS 6] (retW bs102 R) (m102 rl left Hl Dl) ((4, .val (I m)) :: (0, .val (.bool false)) :: (2, .val (.pointer (some ⟨3, 0 + hut * 1, none⟩))) :: (0, .put Hl2) :: (2, .con (C74s left (hut : Int) false)) :: (2, .val (I F)) :: (1, .con (C74s F (hut : Int) false)) :: (6, .conW (CW102 rl left (IntKind.i64.wrap (hut + 1)) Hl2 Dl true Hl3 Dl3)) :: [])) =
((rl[(1 : Nat)]? = some (I m)) ∧
((OT ((hut : Int) == m) false) ∧
(((((0 : Int) ≤ hut) ∧ ((hut : Int) < (↑(5 : Nat) : Int))) ∧ (VR (.pointer (some ⟨3, 0 + hut * 1, none⟩)))) ∧
(((0 + hut * 1 + 1 ≤ Hl.length) ∧ (List.take ((0 : Nat) + hut * (1 : Nat)) Hl ++ [Value.int .i64 (-1 : Int)] ++ List.drop ((0 : Nat) + hut * (1 : Nat) + (1 : Nat)) Hl = Hl2)) ∧
(CA 74 (C74s left (hut : Int) false) ⟨⟨[I left, I hut], []⟩, []⟩ <|
((rl[(2 : Nat)]? = some (I F)) ∧
(CA 74 (C74s F (hut : Int) false) ⟨⟨[I F, I hut], []⟩, []⟩ <|
(CW 102 (CW102 rl left (IntKind.i64.wrap (hut + 1)) Hl2 Dl true Hl3 Dl3) ⟨⟨[I (IntKind.i64.wrap ((hut : Int) + (1 : Int))), I left], []⟩, [rl, Hl2, Dl], []⟩ <|
R (.ret (.bool true)) [.lst Hl3, .lst Dl3])))))))) := by kernel_rfl
theorem f102s2f (rl : List Value) (_ m F left : Int) (_ : Nat → Int) (hut : Nat) (_ _ : Nat → Int) (Hl Dl Hl2 Hl3 Dl3 : List Value) (R : ARes → List WB → Prop) : (vx.call 102 [I hut, pS 2, pS 3, pS 4, pS 5, pS 6] (retW bs102 R) (m102 rl left Hl Dl) ((4, .val (I m)) :: (0, .val (.bool false)) :: (2, .val (.pointer (some ⟨3, 0 + hut * 1, none⟩))) :: (0, .put Hl2) :: (2, .con (C74s left (hut : Int) false)) :: (2, .val (I F)) :: (1, .con (C74s F (hut : Int) false)) :: (6, .conW (CW102 rl left (IntKind.i64.wrap (hut + 1)) Hl2 Dl false Hl3 Dl3)) :: [])) =
((rl[(1 : Nat)]? = some (I m)) ∧
((OT ((hut : Int) == m) false) ∧
(((((0 : Int) ≤ hut) ∧ ((hut : Int) < (↑(5 : Nat) : Int))) ∧ (VR (.pointer (some ⟨3, 0 + hut * 1, none⟩)))) ∧
(((0 + hut * 1 + 1 ≤ Hl.length) ∧ (List.take ((0 : Nat) + hut * (1 : Nat)) Hl ++ [Value.int .i64 (-1 : Int)] ++ List.drop ((0 : Nat) + hut * (1 : Nat) + (1 : Nat)) Hl = Hl2)) ∧
(CA 74 (C74s left (hut : Int) false) ⟨⟨[I left, I hut], []⟩, []⟩ <|
((rl[(2 : Nat)]? = some (I F)) ∧
(CA 74 (C74s F (hut : Int) false) ⟨⟨[I F, I hut], []⟩, []⟩ <|
(CW 102 (CW102 rl left (IntKind.i64.wrap (hut + 1)) Hl2 Dl false Hl3 Dl3) ⟨⟨[I (IntKind.i64.wrap ((hut : Int) + (1 : Int))), I left], []⟩, [rl, Hl2, Dl], []⟩ <|
R (.ret (.bool false)) [.lst Hl3, .lst Dl3])))))))) := by kernel_rfl
theorem f102lt (rl : List Value) (_ m F left : Int) (f : Nat → Int) (hut : Nat) (_ : Nat) (_ : Nat → Int) (Hl Dl Hl2 Hl3 Dl3 : List Value) (R : ARes → List WB → Prop) : (vx.call 102 [I hut, pS 2, pS 3, pS 4, pS 5, pS 6] (retW bs102 R) (m102 rl left Hl Dl) ((4, .val (I m)) :: (0, .val (.bool false)) :: (2, .val (.pointer (some ⟨3, 0 + hut * 1, none⟩))) :: (0, .put Hl2) :: (2, .con (C74s left (hut : Int) false)) :: (2, .val (I F)) :: (1, .con (C74s F (hut : Int) true)) :: (5, .val (.pointer (.some ⟨(2 : Nat), (3 : Nat) + hut * (1 : Nat), .none⟩))) :: (0, .val (I (f hut))) :: (1, .loopW T102 AExit.ret R102 fun _ => { hs := { vs := [Value.bool true], ns := [] }, ls := [Hl3, Dl3], es := [] }) :: [])) =
((rl[(1 : Nat)]? = some (I m)) ∧
((OT ((hut : Int) == m) false) ∧
(((((0 : Int) ≤ hut) ∧ ((hut : Int) < (↑(5 : Nat) : Int))) ∧ (VR (.pointer (some ⟨3, 0 + hut * 1, none⟩)))) ∧
(((0 + hut * 1 + 1 ≤ Hl.length) ∧ (List.take ((0 : Nat) + hut * (1 : Nat)) Hl ++ [Value.int .i64 (-1 : Int)] ++ List.drop ((0 : Nat) + hut * (1 : Nat) + (1 : Nat)) Hl = Hl2)) ∧
(CA 74 (C74s left (hut : Int) false) ⟨⟨[I left, I hut], []⟩, []⟩ <|
((rl[(2 : Nat)]? = some (I F)) ∧
(CA 74 (C74s F (hut : Int) true) ⟨⟨[I F, I hut], []⟩, []⟩ <|
(((((0 : Int) ≤ hut) ∧ ((hut : Int) < (↑(5 : Nat) : Int))) ∧ (((.pointer (.some ⟨(2 : Nat), (3 : Nat) + hut * (1 : Nat), .none⟩)) : Value) = (.pointer (.some ⟨(2 : Nat), (3 : Nat) + hut * (1 : Nat), .none⟩)))) ∧
((rl[(3 : Nat) + hut * (1 : Nat)]? = some (I (f hut))) ∧
(LW p102 T102 ⟨⟨[I hut, I (f hut), I 0, I left], []⟩, [rl, Hl2, Dl], []⟩ .ret R102 ⟨⟨[.bool true], []⟩, [Hl3, Dl3], []⟩ <|
R (.ret (.bool true)) [.lst Hl3, .lst Dl3])))))))))) := by kernel_rfl
theorem f102lf (rl : List Value) (_ m F left : Int) (f : Nat → Int) (hut : Nat) (lim : Nat) (_ : Nat → Int) (Hl Dl Hl2 Hl3 Dl3 : List Value) (R : ARes → List WB → Prop) : (vx.call 102 [I hut, pS 2, pS 3, pS 4, pS 5, pS 6] (retW bs102 R) (m102 rl left Hl Dl) ((4, .val (I m)) :: (0, .val (.bool false)) :: (2, .val (.pointer (some ⟨3, 0 + hut * 1, none⟩))) :: (0, .put Hl2) :: (2, .con (C74s left (hut : Int) false)) :: (2, .val (I F)) :: (1, .con (C74s F (hut : Int) true)) :: (5, .val (.pointer (.some ⟨(2 : Nat), (3 : Nat) + hut * (1 : Nat), .none⟩))) :: (0, .val (I (f hut))) :: (1, .loopW T102 (.exit 0) T102 fun _ => h102 rl left hut (f hut) Hl3 Dl3 lim) :: [])) =
((rl[(1 : Nat)]? = some (I m)) ∧
((OT ((hut : Int) == m) false) ∧
(((((0 : Int) ≤ hut) ∧ ((hut : Int) < (↑(5 : Nat) : Int))) ∧ (VR (.pointer (some ⟨3, 0 + hut * 1, none⟩)))) ∧
(((0 + hut * 1 + 1 ≤ Hl.length) ∧ (List.take ((0 : Nat) + hut * (1 : Nat)) Hl ++ [Value.int .i64 (-1 : Int)] ++ List.drop ((0 : Nat) + hut * (1 : Nat) + (1 : Nat)) Hl = Hl2)) ∧
(CA 74 (C74s left (hut : Int) false) ⟨⟨[I left, I hut], []⟩, []⟩ <|
((rl[(2 : Nat)]? = some (I F)) ∧
(CA 74 (C74s F (hut : Int) true) ⟨⟨[I F, I hut], []⟩, []⟩ <|
(((((0 : Int) ≤ hut) ∧ ((hut : Int) < (↑(5 : Nat) : Int))) ∧ (((.pointer (.some ⟨(2 : Nat), (3 : Nat) + hut * (1 : Nat), .none⟩)) : Value) = (.pointer (.some ⟨(2 : Nat), (3 : Nat) + hut * (1 : Nat), .none⟩)))) ∧
((rl[(3 : Nat) + hut * (1 : Nat)]? = some (I (f hut))) ∧
(LW p102 T102 ⟨⟨[I hut, I (f hut), I 0, I left], []⟩, [rl, Hl2, Dl], []⟩ (.exit 0) T102 (h102 rl left hut (f hut) Hl3 Dl3 lim) <|
R (.ret (.bool false)) [.lst Hl3, .lst Dl3])))))))))) := by kernel_rfl
theorem b102t (rl : List Value) (many _ _ left : Int) (_ : Nat → Int) (hut : Nat) (lim : Int) (h : Nat) (_ d _ : Nat → Int) (Hl Dl Hl2 Dl2 Hl3 Dl3 _ : List Value) (R : Nat → AExit → Hw → Prop) : (vx.code none (.l p102) (leafW [T102, R102] R) (T102.inst (h102 rl left hut lim Hl Dl h)) ([(0, .split ((4, .val (.pointer (some ⟨6, 0 + h * 1, none⟩))) :: (0, .val (I (d h))) :: (1, .val (I many)) :: [(0, .split ([(3, .tm 0 [])]) ((3, .val (.pointer (some ⟨3, 0 + hut * 1, none⟩))) :: (0, .put Hl2) :: (1, .val (.pointer (some ⟨6, 0 + h * 1, none⟩))) :: (0, .val (I (d h))) :: (1, .val (.pointer (some ⟨6, 0 + h * 1, none⟩))) :: (0, .put Dl2) :: (3, .conW (CW102 rl left (IntKind.i64.wrap (hut + 1)) Hl2 Dl2 true Hl3 Dl3)) :: [(2, .tm 1 [])]))]) ([(1, .tm 0 [])]))])) =
(((decide ((h : Int) < lim)) = true → (((((0 : Int) ≤ h) ∧ ((h : Int) < (↑(8 : Nat) : Int))) ∧ (VR (.pointer (some ⟨6, 0 + h * 1, none⟩)))) ∧
((Dl[0 + h * 1]? = some (I (d h))) ∧
((rl[(0 : Nat)]? = some (I many)) ∧
(((d h == many) = true → R (0 : Nat) .normal ⟨⟨[I hut, I lim, I (IntKind.i64.wrap ((h : Int) + (1 : Int))), I left], []⟩, [rl, Hl, Dl], []⟩) ∧
((d h == many) = false → (((((0 : Int) ≤ hut) ∧ ((hut : Int) < (↑(5 : Nat) : Int))) ∧ (VR (.pointer (some ⟨3, 0 + hut * 1, none⟩)))) ∧
(((0 + hut * 1 + 1 ≤ Hl.length) ∧ (List.take ((0 : Nat) + hut * (1 : Nat)) Hl ++ [Value.int .i64 (h : Int)] ++ List.drop ((0 : Nat) + hut * (1 : Nat) + (1 : Nat)) Hl = Hl2)) ∧
(((((0 : Int) ≤ h) ∧ ((h : Int) < (↑(8 : Nat) : Int))) ∧ (VR (.pointer (some ⟨6, 0 + h * 1, none⟩)))) ∧
((Dl[0 + h * 1]? = some (I (d h))) ∧
(((((0 : Int) ≤ h) ∧ ((h : Int) < (↑(8 : Nat) : Int))) ∧ (VR (.pointer (some ⟨6, 0 + h * 1, none⟩)))) ∧
(((0 + h * 1 + 1 ≤ Dl.length) ∧ (List.take ((0 : Nat) + h * (1 : Nat)) Dl ++ [Value.int .i64 (IntKind.i64.wrap (d h + (1 : Int)))] ++ List.drop ((0 : Nat) + h * (1 : Nat) + (1 : Nat)) Dl = Dl2)) ∧
(CW 102 (CW102 rl left (IntKind.i64.wrap (hut + 1)) Hl2 Dl2 true Hl3 Dl3) ⟨⟨[I (IntKind.i64.wrap ((hut : Int) + (1 : Int))), I left], []⟩, [rl, Hl2, Dl2], []⟩ <|
R (1 : Nat) .ret ⟨⟨[.bool true], []⟩, [Hl3, Dl3], []⟩))))))))))))) ∧
((decide ((h : Int) < lim)) = false → R (0 : Nat) (.exit 0) ⟨⟨[I hut, I lim, I h, I left], []⟩, [rl, Hl, Dl], []⟩)) := by kernel_rfl
theorem b102f (rl : List Value) (many _ _ left : Int) (_ : Nat → Int) (hut : Nat) (lim : Int) (h : Nat) (_ d d3 : Nat → Int) (Hl Dl Hl2 Dl2 Hl3 Dl3 Dl4 : List Value) (R : Nat → AExit → Hw → Prop) : (vx.code none (.l p102) (leafW [T102, R102] R) (T102.inst (h102 rl left hut lim Hl Dl h)) ([(0, .split ((4, .val (.pointer (some ⟨6, 0 + h * 1, none⟩))) :: (0, .val (I (d h))) :: (1, .val (I many)) :: [(0, .split ([(3, .tm 0 [])]) ((3, .val (.pointer (some ⟨3, 0 + hut * 1, none⟩))) :: (0, .put Hl2) :: (1, .val (.pointer (some ⟨6, 0 + h * 1, none⟩))) :: (0, .val (I (d h))) :: (1, .val (.pointer (some ⟨6, 0 + h * 1, none⟩))) :: (0, .put Dl2) :: (3, .conW (CW102 rl left (IntKind.i64.wrap (hut + 1)) Hl2 Dl2 false Hl3 Dl3)) :: (2, .val (.pointer (some ⟨6, 0 + h * 1, none⟩))) :: (0, .val (I (d3 h))) :: (1, .val (.pointer (some ⟨6, 0 + h * 1, none⟩))) :: (0, .put Dl4) :: [(2, .tm 0 [])]))]) ([(1, .tm 0 [])]))])) =
(((decide ((h : Int) < lim)) = true → (((((0 : Int) ≤ h) ∧ ((h : Int) < (↑(8 : Nat) : Int))) ∧ (VR (.pointer (some ⟨6, 0 + h * 1, none⟩)))) ∧
((Dl[0 + h * 1]? = some (I (d h))) ∧
((rl[(0 : Nat)]? = some (I many)) ∧
(((d h == many) = true → R (0 : Nat) .normal ⟨⟨[I hut, I lim, I (IntKind.i64.wrap ((h : Int) + (1 : Int))), I left], []⟩, [rl, Hl, Dl], []⟩) ∧
((d h == many) = false → (((((0 : Int) ≤ hut) ∧ ((hut : Int) < (↑(5 : Nat) : Int))) ∧ (VR (.pointer (some ⟨3, 0 + hut * 1, none⟩)))) ∧
(((0 + hut * 1 + 1 ≤ Hl.length) ∧ (List.take ((0 : Nat) + hut * (1 : Nat)) Hl ++ [Value.int .i64 (h : Int)] ++ List.drop ((0 : Nat) + hut * (1 : Nat) + (1 : Nat)) Hl = Hl2)) ∧
(((((0 : Int) ≤ h) ∧ ((h : Int) < (↑(8 : Nat) : Int))) ∧ (VR (.pointer (some ⟨6, 0 + h * 1, none⟩)))) ∧
((Dl[0 + h * 1]? = some (I (d h))) ∧
(((((0 : Int) ≤ h) ∧ ((h : Int) < (↑(8 : Nat) : Int))) ∧ (VR (.pointer (some ⟨6, 0 + h * 1, none⟩)))) ∧
(((0 + h * 1 + 1 ≤ Dl.length) ∧ (List.take ((0 : Nat) + h * (1 : Nat)) Dl ++ [Value.int .i64 (IntKind.i64.wrap (d h + (1 : Int)))] ++ List.drop ((0 : Nat) + h * (1 : Nat) + (1 : Nat)) Dl = Dl2)) ∧
(CW 102 (CW102 rl left (IntKind.i64.wrap (hut + 1)) Hl2 Dl2 false Hl3 Dl3) ⟨⟨[I (IntKind.i64.wrap ((hut : Int) + (1 : Int))), I left], []⟩, [rl, Hl2, Dl2], []⟩ <|
(((((0 : Int) ≤ h) ∧ ((h : Int) < (↑(8 : Nat) : Int))) ∧ (VR (.pointer (some ⟨6, 0 + h * 1, none⟩)))) ∧
((Dl3[0 + h * 1]? = some (I (d3 h))) ∧
(((((0 : Int) ≤ h) ∧ ((h : Int) < (↑(8 : Nat) : Int))) ∧ (VR (.pointer (some ⟨6, 0 + h * 1, none⟩)))) ∧
(((0 + h * 1 + 1 ≤ Dl3.length) ∧ (List.take ((0 : Nat) + h * (1 : Nat)) Dl3 ++ [Value.int .i64 (IntKind.i64.wrap (d3 h - (1 : Int)))] ++ List.drop ((0 : Nat) + h * (1 : Nat) + (1 : Nat)) Dl3 = Dl4)) ∧
R (0 : Nat) .normal ⟨⟨[I hut, I lim, I (IntKind.i64.wrap ((h : Int) + (1 : Int))), I left], []⟩, [rl, Hl3, Dl4], []⟩))))))))))))))))) ∧
((decide ((h : Int) < lim)) = false → R (0 : Nat) (.exit 0) ⟨⟨[I hut, I lim, I h, I left], []⟩, [rl, Hl, Dl], []⟩)) := by kernel_rfl
theorem C74s_ok {s i : Nat} (hs : s < 256) (hi : i < 9) : ConOK Tryd.prog 74 (C74s s i (s.testBit i)) := by
 refine con_of vx_sound _ (fun y hy => ?_) rfl (fun y _ => rfl) (fun y hy => ?_) rfl (Nat.le_of_ble_eq_true rfl) (by rw [nglob]; exact Nat.le_of_ble_eq_true rfl)
 · cases hy
   refine ⟨_, (f74 s i _).mpr ⟨⟨⟨by omega, by omega⟩, rfl⟩, ?_⟩⟩
   rw [bt_eq hs hi]
   cases s.testBit i with
   | true => exact ⟨fun _ => rfl, fun h => by simp at h⟩
   | false => exact ⟨fun h => by simp at h, fun _ => rfl⟩
 · cases hy
   intro cs hcs
   cases hcs
noncomputable def dsD (g : Nat → Nat) : List Value := ints 8 fun i => ((g i : Nat) : Int)
theorem dsD_put (g : Nat → Nat) {i : Nat} (v : Nat) (h : i < 8) : (dsD g).take (0 + i * 1) ++ [I (v : Nat)] ++ (dsD g).drop (0 + i * 1 + 1) = dsD (upN g i v) := by
 unfold dsD
 rw [ints_put _ _ h]
 congr 1
 funext k
 simp only [upN]
 split <;> rfl
theorem dsL_put (g : Nat → Int) {i : Nat} (v : Int) (h : i < 5) : (ints 5 g).take (0 + i * 1) ++ [I v] ++ (ints 5 g).drop (0 + i * 1 + 1) = ints 5 (upI g i v) := by
 rw [ints_put _ _ h]
 rfl
theorem dsD_len (g : Nat → Nat) : (dsD g).length = 8 := ints_len 8 _
theorem dsD_get (g : Nat → Nat) {i : Nat} (h : i < 8) : (dsD g)[0 + i * 1]? = some (I (g i : Nat)) := ints_get _ h
section
variable {many m F left : Nat} {lim : Nat → Nat}
noncomputable def rl5 (many m F : Nat) (lim : Nat → Nat) : List Value := rcL many m F fun i => (lim i : Nat)
theorem rl5_at : ∀ v ∈ rl5 many m F lim, atomic v = true := by
 intro v hv
 simp only [rl5, rcL, List.mem_cons, List.not_mem_nil, or_false] at hv
 rcases hv with rfl | rfl | rfl | rfl | rfl | rfl | rfl | rfl <;> rfl
theorem rl5_get {i : Nat} (h : i < 5) : (rl5 many m F lim)[3 + i * 1]? = some (I (lim i : Nat)) := by
 obtain rfl | rfl | rfl | rfl | rfl : i = 0 ∨ i = 1 ∨ i = 2 ∨ i = 3 ∨ i = 4 := by omega
 all_goals rfl
def skpN (F left i : Nat) : Bool := left.testBit i || !F.testBit i
noncomputable def stD (many m F left : Nat) (lim : Nat → Nat) (hut h : Nat) (σ : Ds) : Hw := h102 (rl5 many m F lim) left hut (lim hut : Nat) (ints 5 σ.L) (dsD σ.D) h
noncomputable def outD (many m F left : Nat) (lim : Nat → Nat) (hut h : Nat) (x : Bool × Ds) : AExit × Nat × Hw := match x with
 | (true, σ) => (.ret, 1, ⟨⟨[.bool true], []⟩, [ints 5 σ.L, dsD σ.D], []⟩)
 | (false, σ) => (.exit 0, 0, stD many m F left lim hut h σ)
noncomputable def C102 (many m F left : Nat) (lim : Nat → Nat) (hut : Nat) (σ : Ds) (r : Bool × Ds) : ConW := CW102 (rl5 many m F lim) left hut (ints 5 σ.L) (dsD σ.D) r.1 (ints 5 r.2.L) (dsD r.2.D)
def DsB (b : Nat) (σ : Ds) : Prop := ∀ h, σ.D h ≤ b
theorem clD (hut h : Nat) (σ : Ds) : ClW (stD many m F left lim hut h σ) := by
 refine ⟨fun cs hcs => ?_, fun es hes => (by cases hes)⟩
 simp only [stD, h102, List.mem_cons, List.not_mem_nil, or_false] at hcs
 rcases hcs with rfl | rfl | rfl
 · exact rl5_at
 · exact ints_at _ _
 · exact ints_at _ _
theorem clDR (L : Nat → Int) (D : Nat → Nat) : ClW ⟨⟨[.bool true], []⟩, [ints 5 L, dsD D], []⟩ := by
 refine ⟨fun cs hcs => ?_, fun es hes => (by cases hes)⟩
 simp only [List.mem_cons, List.not_mem_nil, or_false] at hcs
 rcases hcs with rfl | rfl <;> exact ints_at _ _
theorem DsB.up {b : Nat} {σ : Ds} (h : DsB b σ) (L : Nat → Int) (i : Nat) : DsB (b + 1) ⟨L, upN σ.D i (σ.D i + 1)⟩ := by
 intro k
 show upN σ.D i (σ.D i + 1) k ≤ b + 1
 unfold upN
 split
 · have := h i; omega
 · have := h k; omega
theorem round102 (hm5 : m ≤ 5) (hmany : many ≤ 5) (hlim : ∀ i, i < m → lim i < 8) {k hut h : Nat} {σ : Ds} (hh : hut < m) (hσ : DsB hut σ)
    (ih : ∀ σ, DsB (hut + 1) σ → ConWOK Tryd.prog 102 (C102 many m F left lim (hut + 1) σ (drwF (skpN F left) lim many m k (hut + 1) σ)))
    {R : Nat → AExit → Hw → Prop}
    (h1 : h < lim hut → ∀ σ', DsB hut σ' → drwH many (drwF (skpN F left) lim many m k (hut + 1)) hut (lim hut - h) h σ = drwH many (drwF (skpN F left) lim many m k (hut + 1)) hut (lim hut - (h + 1)) (h + 1) σ' → R 0 .normal (stD many m F left lim hut (h + 1) σ'))
    (h2 : h < lim hut → ∀ σ', drwH many (drwF (skpN F left) lim many m k (hut + 1)) hut (lim hut - h) h σ = (true, σ') → R 1 .ret ⟨⟨[.bool true], []⟩, [ints 5 σ'.L, dsD σ'.D], []⟩)
    (h3 : ¬ h < lim hut → R 0 (.exit 0) (stD many m F left lim hut h σ)) :
    ∃ hs, vx.code none (.l p102) (leafW [T102, R102] R) (T102.inst (stD many m F left lim hut h σ)) hs := by
 by_cases hl : h < lim hut
 · have hlt := hlim hut hh
   have hw := wrS (i := h) (by omega)
   have hwm : IntKind.i64.wrap ((hut : Int) + 1) = ((hut + 1 : Nat) : Int) := wrapI (by omega) (by omega)
   have hb := hσ h
   have hd : IntKind.i64.wrap (((σ.D h : Nat) : Int) + 1) = ((σ.D h + 1 : Nat) : Int) := wrapI (by omega) (by omega)
   have hd2 : IntKind.i64.wrap (((σ.D h + 1 : Nat) : Int) - 1) = ((σ.D h : Nat) : Int) := by rw [wrapI (by omega) (by omega)]; omega
   have e1 : lim hut - h = (lim hut - (h + 1)) + 1 := by omega
   rw [e1] at h1 h2
   have hadd : DsB (hut + 1) ⟨upI σ.L hut h, upN σ.D h (σ.D h + 1)⟩ := hσ.up _ h
   have hC := ih _ hadd
   have hD := drwF_D (skp := skpN F left) (lim := lim) (many := many) (m := m) k (hut + 1) ⟨upI σ.L hut h, upN σ.D h (σ.D h + 1)⟩
   generalize hr : drwF (skpN F left) lim many m k (hut + 1) ⟨upI σ.L hut h, upN σ.D h (σ.D h + 1)⟩ = r at hC hD
   obtain ⟨rb, σ'⟩ := r
   simp only [C102] at hC
   rw [← hwm] at hC
   have hHl : (ints 5 σ.L).take (0 + hut * 1) ++ [I (h : Nat)] ++ (ints 5 σ.L).drop (0 + hut * 1 + 1) = ints 5 (upI σ.L hut h) := dsL_put _ _ (by omega)
   have hDl : (dsD σ.D).take (0 + h * 1) ++ [I (IntKind.i64.wrap (((σ.D h : Nat) : Int) + 1))] ++ (dsD σ.D).drop (0 + h * 1 + 1) = dsD (upN σ.D h (σ.D h + 1)) := by rw [hd]; exact dsD_put _ _ (by omega)
   have hLlen : (ints 5 σ.L).length = 5 := ints_len 5 _
   have q8 : ((0 : Int) ≤ (h : Int) ∧ (h : Int) < ((8 : Nat) : Int)) := ⟨by omega, by omega⟩
   have q5 : ((0 : Int) ≤ (hut : Int) ∧ (hut : Int) < ((5 : Nat) : Int)) := ⟨by omega, by omega⟩
   have S1 : (((σ.D h : Nat) : Int) == ((many : Nat) : Int)) = true → R 0 .normal (stD many m F left lim hut (h + 1) σ) := fun he => h1 hl σ hσ (drwH_skip (by
    have he : ((σ.D h : Nat) : Int) = many := by simpa using he
    omega))
   have ne : (((σ.D h : Nat) : Int) == ((many : Nat) : Int)) = false → σ.D h ≠ many := fun he e => by rw [e] at he; simp at he
   unfold stD h102 at S1
   rw [← hw] at S1
   cases rb with
   | true =>
    refine ⟨_, (b102t (rl5 many m F lim) many m F left (fun i => (lim i : Nat)) hut (lim hut : Nat) h (fun _ => 0) (fun i => ((σ.D i : Nat) : Int)) (fun _ => 0) (ints 5 σ.L) (dsD σ.D) (ints 5 (upI σ.L hut h)) (dsD (upN σ.D h (σ.D h + 1))) (ints 5 σ'.L) (dsD σ'.D) [] R).mpr ⟨fun _ => ?_, fun h => absurd (by omega) (of_decide_eq_false h)⟩⟩
    refine ⟨⟨q8, rfl⟩, dsD_get _ (by omega), rfl, S1, fun he => ?_⟩
    exact ⟨⟨q5, rfl⟩, ⟨by rw [hLlen]; omega, hHl⟩, ⟨q8, rfl⟩, dsD_get _ (by omega), ⟨q8, rfl⟩, ⟨by rw [dsD_len]; omega, hDl⟩, hC, rfl, h2 hl σ' (drwH_true (ne he) hr)⟩
   | false =>
    have hD : σ'.D = upN σ.D h (σ.D h + 1) := hD rfl
    have hget : (dsD σ'.D)[0 + h * 1]? = some (I (((σ.D h + 1 : Nat) : Int))) := by
     rw [dsD_get _ (show h < 8 by omega), hD]; simp only [upN, if_true]
    have hput : (dsD σ'.D).take (0 + h * 1) ++ [I (IntKind.i64.wrap (((σ.D h + 1 : Nat) : Int) - 1))] ++ (dsD σ'.D).drop (0 + h * 1 + 1) = dsD σ.D := by
     rw [hd2, dsD_put _ _ (show h < 8 by omega), hD]
     congr 1
     funext j
     simp only [upN]
     split
     · rename_i e; rw [e]
     · rfl
    have S2 : (((σ.D h : Nat) : Int) == ((many : Nat) : Int)) = false → R 0 .normal (stD many m F left lim hut (h + 1) ⟨σ'.L, σ.D⟩) := fun he => h1 hl ⟨σ'.L, σ.D⟩ hσ (drwH_false (ne he) hr)
    unfold stD h102 at S2
    rw [← hw] at S2
    refine ⟨_, (b102f (rl5 many m F lim) many m F left (fun i => (lim i : Nat)) hut (lim hut : Nat) h (fun _ => 0) (fun i => ((σ.D i : Nat) : Int)) (fun _ => ((σ.D h + 1 : Nat) : Int)) (ints 5 σ.L) (dsD σ.D) (ints 5 (upI σ.L hut h)) (dsD (upN σ.D h (σ.D h + 1))) (ints 5 σ'.L) (dsD σ'.D) (dsD σ.D) R).mpr ⟨fun _ => ?_, fun h => absurd (by omega) (of_decide_eq_false h)⟩⟩
    refine ⟨⟨q8, rfl⟩, dsD_get _ (by omega), rfl, S1, fun he => ?_⟩
    exact ⟨⟨q5, rfl⟩, ⟨by rw [hLlen]; omega, hHl⟩, ⟨q8, rfl⟩, dsD_get _ (by omega), ⟨q8, rfl⟩, ⟨by rw [dsD_len]; omega, hDl⟩, hC, rfl, ⟨q8, rfl⟩, hget, ⟨q8, rfl⟩, ⟨by rw [dsD_len]; omega, hput⟩, S2 he⟩
 · refine ⟨_, (b102t (rl5 many m F lim) many m F left (fun i => (lim i : Nat)) hut (lim hut : Nat) h (fun _ => 0) (fun _ => 0) (fun _ => 0) (ints 5 σ.L) (dsD σ.D) [] [] [] [] [] R).mpr ⟨fun h => absurd (of_decide_eq_true h) (by omega), fun _ => h3 hl⟩⟩
theorem loop102 (hm5 : m ≤ 5) (hmany : many ≤ 5) (hlim : ∀ i, i < m → lim i < 8) {k hut : Nat} {σ : Ds} (hh : hut < m) (hσ : DsB hut σ)
    (ih : ∀ σ, DsB (hut + 1) σ → ConWOK Tryd.prog 102 (C102 many m F left lim (hut + 1) σ (drwF (skpN F left) lim many m k (hut + 1) σ)))
    {T' : Tw} (hT' : [T102, R102][(outD many m F left lim hut (lim hut) (drwH many (drwF (skpN F left) lim many m k (hut + 1)) hut (lim hut) 0 σ)).2.1]? = some T') :
    LoopOW Tryd.prog none p102 T102 (stD many m F left lim hut 0 σ) (outD many m F left lim hut (lim hut) (drwH many (drwF (skpN F left) lim many m k (hut + 1)) hut (lim hut) 0 σ)).1 T' (outD many m F left lim hut (lim hut) (drwH many (drwF (skpN F left) lim many m k (hut + 1)) hut (lim hut) 0 σ)).2.2 := by
 refine loop_vcW (Ts := [T102, R102]) (k := 7) (X := Nat × Ds) (inv := fun x => x.1 ≤ lim hut ∧ DsB hut x.2) (μ := fun x => lim hut - x.1) (st := fun x => (0, stD many m F left lim hut x.1 x.2))
  (out := fun x => outD many m F left lim hut (lim hut) (drwH many (drwF (skpN F left) lim many m k (hut + 1)) hut (lim hut - x.1) x.1 x.2)) rfl vx_sound ?_ (by rw [nglob]; omega) (fun x hx => ?_) (x := (0, σ)) ⟨Nat.zero_le _, hσ⟩ rfl (Nat.le_of_ble_eq_true rfl) (by decide) hT'
 · intro T hT
   simp only [List.mem_cons, List.not_mem_nil, or_false] at hT
   rcases hT with rfl | rfl <;> rfl
 · obtain ⟨h, σ⟩ := x
   obtain ⟨hl, hσ⟩ := hx
   obtain ⟨hs, hr⟩ := round102 (h := h) hm5 hmany hlim hh hσ ih (R := RoundW (fun x : Nat × Ds => x.1 ≤ lim hut ∧ DsB hut x.2) (fun x => lim hut - x.1) (fun x => (0, stD many m F left lim hut x.1 x.2)) (fun x => outD many m F left lim hut (lim hut) (drwH many (drwF (skpN F left) lim many m k (hut + 1)) hut (lim hut - x.1) x.1 x.2)) (h, σ))
    (fun hlt σ' q1 q2 => ⟨⟨clD hut _ _, trivial⟩, .inl ⟨rfl, (h + 1, σ'), ⟨hlt, q1⟩, by show lim hut - (h + 1) < lim hut - h; omega, rfl, by show outD many m F left lim hut (lim hut) (drwH many (drwF (skpN F left) lim many m k (hut + 1)) hut (lim hut - (h + 1)) (h + 1) σ') = outD many m F left lim hut (lim hut) (drwH many (drwF (skpN F left) lim many m k (hut + 1)) hut (lim hut - h) h σ); rw [q2]⟩⟩)
    (fun hlt σ' q1 => ⟨⟨clDR _ _, trivial⟩, .inr ⟨by simp, by show outD many m F left lim hut (lim hut) (drwH many (drwF (skpN F left) lim many m k (hut + 1)) hut (lim hut - h) h σ) = _; rw [q1]; rfl⟩⟩)
    (fun hge => ⟨⟨clD hut _ _, trivial⟩, .inr ⟨by simp, by
     have e : h = lim hut := by have h9 : h ≤ lim hut := hl; omega
     subst e
     show outD many m F left lim hut (lim hut) (drwH many (drwF (skpN F left) lim many m k (hut + 1)) hut (lim hut - lim hut) (lim hut) σ) = _
     rw [Nat.sub_self]
     rfl⟩⟩)
   exact ⟨T102, hs, rfl, hr⟩
theorem C102_ok (hm5 : m ≤ 5) (hmany : many ≤ 5) (hlim : ∀ i, i < m → lim i < 8) (hF : F < 256) (hle : left < 256) (hsub : ∀ i, left.testBit i = true → F.testBit i = true) (k : Nat) : ∀ hut σ, hut ≤ m → m - hut < k → DsB hut σ → ConWOK Tryd.prog 102 (C102 many m F left lim hut σ (drwF (skpN F left) lim many m k hut σ)) := by
 induction k with
 | zero => intro hut σ _ h; omega
 | succ k ih =>
  intro hut σ hh hk hσ
  refine conW_of vx_sound (callable 102 _ _ rfl rfl) (fun x hx => ?_) (fun x _ => ⟨rfl, fun b hb => ?_⟩) (fun x hx => ?_) (Nat.le_of_ble_eq_true rfl) (by rw [nglob]; exact Nat.le_of_ble_eq_true rfl)
  · cases hx
    by_cases he : hut = m
    · have hg : drwF (skpN F left) lim many m (k + 1) hut σ = (true, σ) := by simp only [drwF, if_pos he]
      rw [hg]
      exact ⟨_, (f102e (rl5 many m F lim) many m F left (fun i => (lim i : Nat)) hut (ints 5 σ.L) (dsD σ.D) _).mpr ⟨rfl, tt (by rw [he]; simp), rfl, rfl⟩⟩
    · have hne : (((hut : Nat) : Int) == (m : Int)) = false := by simp only [beq_eq_false_iff_ne, ne_eq]; omega
      have hwm : IntKind.i64.wrap ((hut : Int) + 1) = ((hut + 1 : Nat) : Int) := wrapI (by omega) (by omega)
      have hLlen : (ints 5 σ.L).length = 5 := ints_len 5 _
      have hHl : (ints 5 σ.L).take (0 + hut * 1) ++ [I (-1)] ++ (ints 5 σ.L).drop (0 + hut * 1 + 1) = ints 5 (upI σ.L hut (-1)) := dsL_put _ _ (by omega)
      have q5 : ((0 : Int) ≤ (hut : Int) ∧ (hut : Int) < ((5 : Nat) : Int)) := ⟨by omega, by omega⟩
      have c1 := C74s_ok (s := left) (i := hut) hle (by omega)
      have c2 := C74s_ok (s := F) (i := hut) hF (by omega)
      by_cases hsk : skpN F left hut = true
      · have hg : drwF (skpN F left) lim many m (k + 1) hut σ = drwF (skpN F left) lim many m k (hut + 1) ⟨upI σ.L hut (-1), σ.D⟩ := by simp only [drwF, if_neg he, if_pos hsk]
        have hC := ih (hut + 1) ⟨upI σ.L hut (-1), σ.D⟩ (by omega) (by omega) (fun h => by have := hσ h; show σ.D h ≤ hut + 1; omega)
        rw [hg]
        generalize drwF (skpN F left) lim many m k (hut + 1) ⟨upI σ.L hut (-1), σ.D⟩ = r at hC
        obtain ⟨b, σ'⟩ := r
        simp only [C102] at hC
        rw [← hwm] at hC
        cases hlb : left.testBit hut with
        | true =>
         rw [hlb] at c1
         cases b with
         | true => exact ⟨_, (f102s1t (rl5 many m F lim) many m F left (fun i => (lim i : Nat)) hut (fun _ => 0) (fun _ => 0) (ints 5 σ.L) (dsD σ.D) (ints 5 (upI σ.L hut (-1))) (ints 5 σ'.L) (dsD σ'.D) _).mpr ⟨rfl, tf hne, ⟨q5, rfl⟩, ⟨by rw [hLlen]; omega, hHl⟩, c1, rfl, hC, rfl, rfl, rfl⟩⟩
         | false => exact ⟨_, (f102s1f (rl5 many m F lim) many m F left (fun i => (lim i : Nat)) hut (fun _ => 0) (fun _ => 0) (ints 5 σ.L) (dsD σ.D) (ints 5 (upI σ.L hut (-1))) (ints 5 σ'.L) (dsD σ'.D) _).mpr ⟨rfl, tf hne, ⟨q5, rfl⟩, ⟨by rw [hLlen]; omega, hHl⟩, c1, rfl, hC, rfl, rfl, rfl⟩⟩
        | false =>
         have hfb : F.testBit hut = false := by
          unfold skpN at hsk
          rw [hlb] at hsk
          simpa using hsk
         rw [hlb] at c1
         rw [hfb] at c2
         cases b with
         | true => exact ⟨_, (f102s2t (rl5 many m F lim) many m F left (fun i => (lim i : Nat)) hut (fun _ => 0) (fun _ => 0) (ints 5 σ.L) (dsD σ.D) (ints 5 (upI σ.L hut (-1))) (ints 5 σ'.L) (dsD σ'.D) _).mpr ⟨rfl, tf hne, ⟨q5, rfl⟩, ⟨by rw [hLlen]; omega, hHl⟩, c1, rfl, rfl, c2, rfl, hC, rfl, rfl, rfl⟩⟩
         | false => exact ⟨_, (f102s2f (rl5 many m F lim) many m F left (fun i => (lim i : Nat)) hut (fun _ => 0) (fun _ => 0) (ints 5 σ.L) (dsD σ.D) (ints 5 (upI σ.L hut (-1))) (ints 5 σ'.L) (dsD σ'.D) _).mpr ⟨rfl, tf hne, ⟨q5, rfl⟩, ⟨by rw [hLlen]; omega, hHl⟩, c1, rfl, rfl, c2, rfl, hC, rfl, rfl, rfl⟩⟩
      · have hlb : left.testBit hut = false := by
         unfold skpN at hsk
         cases hx : left.testBit hut with
         | false => rfl
         | true => rw [hx] at hsk; simp at hsk
        have hfb : F.testBit hut = true := by
         unfold skpN at hsk
         rw [hlb] at hsk
         simpa using hsk
        rw [hlb] at c1
        rw [hfb] at c2
        have hg : drwF (skpN F left) lim many m (k + 1) hut σ = drwH many (drwF (skpN F left) lim many m k (hut + 1)) hut (lim hut) 0 ⟨upI σ.L hut (-1), σ.D⟩ := by simp only [drwF, if_neg he, if_neg hsk]
        have hl := fun T' => loop102 (T' := T') (F := F) (left := left) hm5 hmany hlim (k := k) (hut := hut) (σ := ⟨upI σ.L hut (-1), σ.D⟩) (by omega) hσ (fun σ hσ => ih (hut + 1) σ (by omega) (by omega) hσ)
        rw [hg]
        generalize drwH many (drwF (skpN F left) lim many m k (hut + 1)) hut (lim hut) 0 ⟨upI σ.L hut (-1), σ.D⟩ = r at hl
        obtain ⟨b, σ'⟩ := r
        cases b with
        | true => exact ⟨_, (f102lt (rl5 many m F lim) many m F left (fun i => (lim i : Nat)) hut (lim hut) (fun _ => 0) (ints 5 σ.L) (dsD σ.D) (ints 5 (upI σ.L hut (-1))) (ints 5 σ'.L) (dsD σ'.D) _).mpr ⟨rfl, tf hne, ⟨q5, rfl⟩, ⟨by rw [hLlen]; omega, hHl⟩, c1, rfl, rfl, c2, rfl, ⟨q5, rfl⟩, rl5_get (by omega), clD hut 0 ⟨upI σ.L hut (-1), σ.D⟩, hl R102 rfl, rfl, rfl⟩⟩
        | false => exact ⟨_, (f102lf (rl5 many m F lim) many m F left (fun i => (lim i : Nat)) hut (lim hut) (fun _ => 0) (ints 5 σ.L) (dsD σ.D) (ints 5 (upI σ.L hut (-1))) (ints 5 σ'.L) (dsD σ'.D) _).mpr ⟨rfl, tf hne, ⟨q5, rfl⟩, ⟨by rw [hLlen]; omega, hHl⟩, c1, rfl, rfl, c2, rfl, ⟨q5, rfl⟩, rl5_get (by omega), clD hut 0 ⟨upI σ.L hut (-1), σ.D⟩, hl T102 rfl, rfl, rfl⟩⟩
  · simp only [C102, CW102, List.mem_cons, List.not_mem_nil, or_false] at hb
    rcases hb with rfl | rfl <;> exact ints_at _ _
  · cases hx
    exact ⟨fun cs hcs => by
     simp only [List.mem_cons, List.not_mem_nil, or_false] at hcs
     rcases hcs with rfl | rfl | rfl
     · exact rl5_at
     · exact ints_at _ _
     · exact ints_at _ _, fun es hes => by cases hes⟩
end
end Go.Ab
set_option maxRecDepth 100000
namespace Go.Ab
open Go Go.RowKit Go.Proofs
def popN (s : Nat) : Nat := (bitsL s).length
theorem f101all (R : Nat → ARes → Prop) : (Nat.rec True (fun i ih => vx.call 101 [I (i : Int)] (retK (R i)) m2d [] ∧ ih) 256 : Prop) = (Nat.rec True (fun i ih => R i (.ret (I ((popN i : Nat) : Int))) ∧ ih) 256 : Prop) := by kernel_rfl
noncomputable def C101 (s : Nat) : Con where
 A := .hole .nil
 bs := [.dead, .dead]
 pre y := y = ⟨⟨[I s], []⟩, []⟩
 res _ := .ret (I (popN s : Nat))
theorem C101_ok {s : Nat} (hs : s < 256) : ConOK Tryd.prog 101 (C101 s) := by
 have hall := (f101all fun i r => r = .ret (I ((popN i : Nat) : Int))).mpr (rec_all (P := fun i => (ARes.ret (I ((popN i : Nat) : Int))) = ARes.ret (I ((popN i : Nat) : Int))) (n := 256) fun i _ => rfl)
 have one := rec_get (P := fun i => vx.call 101 [I (i : Int)] (retK fun r => r = .ret (I ((popN i : Nat) : Int))) m2d []) hall s hs
 refine con_of vx_sound _ (fun y hy => ?_) rfl (fun y _ => rfl) (fun y hy => ?_) rfl (Nat.le_of_ble_eq_true rfl) (by rw [nglob]; exact Nat.le_of_ble_eq_true rfl)
 · cases hy
   exact ⟨_, one⟩
 · cases hy
   intro cs hcs
   cases hcs
end Go.Ab
set_option maxRecDepth 100000
namespace Go.Ab
open Go Go.RowKit Go.Proofs
def p96o : Loc := .l (.r (.top 96))
def p96i : Loc := .l (.r (.r (.l (.l (.r (.r (.l (.l (.r (.top 96))))))))))
def p83 : Loc := .l (.r (.l (.r (.r (.top 83)))))
def p85 : Loc := .l (.r (.r (.top 85)))
noncomputable def Zp : TL := .val nilS (.val (.int .i64 0) (.val (.bool false) .nil))
noncomputable def R96 : Tw := ⟨35, mkS 35 [], 25, [.dead, .dead, .dead, .dead, .dead, .dead, .dead, .cells Zp 99 .var, .cells Z1 37 .var, .cells Zp 99 .var, .dead, .dead, .dead, .dead, .dead, .cells Zp 99 .var, .dead, .cells Zp 99 .var, .cells (.slice 25 0 (.hole (.hole .nil))) 99 .var, .defs, .ended (some 0) 15 (mkS 15 [(4, .ptr 17 0 .nil), (5, .ptr 18 0 .nil)]) #[8] p83, .dead, .dead, .defs, .ended none 15 (mkS 15 []) #[8] p85, .list 3 .row]⟩
noncomputable def r96 (m left : Nat) (L : Nat → Int) : Hw := ⟨⟨[I left, .bool true], [(m, m)]⟩, [ints m L], []⟩
end Go.Ab
namespace Go.Ab
def cntL (L : Nat → Int) : Nat → Nat → Nat
 | 0, _ => 0
 | i + 1, h => cntL L i h + (if L i = (h : Int) then 1 else 0)
theorem cntL_congr {L Q : Nat → Int} {h : Nat} : ∀ i, (∀ j, j < i → L j = Q j) → cntL L i h = cntL Q i h := by
 intro i
 induction i with
 | zero => intro _; rfl
 | succ i ih => intro hh; simp only [cntL]; rw [ih fun j hj => hh j (by omega), hh i (by omega)]
theorem cntL_mono {L : Nat → Int} {h i : Nat} : ∀ j, i ≤ j → cntL L i h ≤ cntL L j h := by
 intro j
 induction j with
 | zero => intro hj; obtain rfl : i = 0 := by omega
           exact Nat.le_refl _
 | succ j ih =>
  intro hj
  by_cases e : i = j + 1
  · subst e; exact Nat.le_refl _
  · have := ih (by omega)
    simp only [cntL]; omega
section
variable {skp : Nat → Bool} {lim : Nat → Nat} {many m : Nat}
structure Vl (skp : Nat → Bool) (lim : Nat → Nat) (many m : Nat) (L : Nat → Int) : Prop where
 no : ∀ i, i < m → skp i = true → L i = -1
 yes : ∀ i, i < m → skp i = false → ∃ h, h < lim i ∧ L i = ((h : Nat) : Int)
 few : ∀ h, cntL L m h ≤ many
theorem Vl.le {L : Nat → Int} {i : Nat} (h : Vl skp lim many m L) (hi : i ≤ m) : Vl skp lim many i L :=
 ⟨fun j hj => h.no j (by omega), fun j hj => h.yes j (by omega), fun x => Nat.le_trans (cntL_mono m hi) (h.few x)⟩
theorem Vl.congr {L Q : Nat → Int} (h : Vl skp lim many m L) (e : ∀ j, j < m → L j = Q j) : Vl skp lim many m Q :=
 ⟨fun j hj hs => by rw [← e j hj]; exact h.no j hj hs, fun j hj hs => by rw [← e j hj]; exact h.yes j hj hs, fun x => by rw [← cntL_congr m e]; exact h.few x⟩
def RpD (i : Nat) (σ : Ds) : Prop := ∀ h, σ.D h = cntL σ.L i h
def BefI (n : Nat) (g Q : Nat → Int) : Prop := ∀ i, i < n → (∀ j, j < i → g j = Q j) → g i ≤ Q i
structure DrwOK (skp : Nat → Bool) (lim : Nat → Nat) (many m hut : Nat) (h0 : Int) (σ : Ds) (x : Bool × Ds) : Prop where
 same : ∀ j, j < hut → x.2.L j = σ.L j
 tru : x.1 = true → Vl skp lim many m x.2.L ∧ ∀ Q, Vl skp lim many m Q → (∀ j, j < hut → Q j = σ.L j) → (hut < m → h0 ≤ Q hut) → BefI m x.2.L Q
 fls : x.1 = false → hut < m ∧ ∀ Q, Vl skp lim many m Q → (∀ j, j < hut → Q j = σ.L j) → ¬ h0 ≤ Q hut
theorem upI_same {g : Nat → Int} {i : Nat} {v : Int} : upI g i v i = v := by simp only [upI, if_true]
theorem upI_other {g : Nat → Int} {i j : Nat} {v : Int} (h : j ≠ i) : upI g i v j = g j := by simp only [upI, if_neg h]
theorem cntL_up {L : Nat → Int} {i h : Nat} {v : Int} : cntL (upI L i v) (i + 1) h = cntL L i h + (if v = (h : Int) then 1 else 0) := by
 simp only [cntL]
 rw [upI_same, cntL_congr i fun j hj => upI_other (show j ≠ i by omega)]
theorem drwH_spec {rec : Ds → Bool × Ds} {hut : Nat} (hm : hut < m) (hs : skp hut = false)
    (hrec : ∀ σ, RpD (hut + 1) σ → Vl skp lim many (hut + 1) σ.L → DrwOK skp lim many m (hut + 1) (-1) σ (rec σ)) :
    ∀ r h σ, h + r = lim hut → RpD hut σ → Vl skp lim many hut σ.L → DrwOK skp lim many m hut h σ (drwH many rec hut r h σ) := by
 intro r
 induction r with
 | zero =>
  intro h σ hr hR hV
  exact ⟨fun _ _ => rfl, fun h1 => (by cases h1), fun _ => ⟨hm, fun Q hQ _ hh => by
   obtain ⟨x, hx, hq⟩ := hQ.yes hut hm hs
   rw [hq] at hh; omega⟩⟩
 | succ r ih =>
  intro h σ hr hR hV
  by_cases hf : σ.D h = many
  · rw [drwH_skip hf]
    have h1 := ih (h + 1) σ (by omega) hR hV
    have hno : ∀ Q, Vl skp lim many m Q → (∀ j, j < hut → Q j = σ.L j) → (h : Int) ≤ Q hut → ((h + 1 : Nat) : Int) ≤ Q hut := fun Q hQ ha hle => by
     by_cases e : Q hut = (h : Int)
     · exfalso
       have h2 := (hQ.le (show hut + 1 ≤ m by omega)).few h
       simp only [cntL, e, if_true] at h2
       rw [cntL_congr hut ha, ← hR h, hf] at h2
       omega
     · omega
    exact ⟨h1.same, fun ht => ⟨(h1.tru ht).1, fun Q hQ ha hle => (h1.tru ht).2 Q hQ ha fun _ => hno Q hQ ha (hle hm)⟩,
     fun ht => ⟨hm, fun Q hQ ha hle => (h1.fls ht).2 Q hQ ha (hno Q hQ ha hle)⟩⟩
  · have hlt : σ.D h < many := by
     have := hV.few h
     rw [← hR h] at this
     omega
    have hR1 : RpD (hut + 1) ⟨upI σ.L hut h, upN σ.D h (σ.D h + 1)⟩ := fun x => by
     show upN σ.D h (σ.D h + 1) x = cntL (upI σ.L hut h) (hut + 1) x
     rw [cntL_up]
     simp only [upN]
     by_cases e : x = h
     · subst e; rw [if_pos rfl, if_pos rfl, hR x]
     · rw [if_neg e, if_neg (by omega), hR x]; rfl
    have hV1 : Vl skp lim many (hut + 1) (upI σ.L hut h) := by
     refine ⟨fun i hi hsi => ?_, fun i hi hsi => ?_, fun x => ?_⟩
     · by_cases e : i = hut
       · subst e; rw [hs] at hsi; cases hsi
       · rw [upI_other e]; exact hV.no i (by omega) hsi
     · by_cases e : i = hut
       · subst e; exact ⟨h, by omega, upI_same⟩
       · rw [upI_other e]; exact hV.yes i (by omega) hsi
     · rw [cntL_up]
       have := hV.few x
       split
       · rename_i e
         have e : x = h := by omega
         subst e
         rw [← hR x]; omega
       · omega
    have h1 := hrec _ hR1 hV1
    have agr' : ∀ Q : Nat → Int, (∀ j, j < hut → Q j = σ.L j) → Q hut = (h : Int) → ∀ j, j < hut + 1 → Q j = upI σ.L hut h j := fun Q ha hq j hj => by
     by_cases e : j = hut
     · subst e; rw [upI_same, hq]
     · rw [upI_other e]; exact ha j (by omega)
    have qok : ∀ Q, Vl skp lim many m Q → hut + 1 < m → (-1 : Int) ≤ Q (hut + 1) := fun Q hQ hlt => by
     cases hx : skp (hut + 1) with
     | true => rw [hQ.no _ hlt hx]; omega
     | false =>
      obtain ⟨y, _, hy⟩ := hQ.yes _ hlt hx
      omega
    generalize hx : rec ⟨upI σ.L hut h, upN σ.D h (σ.D h + 1)⟩ = x at h1
    obtain ⟨b, σ'⟩ := x
    have b1 : ∀ j, j < hut → σ'.L j = σ.L j := fun j hj => by
     have := h1.same j (by omega)
     rw [show (b, σ').2.L j = σ'.L j from rfl] at this
     rw [this]; exact upI_other (by omega)
    have b2 : σ'.L hut = h := by
     have := h1.same hut (by omega)
     rw [show (b, σ').2.L hut = σ'.L hut from rfl] at this
     rw [this]; exact upI_same
    cases b with
    | true =>
     rw [drwH_true hf hx]
     obtain ⟨a1, a3⟩ := h1.tru rfl
     refine ⟨b1, fun _ => ⟨a1, fun Q hQ ha hle => ?_⟩, fun h2 => (by cases h2)⟩
     by_cases e : Q hut = (h : Int)
     · exact a3 Q hQ (agr' Q ha e) (qok Q hQ)
     · intro i hi hpre
       rcases Nat.lt_trichotomy i hut with hlt | heq | hgt
       · rw [ha i hlt]; exact Int.le_of_eq (b1 i hlt)
       · subst heq
         show σ'.L i ≤ Q i
         rw [b2]; exact hle hm
       · have := hpre hut hgt
         exact absurd (this.symm.trans b2) e
    | false =>
     rw [drwH_false hf hx]
     obtain ⟨hm1, a3⟩ := h1.fls rfl
     have hR2 : RpD hut ⟨σ'.L, σ.D⟩ := fun x => by
      show σ.D x = cntL σ'.L hut x
      rw [cntL_congr hut b1, hR x]
     have hV2 : Vl skp lim many hut σ'.L := hV.congr fun j hj => (b1 j hj).symm
     have h2 := ih (h + 1) ⟨σ'.L, σ.D⟩ (by omega) hR2 hV2
     have hno : ∀ Q, Vl skp lim many m Q → (∀ j, j < hut → Q j = σ.L j) → (h : Int) ≤ Q hut → ((h + 1 : Nat) : Int) ≤ Q hut := fun Q hQ ha hle => by
      by_cases e : Q hut = (h : Int)
      · exact absurd (qok Q hQ hm1) (a3 Q hQ (agr' Q ha e))
      · omega
     have ha' : ∀ Q : Nat → Int, (∀ j, j < hut → Q j = σ.L j) → ∀ j, j < hut → Q j = σ'.L j := fun Q ha j hj => by rw [ha j hj, b1 j hj]
     exact ⟨fun j hj => (h2.same j hj).trans (b1 j hj), fun ht => ⟨(h2.tru ht).1, fun Q hQ ha hle => (h2.tru ht).2 Q hQ (ha' Q ha) fun _ => hno Q hQ ha (hle hm)⟩,
      fun ht => ⟨hm, fun Q hQ ha hle => (h2.fls ht).2 Q hQ (ha' Q ha) (hno Q hQ ha hle)⟩⟩
theorem drwF_spec (k : Nat) : ∀ hut σ, hut ≤ m → m - hut < k → RpD hut σ → Vl skp lim many hut σ.L → DrwOK skp lim many m hut (-1) σ (drwF skp lim many m k hut σ) := by
 induction k with
 | zero => intro hut σ _ h; omega
 | succ k ih =>
  intro hut σ hh hk hR hV
  simp only [drwF]
  split
  · rename_i e
    subst e
    exact ⟨fun _ _ => rfl, fun _ => ⟨hV, fun Q _ ha _ i hi _ => by rw [ha i hi]; exact Int.le_refl _⟩, fun h => (by cases h)⟩
  · rename_i hne
    have hm : hut < m := by omega
    have hR0 : ∀ i, i ≤ hut → ∀ x, cntL (upI σ.L hut (-1)) i x = cntL σ.L i x := fun i hi x => cntL_congr i fun j hj => upI_other (by omega)
    split
    · rename_i hs
      have hR1 : RpD (hut + 1) ⟨upI σ.L hut (-1), σ.D⟩ := fun x => by
       show σ.D x = cntL (upI σ.L hut (-1)) (hut + 1) x
       rw [cntL_up, if_neg (by omega), hR x]; rfl
      have hV1 : Vl skp lim many (hut + 1) (upI σ.L hut (-1)) := by
       refine ⟨fun i hi hsi => ?_, fun i hi hsi => ?_, fun x => ?_⟩
       · by_cases e : i = hut
         · subst e; exact upI_same
         · rw [upI_other e]; exact hV.no i (by omega) hsi
       · by_cases e : i = hut
         · subst e; rw [hs] at hsi; cases hsi
         · rw [upI_other e]; exact hV.yes i (by omega) hsi
       · rw [cntL_up, if_neg (by omega)]; exact hV.few x
      have h1 := ih (hut + 1) ⟨upI σ.L hut (-1), σ.D⟩ (by omega) (by omega) hR1 hV1
      have agr' : ∀ Q : Nat → Int, Vl skp lim many m Q → (∀ j, j < hut → Q j = σ.L j) → ∀ j, j < hut + 1 → Q j = upI σ.L hut (-1) j := fun Q hQ ha j hj => by
       by_cases e : j = hut
       · subst e; rw [upI_same]; exact hQ.no j hm hs
       · rw [upI_other e]; exact ha j (by omega)
      have qok : ∀ Q, Vl skp lim many m Q → hut + 1 < m → (-1 : Int) ≤ Q (hut + 1) := fun Q hQ hlt => by
       cases hx : skp (hut + 1) with
       | true => rw [hQ.no _ hlt hx]; omega
       | false =>
        obtain ⟨y, _, hy⟩ := hQ.yes _ hlt hx
        omega
      refine ⟨fun j hj => (h1.same j (by omega)).trans (upI_other (by omega)), fun ht => ⟨(h1.tru ht).1, fun Q hQ ha _ => (h1.tru ht).2 Q hQ (agr' Q hQ ha) (qok Q hQ)⟩, fun ht => ⟨hm, fun Q hQ ha _ => (h1.fls ht).2 Q hQ (agr' Q hQ ha) (qok Q hQ (h1.fls ht).1)⟩⟩
    · rename_i hs
      have hs : skp hut = false := by simpa using hs
      have hR1 : RpD hut ⟨upI σ.L hut (-1), σ.D⟩ := fun x => by
       show σ.D x = cntL (upI σ.L hut (-1)) hut x
       rw [hR0 hut (Nat.le_refl _), hR x]
      have hV1 : Vl skp lim many hut (upI σ.L hut (-1)) := hV.congr fun j hj => (upI_other (by omega)).symm
      have h1 := drwH_spec (rec := drwF skp lim many m k (hut + 1)) hm hs (fun σ hR hV => ih (hut + 1) σ (by omega) (by omega) hR hV) (lim hut) 0 ⟨upI σ.L hut (-1), σ.D⟩ (by omega) hR1 hV1
      have agr : ∀ Q : Nat → Int, (∀ j, j < hut → Q j = σ.L j) → ∀ j, j < hut → Q j = upI σ.L hut (-1) j := fun Q ha j hj => by rw [upI_other (by omega)]; exact ha j hj
      have q0 : ∀ Q, Vl skp lim many m Q → ((0 : Nat) : Int) ≤ Q hut := fun Q hQ => by
       obtain ⟨y, _, hy⟩ := hQ.yes hut hm hs
       omega
      exact ⟨fun j hj => (h1.same j hj).trans (upI_other (by omega)), fun ht => ⟨(h1.tru ht).1, fun Q hQ ha _ => (h1.tru ht).2 Q hQ (agr Q ha) fun _ => q0 Q hQ⟩,
       fun ht => ⟨hm, fun Q hQ ha _ => absurd (q0 Q hQ) ((h1.fls ht).2 Q hQ (agr Q ha))⟩⟩
end
end Go.Ab
set_option maxRecDepth 100000
namespace Go.Ab
open Go Go.RowKit Go.Proofs
theorem sub_tab : ((List.range 32).all fun x => (List.range 32).all fun y => (bits BinOp.andNot IntKind.i64 (x : Int) (y : Int) == (0 : Int)) == decide (x &&& y = x)) = true := by kernel_rfl
theorem sub_eq {x y : Nat} (hx : x < 32) (hy : y < 32) : (bits BinOp.andNot IntKind.i64 (x : Int) (y : Int) == (0 : Int)) = decide (x &&& y = x) :=
 beq_iff_eq.1 (List.all_eq_true.1 (List.all_eq_true.1 sub_tab x (List.mem_range.2 hx)) y (List.mem_range.2 hy))
def ds0 : Ds := ⟨fun _ => 0, fun _ => 0⟩
def drwG (many m F : Nat) (lim : Nat → Nat) (p : Nat) : Bool × Ds := drwF (skpN F p) lim many m (m + 1) 0 ds0
def okP (many m F : Nat) (lim : Nat → Nat) (size p : Nat) : Bool := decide (p &&& F = p) && (decide (popN p = size) && (drwG many m F lim p).1)
def seekP (ok : Nat → Bool) : Nat → Nat → Option Nat
 | 0, _ => none
 | r + 1, p => if ok p = true then some p else seekP ok r (p + 1)
def seekS (ok : Nat → Nat → Bool) (F : Nat) : Nat → Nat → Option Nat
 | 0, _ => none
 | r + 1, i => match seekP (ok i) (F + 1) 0 with
  | some q => some q
  | none => seekS ok F r (i + 1)
section
variable {many m F : Nat} {lim : Nat → Nat} {n : Nat} {w v : Nat → Sp} {u : Nat → Hut}
theorem clR96 (q : Nat) (L : Nat → Int) : ClW (r96 m q L) := by
 refine ⟨fun cs hc => ?_, fun e hc => (by cases hc)⟩
 simp only [r96, List.mem_singleton] at hc
 subst hc
 exact ints_at _ _
end
end Go.Ab
set_option maxRecDepth 100000
namespace Go.Ab
open Go Go.RowKit Go.Proofs
section
variable {many m F : Nat} {lim : Nat → Nat} {n : Nat} {w v : Nat → Sp} {u : Nat → Hut}
theorem popN_le {s : Nat} : popN s ≤ 8 := by
 unfold popN bitsL
 exact Nat.le_trans (List.length_filter_le _ _) (by simp)
theorem drwF_all {skp : Nat → Bool} (h : ∀ i, skp i = true) (k : Nat) : ∀ hut σ, (drwF skp lim many m k hut σ).1 = true := by
 induction k with
 | zero => intro _ _; rfl
 | succ k ih =>
  intro hut σ
  simp only [drwF]
  split
  · rfl
  · rw [if_pos (h hut)]; exact ih _ _
theorem seekP_some {ok : Nat → Bool} {q : Nat} (hq : ok q = true) : ∀ r p, p ≤ q → q < p + r → ∃ x, seekP ok r p = some x := by
 intro r
 induction r with
 | zero => intro p h1 h2; omega
 | succ r ih =>
  intro p h1 h2
  simp only [seekP]
  split
  · exact ⟨p, rfl⟩
  · rename_i hn
    exact ih (p + 1) (by
     by_cases e : p = q
     · subst e; exact absurd hq hn
     · omega) (by omega)
theorem seekS_some {ok : Nat → Nat → Bool} {i q : Nat} (hq : ok i q = true) (hqF : q ≤ F) : ∀ r j, j ≤ i → i < j + r → ∃ x, seekS ok F r j = some x := by
 intro r
 induction r with
 | zero => intro j h1 h2; omega
 | succ r ih =>
  intro j h1 h2
  simp only [seekS]
  cases hs : seekP (ok j) (F + 1) 0 with
  | some x => exact ⟨x, rfl⟩
  | none =>
   refine ih (j + 1) ?_ (by omega)
   by_cases e : j = i
   · subst e
     obtain ⟨x, hx⟩ := seekP_some hq (F + 1) 0 (Nat.zero_le _) (by omega)
     rw [hs] at hx; cases hx
   · omega
theorem best_some : ∃ q, seekS (okP many m F lim) F (popN F + 1) 0 = some q := by
 refine seekS_some (i := popN F) (q := F) ?_ (Nat.le_refl _) (popN F + 1) 0 (Nat.zero_le _) (by omega)
 unfold okP drwG
 rw [drwF_all (fun i => by unfold skpN; cases F.testBit i <;> rfl)]
 simp
end
section
variable {rw st : Int} {n cw cv m cu many : Nat} {w v : Nat → Sp} {u : Nat → Hut}
def limN (y : Nat → Nat) (m i : Nat) : Nat := if i < m ∧ y i ≠ 0 then tzN (y i) else 0
theorem limN_savT (y : Nat → Nat) (i : Nat) : savT y m i = ((limN y m i : Nat) : Int) := by
 unfold savT limN
 split <;> rfl
def perY (st : Int) (w v : Nat → Sp) (n : Nat) (u : Nat → Hut) (j : Nat) : Nat := perH st w v n (u j)
def savQ (st : Int) (w v : Nat → Sp) (n m : Nat) (u : Nat → Hut) (many : Nat) : Nat := (seekS (okP many m (savF (perY st w v n u) m) (limN (perY st w v n u) m)) (savF (perY st w v n u) m) (popN (savF (perY st w v n u) m) + 1) 0).getD 0
def savL (st : Int) (w v : Nat → Sp) (n m : Nat) (u : Nat → Hut) (many : Nat) : Nat → Int := (drwG many m (savF (perY st w v n u) m) (limN (perY st w v n u) m) (savQ st w v n m u many)).2.L
end
end Go.Ab
set_option maxRecDepth 100000
namespace Go.Ab
open Go Go.RowKit Go.Proofs
theorem seekP_first {ok : Nat → Bool} : ∀ r p x, seekP ok r p = some x → ok x = true ∧ p ≤ x ∧ x < p + r ∧ ∀ y, p ≤ y → y < x → ok y = false := by
 intro r
 induction r with
 | zero => intro p x h; cases h
 | succ r ih =>
  intro p x h
  simp only [seekP] at h
  split at h
  · rename_i hp
    obtain rfl := Option.some.inj h
    exact ⟨hp, Nat.le_refl _, by omega, fun y h1 h2 => by omega⟩
  · rename_i hp
    obtain ⟨h1, h2, h3, h4⟩ := ih (p + 1) x h
    exact ⟨h1, by omega, by omega, fun y h5 h6 => by
     by_cases e : y = p
     · subst e; simpa using hp
     · exact h4 y (by omega) h6⟩
theorem seekP_none {ok : Nat → Bool} : ∀ r p, seekP ok r p = none → ∀ y, p ≤ y → y < p + r → ok y = false := by
 intro r
 induction r with
 | zero => intro p _ y h1 h2; omega
 | succ r ih =>
  intro p h y h1 h2
  simp only [seekP] at h
  split at h
  · cases h
  · rename_i hp
    by_cases e : y = p
    · subst e; simpa using hp
    · exact ih (p + 1) h y (by omega) (by omega)
theorem seekS_first {ok : Nat → Nat → Bool} {F : Nat} : ∀ r j x, seekS ok F r j = some x → ∃ i, j ≤ i ∧ ok i x = true ∧ x ≤ F ∧ (∀ y, y < x → ok i y = false) ∧ ∀ i', j ≤ i' → i' < i → ∀ y, y ≤ F → ok i' y = false := by
 intro r
 induction r with
 | zero => intro j x h; cases h
 | succ r ih =>
  intro j x h
  simp only [seekS] at h
  cases hs : seekP (ok j) (F + 1) 0 with
  | some q =>
   rw [hs] at h
   obtain rfl := Option.some.inj h
   obtain ⟨h1, _, h3, h4⟩ := seekP_first _ _ _ hs
   exact ⟨j, Nat.le_refl _, h1, by omega, fun y hy => h4 y (Nat.zero_le _) hy, fun i' h5 h6 => by omega⟩
  | none =>
   rw [hs] at h
   obtain ⟨i, h1, h2, h3, h4, h5⟩ := ih (j + 1) x h
   refine ⟨i, by omega, h2, h3, h4, fun i' h6 h7 y hy => ?_⟩
   by_cases e : i' = j
   · subst e; exact seekP_none _ _ hs y (Nat.zero_le _) (by omega)
   · exact h5 i' (by omega) h7 y hy
section
variable {many m F : Nat} {lim : Nat → Nat}
theorem ds0_rep : RpD 0 ds0 := fun _ => rfl
theorem ds0_vl {skp : Nat → Bool} : Vl skp lim many 0 ds0.L := ⟨fun i hi => by omega, fun i hi => by omega, fun _ => Nat.zero_le _⟩
theorem drwG_spec (p : Nat) : DrwOK (skpN F p) lim many m 0 (-1) ds0 (drwG many m F lim p) := drwF_spec (m + 1) 0 ds0 (Nat.zero_le _) (by omega) ds0_rep ds0_vl
theorem Vl.ge {skp : Nat → Bool} {L : Nat → Int} (h : Vl skp lim many m L) {i : Nat} (hi : i < m) : -1 ≤ L i := by
 cases hs : skp i with
 | true => rw [h.no i hi hs]; omega
 | false =>
  obtain ⟨y, _, hy⟩ := h.yes i hi hs
  omega
theorem drwG_found {p : Nat} {Q : Nat → Int} (hQ : Vl (skpN F p) lim many m Q) : (drwG many m F lim p).1 = true := by
 cases hb : (drwG many m F lim p).1 with
 | true => rfl
 | false =>
  obtain ⟨h0, h1⟩ := (drwG_spec (many := many) (m := m) (F := F) (lim := lim) p).fls hb
  exact absurd (hQ.ge h0) (h1 Q hQ fun j hj => by omega)
theorem best_spec {q : Nat} (hq : seekS (okP many m F lim) F (popN F + 1) 0 = some q) :
    q &&& F = q ∧ Vl (skpN F q) lim many m (drwG many m F lim q).2.L ∧ (∀ Q, Vl (skpN F q) lim many m Q → BefI m (drwG many m F lim q).2.L Q) ∧
    ∀ s Q, s &&& F = s → Vl (skpN F s) lim many m Q → popN q < popN s ∨ (popN q = popN s ∧ q ≤ s) := by
 obtain ⟨i, _, h2, h3, h4, h5⟩ := seekS_first _ _ _ hq
 unfold okP at h2
 simp only [Bool.and_eq_true, decide_eq_true_eq] at h2
 obtain ⟨a1, a2, a3⟩ := h2
 obtain ⟨b1, b2⟩ := (drwG_spec (many := many) (m := m) (F := F) (lim := lim) q).tru a3
 refine ⟨a1, b1, fun Q hQ => b2 Q hQ (fun j hj => by omega) fun h0 => hQ.ge h0, fun s Q hs hQ => ?_⟩
 have hf := drwG_found hQ
 have hok : okP many m F lim (popN s) s = true := by unfold okP; rw [decide_eq_true hs, hf]; simp
 have hle : s ≤ F := by rw [← hs]; exact Nat.and_le_right
 by_cases c1 : popN s < i
 · rw [h5 (popN s) (Nat.zero_le _) c1 s hle] at hok; cases hok
 · by_cases c2 : popN s = i
   · refine .inr ⟨by omega, ?_⟩
     by_cases c3 : s < q
     · rw [← c2] at h4
       rw [h4 s c3] at hok; cases hok
     · omega
   · exact .inl (by omega)
end
end Go.Ab
set_option maxRecDepth 100000
namespace Go.Ab
open Go Go.RowKit Go.Proofs
theorem savF_bit (y : Nat → Nat) (m i : Nat) : (savF y m).testBit i = (decide (i < m) && !decide (y i = 0)) := by
 induction m with
 | zero => simp [savF]
 | succ m ih =>
  simp only [savF]
  by_cases h0 : y m = 0
  · rw [if_pos h0, ih]
    by_cases e : i = m
    · subst e; simp [h0]
    · have : decide (i < m + 1) = decide (i < m) := by
       by_cases h : i < m
       · rw [decide_eq_true h, decide_eq_true (by omega)]
       · rw [decide_eq_false h, decide_eq_false (by omega)]
      rw [this]
  · rw [if_neg h0, Nat.testBit_or, ih, Nat.testBit_two_pow]
    by_cases e : m = i
    · subst e; simp [h0]
    · have : decide (i < m + 1) = decide (i < m) := by
       by_cases h : i < m
       · rw [decide_eq_true h, decide_eq_true (by omega)]
       · rw [decide_eq_false h, decide_eq_false (by omega)]
      rw [this, decide_eq_false e, Bool.or_false]
def okR (y : Nat → Nat) (many : Nat) (L : Nat → Int) (i : Nat) : Bool :=
 if L i < 0 then decide (L i = -1) else !decide (y i = 0) && (decide (L i < ((tzN (y i) : Nat) : Int)) && decide (cntL L i (L i).toNat + 1 ≤ many))
def okA (y : Nat → Nat) (many : Nat) (L : Nat → Int) : Nat → Bool
 | 0 => true
 | i + 1 => okA y many L i && okR y many L i
def outR (y : Nat → Nat) (L : Nat → Int) : Nat → Nat
 | 0 => 0
 | i + 1 => if L i < 0 ∧ y i ≠ 0 then outR y L i ||| 2 ^ i else outR y L i
theorem outR_bit (y : Nat → Nat) (L : Nat → Int) (m i : Nat) : (outR y L m).testBit i = (decide (i < m) && (decide (L i < 0) && !decide (y i = 0))) := by
 induction m with
 | zero => simp [outR]
 | succ m ih =>
  have hl : i ≠ m → decide (i < m + 1) = decide (i < m) := fun e => by
   by_cases h : i < m
   · rw [decide_eq_true h, decide_eq_true (by omega)]
   · rw [decide_eq_false h, decide_eq_false (by omega)]
  simp only [outR]
  by_cases h0 : L m < 0 ∧ y m ≠ 0
  · rw [if_pos h0, Nat.testBit_or, ih, Nat.testBit_two_pow]
    by_cases e : i = m
    · subst e; simp [h0]
    · rw [hl e, decide_eq_false (show ¬ m = i from fun h => e h.symm), Bool.or_false]
  · rw [if_neg h0, ih]
    by_cases e : i = m
    · subst e
      have : (decide (L i < 0) && !decide (y i = 0)) = false := by
       by_cases h1 : L i < 0
       · have : y i = 0 := Decidable.byContradiction fun h => h0 ⟨h1, h⟩
         rw [decide_eq_true this]; simp
       · rw [decide_eq_false h1]; rfl
      rw [this]; simp
    · rw [hl e]
theorem outR_lt (y : Nat → Nat) (L : Nat → Int) (i : Nat) : outR y L i < 2 ^ i := by
 induction i with
 | zero => exact Nat.one_pos
 | succ i ih =>
  have h2 : (2 : Nat) ^ (i + 1) = 2 ^ i * 2 := Nat.pow_succ 2 i
  simp only [outR]
  split
  · exact Nat.or_lt_two_pow (n := i + 1) (by omega) (by omega)
  · omega
theorem okA_at {y : Nat → Nat} {many : Nat} {L : Nat → Int} : ∀ {m}, okA y many L m = true → ∀ i, i < m → okR y many L i = true := by
 intro m
 induction m with
 | zero => intro _ i h; omega
 | succ m ih =>
  intro h i hi
  simp only [okA, Bool.and_eq_true] at h
  by_cases e : i = m
  · subst e; exact h.2
  · exact ih h.1 i (by omega)
theorem okA_of {y : Nat → Nat} {many : Nat} {L : Nat → Int} : ∀ {m}, (∀ i, i < m → okR y many L i = true) → okA y many L m = true := by
 intro m
 induction m with
 | zero => intro _; rfl
 | succ m ih =>
  intro h
  simp only [okA, Bool.and_eq_true]
  exact ⟨ih fun i hi => h i (by omega), h m (by omega)⟩
section
variable {y : Nat → Nat} {many m : Nat} {L : Nat → Int}
theorem right_vl (h : okA y many L m = true) : Vl (skpN (savF y m) (outR y L m)) (limN y m) many m L ∧ outR y L m &&& savF y m = outR y L m := by
 have hk := okA_at h
 have hs : ∀ i, i < m → skpN (savF y m) (outR y L m) i = (decide (L i < 0) || decide (y i = 0)) := fun i hi => by
  unfold skpN
  rw [outR_bit, savF_bit, decide_eq_true hi]
  cases decide (L i < 0) <;> cases decide (y i = 0) <;> rfl
 refine ⟨⟨fun i hi hp => ?_, fun i hi hp => ?_, fun x => ?_⟩, ?_⟩
 · rw [hs i hi] at hp
   have ho := hk i hi
   unfold okR at ho
   by_cases hl : L i < 0
   · rw [if_pos hl] at ho; exact of_decide_eq_true ho
   · rw [if_neg hl] at ho
     rw [decide_eq_false hl, Bool.false_or] at hp
     rw [hp] at ho; cases ho
 · rw [hs i hi, Bool.or_eq_false_iff] at hp
   have ho := hk i hi
   unfold okR at ho
   have hl := of_decide_eq_false hp.1
   rw [if_neg hl, Bool.and_eq_true, Bool.and_eq_true] at ho
   have hy := of_decide_eq_false hp.2
   have ht := of_decide_eq_true ho.2.1
   refine ⟨(L i).toNat, ?_, (Int.toNat_of_nonneg (by omega)).symm⟩
   unfold limN
   rw [if_pos ⟨hi, hy⟩]
   omega
 · have : ∀ i, i ≤ m → cntL L i x ≤ many := by
    intro i
    induction i with
    | zero => intro _; exact Nat.zero_le _
    | succ i ih =>
     intro hi
     have hi2 : i < m := by omega
     simp only [cntL]
     by_cases e : L i = (x : Int)
     · rw [if_pos e]
       have ho := hk i hi2
       unfold okR at ho
       rw [if_neg (by omega), Bool.and_eq_true, Bool.and_eq_true] at ho
       have := of_decide_eq_true ho.2.2
       rw [e, Int.toNat_natCast] at this
       exact this
     · rw [if_neg e]; exact ih (by omega)
   exact this m (Nat.le_refl _)
 · apply Nat.eq_of_testBit_eq
   intro i
   rw [Nat.testBit_and, outR_bit, savF_bit]
   cases decide (i < m) <;> cases decide (L i < 0) <;> cases decide (y i = 0) <;> rfl
theorem right_of {q : Nat} (hq : q &&& savF y m = q) (hV : Vl (skpN (savF y m) q) (limN y m) many m L) : okA y many L m = true ∧ outR y L m = q := by
 have hb : ∀ i, q.testBit i = true → i < m ∧ y i ≠ 0 := fun i hi => by
  have : (q &&& savF y m).testBit i = true := by rw [hq]; exact hi
  rw [Nat.testBit_and, savF_bit, Bool.and_eq_true, Bool.and_eq_true] at this
  exact ⟨of_decide_eq_true this.2.1, fun e => by rw [decide_eq_true e] at this; exact absurd this.2.2 (by simp)⟩
 have hs : ∀ i, i < m → skpN (savF y m) q i = (q.testBit i || decide (y i = 0)) := fun i hi => by
  unfold skpN
  rw [savF_bit, decide_eq_true hi, Bool.true_and, Bool.not_not]
 have hneg : ∀ i, i < m → (L i < 0 ↔ (q.testBit i = true ∨ y i = 0)) := fun i hi => by
  cases hp : skpN (savF y m) q i with
  | true =>
   rw [hV.no i hi hp]
   rw [hs i hi, Bool.or_eq_true, decide_eq_true_iff] at hp
   exact ⟨fun _ => hp, fun _ => by omega⟩
  | false =>
   obtain ⟨x, _, hx⟩ := hV.yes i hi hp
   rw [hs i hi, Bool.or_eq_false_iff] at hp
   rw [hx]
   refine ⟨fun h => by omega, fun h => ?_⟩
   rcases h with h | h
   · rw [hp.1] at h; cases h
   · exact absurd h (of_decide_eq_false hp.2)
 refine ⟨okA_of fun i hi => ?_, ?_⟩
 · unfold okR
   by_cases hl : L i < 0
   · rw [if_pos hl]
     have hp : skpN (savF y m) q i = true := by
      rw [hs i hi, Bool.or_eq_true, decide_eq_true_iff]
      exact (hneg i hi).1 hl
     exact decide_eq_true (hV.no i hi hp)
   · rw [if_neg hl]
     have hp : skpN (savF y m) q i = false := by
      cases hp : skpN (savF y m) q i with
      | false => rfl
      | true =>
       rw [hs i hi, Bool.or_eq_true, decide_eq_true_iff] at hp
       exact absurd ((hneg i hi).2 hp) hl
     obtain ⟨x, hx, he⟩ := hV.yes i hi hp
     have hy : y i ≠ 0 := fun e => hl ((hneg i hi).2 (.inr e))
     unfold limN at hx
     rw [if_pos ⟨hi, hy⟩] at hx
     have hc := (hV.le (show i + 1 ≤ m by omega)).few x
     simp only [cntL] at hc
     rw [if_pos he] at hc
     rw [he, Int.toNat_natCast, decide_eq_false hy, decide_eq_true (show ((x : Nat) : Int) < ((tzN (y i) : Nat) : Int) by omega), decide_eq_true hc]
     rfl
 · apply Nat.eq_of_testBit_eq
   intro i
   rw [outR_bit]
   by_cases hi : i < m
   · rw [decide_eq_true hi, Bool.true_and]
     by_cases hy : y i = 0
     · rw [decide_eq_true hy]
       cases hq2 : q.testBit i with
       | true => exact absurd hy (hb i hq2).2
       | false => simp
     · rw [decide_eq_false hy, Bool.not_false, Bool.and_true]
       cases hq2 : q.testBit i with
       | true => exact decide_eq_true ((hneg i hi).2 (.inl hq2))
       | false =>
        refine decide_eq_false fun h => ?_
        rcases (hneg i hi).1 h with h | h
        · rw [hq2] at h; cases h
        · exact hy h
   · rw [decide_eq_false hi, Bool.false_and]
     cases hq2 : q.testBit i with
     | true => exact absurd (hb i hq2).1 hi
     | false => rfl
end
def getA : List (Int × Int) → Int → Option Int
 | [], _ => none
 | e :: l, h => if h = e.1 then some e.2 else getA l h
def setA : List (Int × Int) → Int → Int → List (Int × Int)
 | [], h, a => [(h, a)]
 | e :: l, h, a => if h = e.1 then (h, a) :: l else e :: setA l h a
theorem get_set (M : List (Int × Int)) (h h' : Int) (a : Int) : getA (setA M h a) h' = if h' = h then some a else getA M h' := by
 induction M with
 | nil => simp only [setA, getA]
 | cons e l ih =>
  simp only [setA]
  split
  · rename_i he
    subst he
    simp only [getA]
    split <;> rfl
  · rename_i he
    simp only [getA, ih]
    by_cases h1 : h' = e.1
    · subst h1
      rw [if_pos rfl, if_neg (fun hh => he hh.symm), if_pos rfl]
    · rw [if_neg h1]
      split
      · rfl
      · rfl
end Go.Ab
