/- package surf: a valid surf; what the functions return of one. -/
import Derived.Test.YtoelpblmhmhglaaDoorOT
set_option maxRecDepth 100000
namespace Go.Ab
open Go Go.RowKit Go.Proofs
theorem b79a (rw st : Int) (n cw cv m cu : Nat) (i : Nat) (w v : Nat → Sp) (u : Nat → Hut) (R : Nat → AExit → Hw → Prop) : (vx.code none (.l p79a) (leafW [T79a] R) (T79a.inst (h79a rw st n cw cv m cu (spL n w) (spL n v) (huL m u) i)) ([(0, .split ((6, .val (.pointer (some ⟨2, 0 + i * 2, none⟩))) :: (0, .val (.agg ⟨[I (w i).lo, I (w i).hi]⟩)) :: (10, .val (.bool true)) :: (3, .val (.bool true)) :: (10, .val (.bool true)) :: (3, .val (.bool true)) :: (13, .val (.bool true)) :: (3, .val (.bool true)) :: (9, .val (.pointer (some ⟨3, 0 + i * 2, none⟩))) :: (0, .val (.agg ⟨[I (v i).lo, I (v i).hi]⟩)) :: (10, .val (.bool true)) :: (3, .val (.bool true)) :: (10, .val (.bool true)) :: (3, .val (.bool true)) :: (13, .val (.bool true)) :: (3, .val (.bool true)) :: [(9, .tm 0 [])]) ([(1, .tm 0 [])]))])) =
(((decide ((i : Int) < n)) = true → (((((0 : Int) ≤ i) ∧ ((i : Int) < n)) ∧ (VR (.pointer (some ⟨2, 0 + i * 2, none⟩)))) ∧
(((0 + i * 2 + 2 ≤ (spL n w).length) ∧ (((.agg ⟨[I (w i).lo, I (w i).hi]⟩) : Value) = (.agg ⟨List.take 2 (List.drop (0 + i * 2) (spL n w))⟩))) ∧
((OT (decide ((0 : Int) ≤ (w i).lo)) true) ∧
((OT (decide ((w i).lo ≤ (30 : Int))) true) ∧
((OT (decide ((0 : Int) ≤ (w i).hi)) true) ∧
((OT (decide ((w i).hi ≤ (30 : Int))) true) ∧
((OT (decide ((0 : Int) ≤ IntKind.i64.wrap ((w i).hi - (w i).lo))) true) ∧
((OT (decide (IntKind.i64.wrap ((w i).hi - (w i).lo) ≤ (3 : Int))) true) ∧
(((((0 : Int) ≤ i) ∧ ((i : Int) < n)) ∧ (VR (.pointer (some ⟨3, 0 + i * 2, none⟩)))) ∧
(((0 + i * 2 + 2 ≤ (spL n v).length) ∧ (((.agg ⟨[I (v i).lo, I (v i).hi]⟩) : Value) = (.agg ⟨List.take 2 (List.drop (0 + i * 2) (spL n v))⟩))) ∧
((OT (decide ((0 : Int) ≤ (v i).lo)) true) ∧
((OT (decide ((v i).lo ≤ (10 : Int))) true) ∧
((OT (decide ((0 : Int) ≤ (v i).hi)) true) ∧
((OT (decide ((v i).hi ≤ (10 : Int))) true) ∧
((OT (decide ((0 : Int) ≤ IntKind.i64.wrap ((v i).hi - (v i).lo))) true) ∧
((OT (decide (IntKind.i64.wrap ((v i).hi - (v i).lo) ≤ (3 : Int))) true) ∧
R (0 : Nat) .normal ⟨⟨[I n, I (IntKind.i64.wrap ((i : Int) + (1 : Int))), I rw, I st], [⟨n, cw⟩, ⟨n, cv⟩, ⟨m, cu⟩]⟩, [spL n w, spL n v, huL m u], []⟩))))))))))))))))) ∧
((decide ((i : Int) < n)) = false → R (0 : Nat) (.exit 0) ⟨⟨[I n, I i, I rw, I st], [⟨n, cw⟩, ⟨n, cv⟩, ⟨m, cu⟩]⟩, [spL n w, spL n v, huL m u], []⟩)) := by kernel_rfl
theorem b79b (rw st : Int) (n cw cv m cu : Nat) (i : Nat) (w v : Nat → Sp) (u : Nat → Hut) (R : Nat → AExit → Hw → Prop) : (vx.code none (.l p79b) (leafW [T79b] R) (T79b.inst (h79b rw st n cw cv m cu (spL n w) (spL n v) (huL m u) i)) ([(0, .split ((1, .val (.pointer (some ⟨4, 0 + i * 3, none⟩))) :: (0, .val (.agg ⟨[I (u i).fl, I (u i).br, I (u i).row]⟩)) :: (8, .val (.bool true)) :: (3, .val (.bool true)) :: (10, .val (.bool true)) :: (3, .val (.bool true)) :: (18, .val (.bool true)) :: [(7, .tm 0 [])]) ([(1, .tm 0 [])]))])) =
(((decide ((i : Int) < m)) = true → (((((0 : Int) ≤ i) ∧ ((i : Int) < m)) ∧ (VR (.pointer (some ⟨4, 0 + i * 3, none⟩)))) ∧
((HR i m u) ∧
((OT (decide ((0 : Int) ≤ (u i).fl)) true) ∧
((OT (decide ((u i).fl ≤ (40 : Int))) true) ∧
((OT (decide ((0 : Int) ≤ (u i).br)) true) ∧
((OT (decide ((u i).br ≤ (10 : Int))) true) ∧
((OT (decide ((↑(u i).row : Int) ≤ IntKind.i64.wrap (rw - (1 : Int)))) true) ∧
R (0 : Nat) .normal ⟨⟨[I m, I (IntKind.i64.wrap ((i : Int) + (1 : Int))), I rw, I st], [⟨m, cu⟩, ⟨n, cw⟩, ⟨n, cv⟩, ⟨m, cu⟩]⟩, [spL n w, spL n v, huL m u], []⟩)))))))) ∧
((decide ((i : Int) < m)) = false → R (0 : Nat) (.exit 2) ⟨⟨[I m, I i, I rw, I st], [⟨m, cu⟩, ⟨n, cw⟩, ⟨n, cv⟩, ⟨m, cu⟩]⟩, [spL n w, spL n v, huL m u], []⟩)) := by kernel_rfl
theorem f79 (rw st : Int) (n cw cv m cu : Nat) (w v : Nat → Sp) (u : Nat → Hut) (R : ARes → Prop) : (vx.call 79 [suV rw st n cw cv m cu] (retK R) (mSd (spL n w) (spL n v) (huL m u)) ((9, .val (.bool true)) :: (3, .val (.bool true)) :: (10, .val (.bool true)) :: (3, .val (.bool true)) :: (8, .val (.bool false)) :: (7, .val (.bool false)) :: (5, .val (.bool false)) :: (6, .loopW T79a (.exit 0) T79a fun _ => h79a rw st n cw cv m cu (spL n w) (spL n v) (huL m u) n) :: (4, .loopW T79b (.exit 2) T79b fun _ => h79b rw st n cw cv m cu (spL n w) (spL n v) (huL m u) m) :: [])) =
((OT (decide ((1 : Int) ≤ rw)) true) ∧
((OT (decide (rw ≤ (6 : Int))) true) ∧
((OT (decide ((0 : Int) ≤ st)) true) ∧
((OT (decide (st ≤ (4 : Int))) true) ∧
((OT (decide ((n : Int) > 8)) false) ∧
((OT ((n : Int) != n) false) ∧
((OT (decide ((m : Int) > 5)) false) ∧
(LW p79a T79a ⟨⟨[I n, I 0, I rw, I st], [⟨n, cw⟩, ⟨n, cv⟩, ⟨m, cu⟩]⟩, [spL n w, spL n v, huL m u], []⟩ (.exit 0) T79a (h79a rw st n cw cv m cu (spL n w) (spL n v) (huL m u) n) <|
(LW p79b T79b ⟨⟨[I m, I 0, I rw, I st], [⟨m, cu⟩, ⟨n, cw⟩, ⟨n, cv⟩, ⟨m, cu⟩]⟩, [spL n w, spL n v, huL m u], []⟩ (.exit 2) T79b (h79b rw st n cw cv m cu (spL n w) (spL n v) (huL m u) m) <|
R (.ret (.bool true))))))))))) := by kernel_rfl
theorem f39 (rw st fl br : Int) (row : Nat) (n cw cv m cu : Nat) (tb ws vs : List Value) (es es2 : List (Value × Value)) (c0 c1 c2 c3 c4 c5 c6 c7 c8 : Int) (cx : Int) (R : ARes → List WB → Prop) : (vx.call 39 [shV rw st n cw cv m cu, .agg ⟨[I fl, I br, I row]⟩] (retW bs92 R) (mt92 tb ws vs es) ((10, .conW (CW72 rw st n cw cv m cu fl br row tb ws vs es es2 c0 c1 c2 c3 c4 c5 c6 c7 c8)) :: (0, .again) :: (0, .val (I cx)) :: [(7, .split ([]) ([(9, .split ([]) ([]))]))])) =
(CW 72 (CW72 rw st n cw cv m cu fl br row tb ws vs es es2 c0 c1 c2 c3 c4 c5 c6 c7 c8) ⟨⟨[I rw, I st, I fl, I br, I row], [⟨n, cw⟩, ⟨n, cv⟩, ⟨m, cu⟩]⟩, [tb, ws, vs], [es]⟩ <|
((((some (I n) : Option Value) = some (I n)) ∧ (SV 2 n cw)) ∧
(((((0 : Int) ≤ n) ∧ ((n : Int) < (↑(9 : Nat) : Int))) ∧ (partV Tryd.prog ((9 : Nat), (70 : Nat)).snd [Value.int .i64 c0, Value.int .i64 c1, Value.int .i64 c2, Value.int .i64 c3, Value.int .i64 c4, Value.int .i64 c5, Value.int .i64 c6, Value.int .i64 c7, Value.int .i64 c8] ((n : Int).toNat * (fun x => x.size) Tryd.prog.types[((9 : Nat), (70 : Nat)).snd]) = some (I cx))) ∧
(((cx == IntKind.i64.wrap ((1 : Int) * (2 : Int) ^ (6 : Nat))) = true → R (.ret (I 2)) [.mp es2]) ∧
((cx == IntKind.i64.wrap ((1 : Int) * (2 : Int) ^ (6 : Nat))) = false → (((bits BinOp.and IntKind.i64 (cx / (2 : Int) ^ (6 : Nat)) (1 : Int) == 1) = true → R (.ret (I 1)) [.mp es2]) ∧
((bits BinOp.and IntKind.i64 (cx / (2 : Int) ^ (6 : Nat)) (1 : Int) == 1) = false → R (.ret (I 0)) [.mp es2]))))))) := by kernel_rfl
theorem f46 (rw st fl br : Int) (row : Nat) (n cw cv m cu : Nat) (tb ws vs : List Value) (es es2 : List (Value × Value)) (hour : Nat) (c0 c1 c2 c3 c4 c5 c6 c7 c8 : Int) (cx : Int) (R : ARes → List WB → Prop) : (vx.call 46 [shV rw st n cw cv m cu, .agg ⟨[I fl, I br, I row]⟩, I hour] (retW bs92 R) (mt92 tb ws vs es) ((6, .conW (CW72 rw st n cw cv m cu fl br row tb ws vs es es2 c0 c1 c2 c3 c4 c5 c6 c7 c8)) :: (2, .val (I cx)) :: (8, .val (I (IntKind.i64.wrap ((1 : Int) * (2 : Int) ^ rw.toNat)))) :: [(10, .split ([]) ([]))])) =
(CW 72 (CW72 rw st n cw cv m cu fl br row tb ws vs es es2 c0 c1 c2 c3 c4 c5 c6 c7 c8) ⟨⟨[I rw, I st, I fl, I br, I row], [⟨n, cw⟩, ⟨n, cv⟩, ⟨m, cu⟩]⟩, [tb, ws, vs], [es]⟩ <|
(((((0 : Int) ≤ IntKind.i64.wrap ((hour : Int) + (1 : Int))) ∧ (IntKind.i64.wrap ((hour : Int) + (1 : Int)) < (↑(9 : Nat) : Int))) ∧ (partV Tryd.prog ((9 : Nat), (70 : Nat)).snd [Value.int .i64 c0, Value.int .i64 c1, Value.int .i64 c2, Value.int .i64 c3, Value.int .i64 c4, Value.int .i64 c5, Value.int .i64 c6, Value.int .i64 c7, Value.int .i64 c8] ((IntKind.i64.wrap ((hour : Int) + (1 : Int))).toNat * (fun x => x.size) Tryd.prog.types[((9 : Nat), (70 : Nat)).snd]) = some (I cx))) ∧
(((((0 : Int) ≤ rw) ∧ (rw ≤ (↑(64 : Nat) : Int))) ∧ (((I (IntKind.i64.wrap ((1 : Int) * (2 : Int) ^ rw.toNat))) : Value) = (I (IntKind.i64.wrap ((1 : Int) * (2 : Int) ^ rw.toNat))))) ∧
(((bits BinOp.and IntKind.i64 (cx / (2 : Int) ^ (6 : Nat)) (1 : Int) == 1) = true → R (.ret (.agg ⟨[I (bits BinOp.and IntKind.i64 cx (IntKind.i64.wrap (IntKind.i64.wrap ((1 : Int) * (2 : Int) ^ rw.toNat) - (1 : Int)))), .bool true]⟩)) [.mp es2]) ∧
((bits BinOp.and IntKind.i64 (cx / (2 : Int) ^ (6 : Nat)) (1 : Int) == 1) = false → R (.ret (.agg ⟨[I (bits BinOp.and IntKind.i64 cx (IntKind.i64.wrap (IntKind.i64.wrap ((1 : Int) * (2 : Int) ^ rw.toNat) - (1 : Int)))), .bool false]⟩)) [.mp es2]))))) := by kernel_rfl
theorem f15 (rw st : Int) (n cw cv m cu : Nat) (hut : Nat) (w v : Nat → Sp) (u : Nat → Hut) (es2 : List (Value × Value)) (x : Int) (tb : List Value) (R : ARes → Prop) : (vx.call 15 [suV rw st n cw cv m cu, I hut] (retK R) (mSu tb (spL n w) (spL n v) (huL m u)) ((25, .con (C79 rw st n cw cv m cu (spL n w) (spL n v) (huL m u))) :: (29, .val (.bool true)) :: (12, .val (.pointer (some ⟨4, 0 + hut * 3, none⟩))) :: (0, .val (.agg ⟨[I (u hut).fl, I (u hut).br, I (u hut).row]⟩)) :: (1, .again) :: (10, .conW (CW39 rw st n cw cv m cu (u hut).fl (u hut).br (u hut).row tb (spL n w) (spL n v) [] es2 x)) :: [])) =
(CA 79 (C79 rw st n cw cv m cu (spL n w) (spL n v) (huL m u)) ⟨⟨[I rw, I st], [⟨n, cw⟩, ⟨n, cv⟩, ⟨m, cu⟩]⟩, [spL n w, spL n v, huL m u]⟩ <|
((OT (decide ((hut : Int) ≤ IntKind.i64.wrap ((m : Int) - (1 : Int)))) true) ∧
(((((0 : Int) ≤ hut) ∧ ((hut : Int) < m)) ∧ (VR (.pointer (some ⟨4, 0 + hut * 3, none⟩)))) ∧
((HR hut m u) ∧
(((HR hut m u) ∧ (SV 4 m cu)) ∧
(CW 39 (CW39 rw st n cw cv m cu (u hut).fl (u hut).br (u hut).row tb (spL n w) (spL n v) [] es2 x) ⟨⟨[I rw, I st, I (u hut).fl, I (u hut).br, I (u hut).row], [⟨n, cw⟩, ⟨n, cv⟩, ⟨m, cu⟩]⟩, [tb, spL n w, spL n v], [[]]⟩ <|
R (.ret (.tuple ⟨[I x, I 0]⟩)))))))) := by kernel_rfl
theorem f14 (rw st : Int) (n cw cv m cu : Nat) (hut : Nat) (w v : Nat → Sp) (u : Nat → Hut) (es2 : List (Value × Value)) (x y : Int) (tb : List Value) (R : ARes → Prop) : (vx.call 14 [suV rw st n cw cv m cu, I hut] (retK R) (mSu tb (spL n w) (spL n v) (huL m u)) ((26, .con (C79 rw st n cw cv m cu (spL n w) (spL n v) (huL m u))) :: (29, .val (.bool true)) :: (12, .val (.pointer (some ⟨4, 0 + hut * 3, none⟩))) :: (0, .val (.agg ⟨[I (u hut).fl, I (u hut).br, I (u hut).row]⟩)) :: (1, .again) :: (10, .conW (CW36 rw st n cw cv m cu (u hut).fl (u hut).br (u hut).row tb (spL n w) (spL n v) [] es2 x y)) :: [])) =
(CA 79 (C79 rw st n cw cv m cu (spL n w) (spL n v) (huL m u)) ⟨⟨[I rw, I st], [⟨n, cw⟩, ⟨n, cv⟩, ⟨m, cu⟩]⟩, [spL n w, spL n v, huL m u]⟩ <|
((OT (decide ((hut : Int) ≤ IntKind.i64.wrap ((m : Int) - (1 : Int)))) true) ∧
(((((0 : Int) ≤ hut) ∧ ((hut : Int) < m)) ∧ (VR (.pointer (some ⟨4, 0 + hut * 3, none⟩)))) ∧
((HR hut m u) ∧
(((HR hut m u) ∧ (SV 4 m cu)) ∧
(CW 36 (CW36 rw st n cw cv m cu (u hut).fl (u hut).br (u hut).row tb (spL n w) (spL n v) [] es2 x y) ⟨⟨[I rw, I st, I (u hut).fl, I (u hut).br, I (u hut).row], [⟨n, cw⟩, ⟨n, cv⟩, ⟨m, cu⟩]⟩, [tb, spL n w, spL n v], [[]]⟩ <|
R (.ret (.tuple ⟨[I x, I y, I 0]⟩)))))))) := by kernel_rfl
theorem f16 (rw st : Int) (n cw cv m cu : Nat) (hut : Nat) (w v : Nat → Sp) (u : Nat → Hut) (es2 : List (Value × Value)) (x : Int) (y first : Nat) (tb : List Value) (R : ARes → Prop) : (vx.call 16 [suV rw st n cw cv m cu, I hut] (retK R) (mSu tb (spL n w) (spL n v) (huL m u)) ((25, .con (C79 rw st n cw cv m cu (spL n w) (spL n v) (huL m u))) :: (29, .val (.bool true)) :: (12, .val (.pointer (some ⟨4, 0 + hut * 3, none⟩))) :: (0, .val (.agg ⟨[I (u hut).fl, I (u hut).br, I (u hut).row]⟩)) :: (1, .again) :: (10, .conW (CW36 rw st n cw cv m cu (u hut).fl (u hut).br (u hut).row tb (spL n w) (spL n v) [] es2 x y)) :: [(3, .split ((5, .con (C42 tb y first)) :: []) ([]))])) =
(CA 79 (C79 rw st n cw cv m cu (spL n w) (spL n v) (huL m u)) ⟨⟨[I rw, I st], [⟨n, cw⟩, ⟨n, cv⟩, ⟨m, cu⟩]⟩, [spL n w, spL n v, huL m u]⟩ <|
((OT (decide ((hut : Int) ≤ IntKind.i64.wrap ((m : Int) - (1 : Int)))) true) ∧
(((((0 : Int) ≤ hut) ∧ ((hut : Int) < m)) ∧ (VR (.pointer (some ⟨4, 0 + hut * 3, none⟩)))) ∧
((HR hut m u) ∧
(((HR hut m u) ∧ (SV 4 m cu)) ∧
(CW 36 (CW36 rw st n cw cv m cu (u hut).fl (u hut).br (u hut).row tb (spL n w) (spL n v) [] es2 x y) ⟨⟨[I rw, I st, I (u hut).fl, I (u hut).br, I (u hut).row], [⟨n, cw⟩, ⟨n, cv⟩, ⟨m, cu⟩]⟩, [tb, spL n w, spL n v], [[]]⟩ <|
((((y : Int) != 0) = true → (CA 42 (C42 tb y first) ⟨⟨[I y], []⟩, [tb]⟩ <|
R (.ret (.tuple ⟨[I first, I 0]⟩)))) ∧
(((y : Int) != 0) = false → R (.ret (.tuple ⟨[I 0, I 4]⟩)))))))))) := by kernel_rfl
theorem f17 (rw st : Int) (n cw cv m cu : Nat) (hut hour : Nat) (w v : Nat → Sp) (u : Nat → Hut) (es2 : List (Value × Value)) (x : Int) (b : Bool) (tb : List Value) (R : ARes → Prop) : (vx.call 17 [suV rw st n cw cv m cu, I hut, I hour] (retK R) (mSu tb (spL n w) (spL n v) (huL m u)) ((27, .con (C79 rw st n cw cv m cu (spL n w) (spL n v) (huL m u))) :: (29, .val (.bool true)) :: (12, .val (.pointer (some ⟨4, 0 + hut * 3, none⟩))) :: (0, .val (.agg ⟨[I (u hut).fl, I (u hut).br, I (u hut).row]⟩)) :: (1, .again) :: (27, .val (.bool true)) :: (10, .conW (CW46 rw st n cw cv m cu (u hut).fl (u hut).br (u hut).row hour tb (spL n w) (spL n v) [] es2 x b)) :: [(14, .split ([]) ([]))])) =
(CA 79 (C79 rw st n cw cv m cu (spL n w) (spL n v) (huL m u)) ⟨⟨[I rw, I st], [⟨n, cw⟩, ⟨n, cv⟩, ⟨m, cu⟩]⟩, [spL n w, spL n v, huL m u]⟩ <|
((OT (decide ((hut : Int) ≤ IntKind.i64.wrap ((m : Int) - (1 : Int)))) true) ∧
(((((0 : Int) ≤ hut) ∧ ((hut : Int) < m)) ∧ (VR (.pointer (some ⟨4, 0 + hut * 3, none⟩)))) ∧
((HR hut m u) ∧
(((HR hut m u) ∧ (SV 4 m cu)) ∧
((OT (decide ((hour : Int) ≤ IntKind.i64.wrap ((n : Int) - (1 : Int)))) true) ∧
(CW 46 (CW46 rw st n cw cv m cu (u hut).fl (u hut).br (u hut).row hour tb (spL n w) (spL n v) [] es2 x b) ⟨⟨[I rw, I st, I (u hut).fl, I (u hut).br, I (u hut).row, I hour], [⟨n, cw⟩, ⟨n, cv⟩, ⟨m, cu⟩]⟩, [tb, spL n w, spL n v], [[]]⟩ <|
((b = true → R (.ret (.tuple ⟨[I x, .bool true, I 0]⟩))) ∧
(b = false → R (.ret (.tuple ⟨[I x, .bool false, I 0]⟩))))))))))) := by kernel_rfl
theorem f18 (rw st : Int) (n cw cv m cu : Nat) (hour row : Nat) (w v : Nat → Sp) (u : Nat → Hut) (R : ARes → Prop) : (vx.call 18 [suV rw st n cw cv m cu, I hour, I row] (retK R) (mSd (spL n w) (spL n v) (huL m u)) ((20, .con (C79 rw st n cw cv m cu (spL n w) (spL n v) (huL m u))) :: (29, .val (.bool true)) :: (22, .val (.bool true)) :: (19, .val (.pointer (some ⟨2, 0 + hour * 2, none⟩))) :: (1, .val (I (w hour).lo)) :: (6, .val (.pointer (some ⟨2, 0 + hour * 2, none⟩))) :: (1, .val (I (w hour).hi)) :: (13, .again) :: [])) =
(CA 79 (C79 rw st n cw cv m cu (spL n w) (spL n v) (huL m u)) ⟨⟨[I rw, I st], [⟨n, cw⟩, ⟨n, cv⟩, ⟨m, cu⟩]⟩, [spL n w, spL n v, huL m u]⟩ <|
((OT (decide ((hour : Int) ≤ IntKind.i64.wrap ((n : Int) - (1 : Int)))) true) ∧
((OT (decide ((row : Int) ≤ IntKind.i64.wrap (rw - (1 : Int)))) true) ∧
(((((0 : Int) ≤ hour) ∧ ((hour : Int) < n)) ∧ (VR (.pointer (some ⟨2, 0 + hour * 2, none⟩)))) ∧
(((spL n w)[(0 : Nat) + hour * (2 : Nat) + (0 : Nat)]? = some (I (w hour).lo)) ∧
(((((0 : Int) ≤ hour) ∧ ((hour : Int) < n)) ∧ (VR (.pointer (some ⟨2, 0 + hour * 2, none⟩)))) ∧
(((spL n w)[(0 : Nat) + hour * (2 : Nat) + (1 : Nat)]? = some (I (w hour).hi)) ∧
((((spL n w)[(0 : Nat) + hour * (2 : Nat) + (1 : Nat)]? = some (I (w hour).hi)) ∧ (((some (.slice (.some ⟨(2 : Nat), (0 : Nat), .none⟩) n cw) : Option Value) = some (.slice (.some ⟨(2 : Nat), (0 : Nat), .none⟩) n cw)) ∧ ((((6 : Nat) ≤ (6 : Nat)) ∧ (((.agg ⟨[I rw, I st, .slice (.some ⟨(2 : Nat), (0 : Nat), .none⟩) n cw, .slice (.some ⟨(3 : Nat), (0 : Nat), .none⟩) n cv, .slice (.some ⟨(4 : Nat), (0 : Nat), .none⟩) m cu, .map (.some (14 : Nat))]⟩) : Value) = (.agg ⟨[I rw, I st, .slice (.some ⟨(2 : Nat), (0 : Nat), .none⟩) n cw, .slice (.some ⟨(3 : Nat), (0 : Nat), .none⟩) n cv, .slice (.some ⟨(4 : Nat), (0 : Nat), .none⟩) m cu, .map (.some (14 : Nat))]⟩))) ∧ True))) ∧
R (.ret (.tuple ⟨[.agg ⟨[I (if (0 : Int) > IntKind.i64.wrap ((w hour).lo - IntKind.i64.wrap (st * (row : Int))) then (0 : Int) else IntKind.i64.wrap ((w hour).lo - IntKind.i64.wrap (st * (row : Int)))), I (if (0 : Int) > IntKind.i64.wrap ((w hour).hi - IntKind.i64.wrap (st * (row : Int))) then (0 : Int) else IntKind.i64.wrap ((w hour).hi - IntKind.i64.wrap (st * (row : Int))))]⟩, I 0]⟩)))))))))) := by kernel_rfl
theorem huL_at (m : Nat) (u : Nat → Hut) : ∀ v ∈ huL m u, atomic v = true := flatC_atomic fun i _ v hv => by
 have hv : v ∈ [I (u i).fl, I (u i).br, I (u i).row] := hv
 simp only [List.mem_cons, List.not_mem_nil, or_false] at hv
 rcases hv with rfl | rfl | rfl <;> rfl
theorem huL_len (m : Nat) (u : Nat → Hut) : (huL m u).length = m * 3 := flatC_len fun i _ => rfl
theorem huL_part {m i : Nat} (u : Nat → Hut) (h : i < m) : ((huL m u).drop (0 + i * 3)).take 3 = huV (u i) := by
 rw [Nat.zero_add]; exact flatC_part (k := 3) (fun i _ => rfl) h
theorem spL_part {n i : Nat} (w : Nat → Sp) (h : i < n) : ((spL n w).drop (0 + i * 2)).take 2 = spV (w i) := by
 rw [Nat.zero_add]; exact flatC_part (k := 2) (fun i _ => rfl) h
structure HUK (rw : Int) (m : Nat) (u : Nat → Hut) : Prop where
 m5 : m ≤ 5
 u : ∀ i, i < m → 0 ≤ (u i).fl ∧ (u i).fl ≤ 40 ∧ 0 ≤ (u i).br ∧ (u i).br ≤ 10 ∧ ((u i).row : Int) < rw
section
variable {rw st : Int} {n cw cv m cu : Nat} {w v : Nat → Sp} {u : Nat → Hut}
theorem cl3 {a : List Value} {b : List (Nat × Nat)} : ClW ⟨⟨a, b⟩, [spL n w, spL n v, huL m u], []⟩ := by
 refine ⟨fun cs hc => ?_, fun e hc => (by cases hc)⟩
 simp only [List.mem_cons, List.not_mem_nil, or_false] at hc
 rcases hc with rfl | rfl | rfl
 · exact spL_at _ _
 · exact spL_at _ _
 · exact huL_at _ _
theorem at3 : Atoms [spL n w, spL n v, huL m u] := by
 intro cs hc
 simp only [List.mem_cons, List.not_mem_nil, or_false] at hc
 rcases hc with rfl | rfl | rfl
 · exact spL_at _ _
 · exact spL_at _ _
 · exact huL_at _ _
theorem at4 : Atoms [tabC, spL n w, spL n v, huL m u] := by
 intro cs hc
 simp only [List.mem_cons, List.not_mem_nil, or_false] at hc
 rcases hc with rfl | rfl | rfl | rfl
 · exact tabC_at
 · exact spL_at _ _
 · exact spL_at _ _
 · exact huL_at _ _
theorem tt {b : Bool} (h : b = true) : (some (.bool b) : Option Value) = some (.bool true) := by rw [h]
theorem tf {b : Bool} (h : b = false) : (some (.bool b) : Option Value) = some (.bool false) := by rw [h]
theorem loop79a (hS : SOK rw st n w v) : LoopOW Tryd.prog none p79a T79a (h79a rw st n cw cv m cu (spL n w) (spL n v) (huL m u) 0) (.exit 0) T79a (h79a rw st n cw cv m cu (spL n w) (spL n v) (huL m u) n) := by
 have h8 := hS.n8
 refine loop_forW (Ts := [T79a]) (k := 6) (n := n) (e := .exit 0) (st := fun i => (0, h79a rw st n cw cv m cu (spL n w) (spL n v) (huL m u) i)) rfl vx_sound ?_ (by rw [nglob]; omega) ⟨by simp, trivial⟩ (fun i _ => cl3) (fun i hi R hR => ?_) (fun R hR => ?_) rfl (Nat.le_of_ble_eq_true rfl) (by decide) rfl
 · intro T hT; simp only [List.mem_singleton] at hT; subst hT; rfl
 · have hw := wrS (i := i) (by omega)
   obtain ⟨w0, w1, w2, w3⟩ := hS.w i hi
   obtain ⟨v0, v1, v2, v3⟩ := hS.v i hi
   have ew : IntKind.i64.wrap ((w i).hi - (w i).lo) = (w i).hi - (w i).lo := wrapI (by omega) (by omega)
   have ev : IntKind.i64.wrap ((v i).hi - (v i).lo) = (v i).hi - (v i).lo := wrapI (by omega) (by omega)
   have pw := spL_part w hi
   have pv := spL_part v hi
   have lw := spL_len n w
   have lv := spL_len n v
   refine ⟨T79a, _, rfl, (b79a rw st n cw cv m cu i w v u R).mpr ⟨fun _ => ?_, fun h => absurd (by omega) (of_decide_eq_false h)⟩⟩
   rw [ew, ev, hw]
   exact ⟨⟨⟨by omega, by omega⟩, rfl⟩, ⟨by rw [lw]; omega, by rw [pw]; rfl⟩, tt (decide_eq_true (by omega)), tt (decide_eq_true (by omega)), tt (decide_eq_true (by omega)), tt (decide_eq_true (by omega)), tt (decide_eq_true (by omega)), tt (decide_eq_true (by omega)), ⟨⟨by omega, by omega⟩, rfl⟩, ⟨by rw [lv]; omega, by rw [pv]; rfl⟩, tt (decide_eq_true (by omega)), tt (decide_eq_true (by omega)), tt (decide_eq_true (by omega)), tt (decide_eq_true (by omega)), tt (decide_eq_true (by omega)), tt (decide_eq_true (by omega)), hR⟩
 · exact ⟨T79a, _, rfl, (b79a rw st n cw cv m cu n w v u R).mpr ⟨fun h => absurd (of_decide_eq_true h) (by omega), fun _ => hR⟩⟩
theorem loop79b (hrw : 1 ≤ rw ∧ rw ≤ 6) (hU : HUK rw m u) : LoopOW Tryd.prog none p79b T79b (h79b rw st n cw cv m cu (spL n w) (spL n v) (huL m u) 0) (.exit 2) T79b (h79b rw st n cw cv m cu (spL n w) (spL n v) (huL m u) m) := by
 have h5 := hU.m5
 refine loop_forW (Ts := [T79b]) (k := 6) (n := m) (e := .exit 2) (st := fun i => (0, h79b rw st n cw cv m cu (spL n w) (spL n v) (huL m u) i)) rfl vx_sound ?_ (by rw [nglob]; omega) ⟨by simp, trivial⟩ (fun i _ => cl3) (fun i hi R hR => ?_) (fun R hR => ?_) rfl (Nat.le_of_ble_eq_true rfl) (by decide) rfl
 · intro T hT; simp only [List.mem_singleton] at hT; subst hT; rfl
 · have hw := wrS (i := i) (by omega)
   obtain ⟨u0, u1, u2, u3, u4⟩ := hU.u i hi
   have er : IntKind.i64.wrap (rw - 1) = rw - 1 := wrapI (by omega) (by omega)
   have pu := huL_part u hi
   have lu := huL_len m u
   refine ⟨T79b, _, rfl, (b79b rw st n cw cv m cu i w v u R).mpr ⟨fun _ => ?_, fun h => absurd (by omega) (of_decide_eq_false h)⟩⟩
   rw [er, hw]
   exact ⟨⟨⟨by omega, by omega⟩, rfl⟩, ⟨by rw [lu]; omega, by rw [pu]; rfl⟩, tt (decide_eq_true (by omega)), tt (decide_eq_true (by omega)), tt (decide_eq_true (by omega)), tt (decide_eq_true (by omega)), tt (decide_eq_true (by omega)), hR⟩
 · exact ⟨T79b, _, rfl, (b79b rw st n cw cv m cu m w v u R).mpr ⟨fun h => absurd (of_decide_eq_true h) (by omega), fun _ => hR⟩⟩
theorem C79_ok (hS : SOK rw st n w v) (hU : HUK rw m u) : ConOK Tryd.prog 79 (C79 rw st n cw cv m cu (spL n w) (spL n v) (huL m u)) := by
 have la := loop79a (cw := cw) (cv := cv) (cu := cu) (m := m) (u := u) hS
 have lb := loop79b (n := n) (cw := cw) (cv := cv) (cu := cu) (st := st) (w := w) (v := v) ⟨hS.rw1, hS.rw6⟩ hU
 have h8 := hS.n8
 have h5 := hU.m5
 have h1 := hS.rw1
 have h2 := hS.rw6
 have h3 := hS.st0
 have h4 := hS.st4
 refine con_of vx_sound ⟨⟨[I rw, I st], [(n, cw), (n, cv), (m, cu)]⟩, [spL n w, spL n v, huL m u]⟩ (fun y hy => ?_) rfl (fun y _ => rfl) (fun y hy => ?_) rfl (Nat.le_of_ble_eq_true rfl) (by rw [nglob]; exact Nat.le_of_ble_eq_true rfl)
 · cases hy
   exact ⟨_, (f79 rw st n cw cv m cu w v u _).mpr ⟨tt (decide_eq_true h1), tt (decide_eq_true h2), tt (decide_eq_true h3), tt (decide_eq_true h4), tf (decide_eq_false (by omega)), tf (by simp), tf (decide_eq_false (by omega)), cl3, la, cl3, lb, rfl⟩⟩
 · cases hy
   exact at3
theorem agg70 : tAgg Tryd.prog 70 = some false := by kernel_rfl
theorem part9 {c : Nat → Int} {i : Nat} (hi : i < 9) : partV Tryd.prog 70 [I (c 0), I (c 1), I (c 2), I (c 3), I (c 4), I (c 5), I (c 6), I (c 7), I (c 8)] (i * 1) = some (I (c i)) := by
 simp only [partV, agg70]
 have := ints_get (n := 9) c hi
 rw [Nat.zero_add] at this
 exact this
def losN (c : Nat) : Nat := if c = 64 then 2 else if c.testBit 6 = true then 1 else 0
theorem los_tab : ((List.range 128).all fun c => (((c : Int) == IntKind.i64.wrap ((1 : Int) * (2 : Int) ^ 6)) == decide (c = 64)) && ((bits BinOp.and IntKind.i64 ((c : Int) / (2 : Int) ^ 6) (1 : Int) == (1 : Int)) == c.testBit 6)) = true := by kernel_rfl
theorem los_eq {c : Nat} (h : c < 128) : ((c : Int) == IntKind.i64.wrap ((1 : Int) * (2 : Int) ^ 6)) = decide (c = 64) ∧ (bits BinOp.and IntKind.i64 ((c : Int) / (2 : Int) ^ 6) (1 : Int) == (1 : Int)) = c.testBit 6 := by
 have h := List.all_eq_true.1 los_tab c (List.mem_range.2 h)
 simp only [Bool.and_eq_true, beq_iff_eq] at h
 exact h
theorem and_tab : ((List.range 128).all fun c => (List.range 7).all fun r => decide (bits BinOp.and IntKind.i64 (c : Int) (IntKind.i64.wrap (IntKind.i64.wrap ((1 : Int) * (2 : Int) ^ r) - 1)) = ((c &&& (2 ^ r - 1) : Nat) : Int))) = true := by kernel_rfl
theorem and_eq {c r : Nat} (h : c < 128) (hr : r < 7) : bits BinOp.and IntKind.i64 (c : Int) (IntKind.i64.wrap (IntKind.i64.wrap ((1 : Int) * (2 : Int) ^ r) - 1)) = ((c &&& (2 ^ r - 1) : Nat) : Int) :=
 of_decide_eq_true (List.all_eq_true.1 (List.all_eq_true.1 and_tab c (List.mem_range.2 h)) r (List.mem_range.2 hr))
theorem C36_ok (hS : SOK rw st n w v) {fl br : Int} {row : Nat} (hr : row ≤ 6) {M : List (Key × Out)} (hM : KpO st w v M) :
    ConWOK Tryd.prog 36 (CW36 rw st n cw cv m cu fl br row tabC (spL n w) (spL n v) (encK M) (encK (hrM st w v fl br row n (hrM st w v fl br row n M n) n)) (hrS st w v fl br (selP 69) row n : Nat) (hrS st w v fl br (selP 70) row n : Nat)) := by
 have h1 := C68_ok (cw := cw) (cv := cv) (m := m) (cu := cu) (fl := fl) (br := br) 69 (.inl rfl) hS hr hM
 have h2 := C68_ok (cw := cw) (cv := cv) (m := m) (cu := cu) (fl := fl) (br := br) 70 (.inr rfl) hS hr (hrM_ok (row := row) (n := n) (fl := fl) (br := br) hM n)
 refine conW_of vx_sound (callable 36 _ _ rfl rfl) (fun y hy => ?_) (fun y _ => ⟨rfl, fun b hb => ?_⟩) (fun y hy => ?_) (Nat.le_of_ble_eq_true rfl) (by rw [nglob]; exact Nat.le_of_ble_eq_true rfl)
 · cases hy
   exact ⟨_, (f36 rw st fl br row n cw cv m cu tabC (spL n w) (spL n v) (encK M) (encK (hrM st w v fl br row n M n)) (encK (hrM st w v fl br row n (hrM st w v fl br row n M n) n)) (hrS st w v fl br (selP 69) row n : Nat) (hrS st w v fl br (selP 70) row n : Nat) _).mpr ⟨h1, rfl, ⟨⟨Nat.le_refl _, rfl⟩, ⟨Nat.le_refl _, rfl⟩, trivial⟩, h2, rfl, rfl, rfl⟩⟩
 · simp only [CW36, List.mem_singleton] at hb
   subst hb
   exact encK_cl _
 · cases hy
   exact cl_tab
theorem C39_ok (hS : SOK rw st n w v) {fl br : Int} {row : Nat} (hr : row ≤ 6) {M : List (Key × Out)} (hM : KpO st w v M) :
    ConWOK Tryd.prog 39 (CW39 rw st n cw cv m cu fl br row tabC (spL n w) (spL n v) (encK M) (encK (crM st w v fl br row M n)) (losN (crs st w v fl br row n) : Nat)) := by
 have h1 := C72_ok (cw := cw) (cv := cv) (m := m) (cu := cu) (fl := fl) (br := br) hS hr hM
 have h8 := hS.n8
 have hc := crs_lt (st := st) (w := w) (v := v) (fl := fl) (br := br) hr n
 obtain ⟨e1, e2⟩ := los_eq hc
 have hp := part9 (c := crF st w v fl br row n) (i := n) (by omega)
 have hcr : crF st w v fl br row n n = (crs st w v fl br row n : Nat) := if_pos (Nat.le_refl n)
 rw [hcr] at hp
 refine conW_of vx_sound (callable 39 _ _ rfl rfl) (fun y hy => ?_) (fun y _ => ⟨rfl, fun b hb => ?_⟩) (fun y hy => ?_) (Nat.le_of_ble_eq_true rfl) (by rw [nglob]; exact Nat.le_of_ble_eq_true rfl)
 · cases hy
   have key : ∀ R : ARes → List WB → Prop, R (.ret (I (losN (crs st w v fl br row n) : Nat))) [.mp (encK (crM st w v fl br row M n))] → ∃ hs, vx.call 39 [shV rw st n cw cv m cu, .agg ⟨[I fl, I br, I row]⟩] (retW bs92 R) (mt92 tabC (spL n w) (spL n v) (encK M)) hs := fun R hR => by
    refine ⟨_, (f39 rw st fl br row n cw cv m cu tabC (spL n w) (spL n v) (encK M) (encK (crM st w v fl br row M n)) (crF st w v fl br row n 0) (crF st w v fl br row n 1) (crF st w v fl br row n 2) (crF st w v fl br row n 3) (crF st w v fl br row n 4) (crF st w v fl br row n 5) (crF st w v fl br row n 6) (crF st w v fl br row n 7) (crF st w v fl br row n 8) (crs st w v fl br row n : Nat) R).mpr ⟨h1, rfl, ⟨rfl, rfl, trivial⟩, ⟨⟨by omega, by omega⟩, hp⟩, fun h => ?_, fun h => ⟨fun h' => ?_, fun h' => ?_⟩⟩⟩
    · have : losN (crs st w v fl br row n) = 2 := if_pos (of_decide_eq_true (e1 ▸ h))
      rw [this] at hR; exact hR
    · have : losN (crs st w v fl br row n) = 1 := by unfold losN; rw [if_neg (of_decide_eq_false (e1 ▸ h)), if_pos (e2 ▸ h')]
      rw [this] at hR; exact hR
    · have : losN (crs st w v fl br row n) = 0 := by
       unfold losN
       rw [e2] at h'
       rw [if_neg (of_decide_eq_false (e1 ▸ h)), h']
       rfl
      rw [this] at hR; exact hR
   obtain ⟨hs, h⟩ := key (fun r ws => r = .ret (I (losN (crs st w v fl br row n) : Nat)) ∧ ws = [.mp (encK (crM st w v fl br row M n))]) ⟨rfl, rfl⟩
   exact ⟨hs, h⟩
 · simp only [CW39, List.mem_singleton] at hb
   subst hb
   exact encK_cl _
 · cases hy
   exact cl_tab
theorem C46_ok (hS : SOK rw st n w v) {fl br : Int} {row hour : Nat} (hr : row ≤ 6) (hh : hour < n) {M : List (Key × Out)} (hM : KpO st w v M) :
    ConWOK Tryd.prog 46 (CW46 rw st n cw cv m cu fl br row hour tabC (spL n w) (spL n v) (encK M) (encK (crM st w v fl br row M n)) (crs st w v fl br row (hour + 1) &&& (2 ^ rw.toNat - 1) : Nat) ((crs st w v fl br row (hour + 1)).testBit 6)) := by
 have h1 := C72_ok (cw := cw) (cv := cv) (m := m) (cu := cu) (fl := fl) (br := br) hS hr hM
 have h8 := hS.n8
 have hw1 := hS.rw1
 have hw6 := hS.rw6
 have hc := crs_lt (st := st) (w := w) (v := v) (fl := fl) (br := br) hr (hour + 1)
 obtain ⟨e1, e2⟩ := los_eq hc
 have hp := part9 (c := crF st w v fl br row n) (i := hour + 1) (by omega)
 have hcr : crF st w v fl br row n (hour + 1) = (crs st w v fl br row (hour + 1) : Nat) := if_pos (by omega)
 rw [hcr] at hp
 have hand := and_eq (r := rw.toNat) hc (by omega)
 have hw := wrS (i := hour) (by omega)
 refine conW_of vx_sound (callable 46 _ _ rfl rfl) (fun y hy => ?_) (fun y _ => ⟨rfl, fun b hb => ?_⟩) (fun y hy => ?_) (Nat.le_of_ble_eq_true rfl) (by rw [nglob]; exact Nat.le_of_ble_eq_true rfl)
 · cases hy
   have key : ∀ R : ARes → List WB → Prop, R (.ret (.agg ⟨[I (crs st w v fl br row (hour + 1) &&& (2 ^ rw.toNat - 1) : Nat), .bool ((crs st w v fl br row (hour + 1)).testBit 6)]⟩)) [.mp (encK (crM st w v fl br row M n))] → ∃ hs, vx.call 46 [shV rw st n cw cv m cu, .agg ⟨[I fl, I br, I row]⟩, I hour] (retW bs92 R) (mt92 tabC (spL n w) (spL n v) (encK M)) hs := fun R hR => by
    refine ⟨_, (f46 rw st fl br row n cw cv m cu tabC (spL n w) (spL n v) (encK M) (encK (crM st w v fl br row M n)) hour (crF st w v fl br row n 0) (crF st w v fl br row n 1) (crF st w v fl br row n 2) (crF st w v fl br row n 3) (crF st w v fl br row n 4) (crF st w v fl br row n 5) (crF st w v fl br row n 6) (crF st w v fl br row n 7) (crF st w v fl br row n 8) (crs st w v fl br row (hour + 1) : Nat) R).mpr ?_⟩
    rw [hw, hand, e2]
    refine ⟨h1, rfl, ⟨⟨by omega, by omega⟩, hp⟩, ⟨⟨by omega, by omega⟩, rfl⟩, fun h => ?_, fun h => ?_⟩
    · rw [h] at hR; exact hR
    · rw [h] at hR; exact hR
   obtain ⟨hs, h⟩ := key (fun r ws => r = .ret (.agg ⟨[I (crs st w v fl br row (hour + 1) &&& (2 ^ rw.toNat - 1) : Nat), .bool ((crs st w v fl br row (hour + 1)).testBit 6)]⟩) ∧ ws = [.mp (encK (crM st w v fl br row M n))]) ⟨rfl, rfl⟩
   exact ⟨hs, h⟩
 · simp only [CW46, List.mem_singleton] at hb
   subst hb
   exact encK_cl _
 · cases hy
   exact cl_tab
end
end Go.Ab
set_option maxRecDepth 100000
namespace Go.Ab
open Go Go.RowKit Go.Proofs
section
variable {rw st : Int} {n cw cv m cu : Nat} {w v : Nat → Sp} {u : Nat → Hut}
theorem kp0 : KpO st w v [] := fun e he => (by cases he)
def crH (st : Int) (w v : Nat → Sp) (x : Hut) (i : Nat) : Nat := crs st w v x.fl x.br x.row i
def surH (st : Int) (w v : Nat → Sp) (n : Nat) (x : Hut) : Nat := hrS st w v x.fl x.br (selP 69) x.row n
def perH (st : Int) (w v : Nat → Sp) (n : Nat) (x : Hut) : Nat := hrS st w v x.fl x.br (selP 70) x.row n
theorem C15_ok (hS : SOK rw st n w v) (hU : HUK rw m u) {hut : Nat} (hh : hut < m) : ConOK Tryd.prog 15 (CS1 rw st n cw cv m cu tabC (spL n w) (spL n v) (huL m u) hut (.tuple ⟨[I (losN (crH st w v (u hut) n) : Nat), I 0]⟩)) := by
 obtain ⟨u0, u1, u2, u3, u4⟩ := hU.u hut hh
 have hw6 := hS.rw6
 have h5 := hU.m5
 have h39 := C39_ok (cw := cw) (cv := cv) (m := m) (cu := cu) (fl := (u hut).fl) (br := (u hut).br) (row := (u hut).row) hS (by omega) (M := []) kp0
 have pu := huL_part u hh
 have lu := huL_len m u
 have e : IntKind.i64.wrap ((m : Int) - 1) = (m : Int) - 1 := wrapI (by omega) (by omega)
 refine con_of vx_sound ⟨⟨[I rw, I st, I hut], [(n, cw), (n, cv), (m, cu)]⟩, [tabC, spL n w, spL n v, huL m u]⟩ (fun y hy => ?_) rfl (fun y _ => rfl) (fun y hy => ?_) rfl (Nat.le_of_ble_eq_true rfl) (by rw [nglob]; exact Nat.le_of_ble_eq_true rfl)
 · cases hy
   refine ⟨_, (f15 rw st n cw cv m cu hut w v u (encK (crM st w v (u hut).fl (u hut).br (u hut).row [] n)) (losN (crs st w v (u hut).fl (u hut).br (u hut).row n) : Nat) tabC _).mpr ?_⟩
   rw [e]
   exact ⟨C79_ok hS hU, rfl, tt (decide_eq_true (by omega)), ⟨⟨by omega, by omega⟩, rfl⟩, ⟨by rw [lu]; omega, by rw [pu]; rfl⟩, ⟨⟨by rw [lu]; omega, by rw [pu]; rfl⟩, rfl, trivial⟩, h39, rfl, rfl⟩
 · cases hy
   exact at4
theorem C14_ok (hS : SOK rw st n w v) (hU : HUK rw m u) {hut : Nat} (hh : hut < m) : ConOK Tryd.prog 14 (CS1 rw st n cw cv m cu tabC (spL n w) (spL n v) (huL m u) hut (.tuple ⟨[I (surH st w v n (u hut) : Nat), I (perH st w v n (u hut) : Nat), I 0]⟩)) := by
 obtain ⟨u0, u1, u2, u3, u4⟩ := hU.u hut hh
 have hw6 := hS.rw6
 have h5 := hU.m5
 have h36 := C36_ok (cw := cw) (cv := cv) (m := m) (cu := cu) (fl := (u hut).fl) (br := (u hut).br) (row := (u hut).row) hS (by omega) (M := []) kp0
 have pu := huL_part u hh
 have lu := huL_len m u
 have e : IntKind.i64.wrap ((m : Int) - 1) = (m : Int) - 1 := wrapI (by omega) (by omega)
 refine con_of vx_sound ⟨⟨[I rw, I st, I hut], [(n, cw), (n, cv), (m, cu)]⟩, [tabC, spL n w, spL n v, huL m u]⟩ (fun y hy => ?_) rfl (fun y _ => rfl) (fun y hy => ?_) rfl (Nat.le_of_ble_eq_true rfl) (by rw [nglob]; exact Nat.le_of_ble_eq_true rfl)
 · cases hy
   refine ⟨_, (f14 rw st n cw cv m cu hut w v u (encK (hrM st w v (u hut).fl (u hut).br (u hut).row n (hrM st w v (u hut).fl (u hut).br (u hut).row n [] n) n)) (surH st w v n (u hut) : Nat) (perH st w v n (u hut) : Nat) tabC _).mpr ?_⟩
   rw [e]
   exact ⟨C79_ok hS hU, rfl, tt (decide_eq_true (by omega)), ⟨⟨by omega, by omega⟩, rfl⟩, ⟨by rw [lu]; omega, by rw [pu]; rfl⟩, ⟨⟨by rw [lu]; omega, by rw [pu]; rfl⟩, rfl, trivial⟩, h36, rfl, rfl⟩
 · cases hy
   exact at4
theorem perH_lt (hn : n ≤ 8) (x : Hut) : perH st w v n x < 256 := lt_256 (hrS_lt hn) hn
noncomputable def befV (y : Nat) : Value := if y = 0 then .tuple ⟨[I 0, I 4]⟩ else .tuple ⟨[I (tzN y : Nat), I 0]⟩
theorem C16_ok (hS : SOK rw st n w v) (hU : HUK rw m u) {hut : Nat} (hh : hut < m) : ConOK Tryd.prog 16 (CS1 rw st n cw cv m cu tabC (spL n w) (spL n v) (huL m u) hut (befV (perH st w v n (u hut)))) := by
 obtain ⟨u0, u1, u2, u3, u4⟩ := hU.u hut hh
 have hw6 := hS.rw6
 have h5 := hU.m5
 have h36 := C36_ok (cw := cw) (cv := cv) (m := m) (cu := cu) (fl := (u hut).fl) (br := (u hut).br) (row := (u hut).row) hS (by omega) (M := []) kp0
 have pu := huL_part u hh
 have lu := huL_len m u
 have hlt := perH_lt (st := st) (w := w) (v := v) hS.n8 (u hut)
 have e : IntKind.i64.wrap ((m : Int) - 1) = (m : Int) - 1 := wrapI (by omega) (by omega)
 refine con_of vx_sound ⟨⟨[I rw, I st, I hut], [(n, cw), (n, cv), (m, cu)]⟩, [tabC, spL n w, spL n v, huL m u]⟩ (fun y hy => ?_) rfl (fun y _ => ?_) (fun y hy => ?_) rfl (Nat.le_of_ble_eq_true rfl) (by rw [nglob]; exact Nat.le_of_ble_eq_true rfl)
 · cases hy
   have key : ∀ R : ARes → Prop, R (.ret (befV (perH st w v n (u hut)))) → ∃ hs, vx.call 16 [suV rw st n cw cv m cu, I hut] (retK R) (mSu tabC (spL n w) (spL n v) (huL m u)) hs := fun R hR => by
    refine ⟨_, (f16 rw st n cw cv m cu hut w v u (encK (hrM st w v (u hut).fl (u hut).br (u hut).row n (hrM st w v (u hut).fl (u hut).br (u hut).row n [] n) n)) (surH st w v n (u hut) : Nat) (perH st w v n (u hut)) (tzN (perH st w v n (u hut))) tabC R).mpr ?_⟩
    rw [e]
    refine ⟨C79_ok hS hU, rfl, tt (decide_eq_true (by omega)), ⟨⟨by omega, by omega⟩, rfl⟩, ⟨by rw [lu]; omega, by rw [pu]; rfl⟩, ⟨⟨by rw [lu]; omega, by rw [pu]; rfl⟩, rfl, trivial⟩, h36, rfl, fun h => ?_, fun h => ?_⟩
    · have h0 : perH st w v n (u hut) ≠ 0 := fun e => by rw [e] at h; simp at h
      have e2 : befV (perH st w v n (u hut)) = .tuple ⟨[I (tzN (perH st w v n (u hut)) : Nat), I 0]⟩ := if_neg h0
      rw [e2] at hR
      exact ⟨C42_ok h0 hlt, rfl, hR⟩
    · have h0 : perH st w v n (u hut) = 0 := by
       have : ((perH st w v n (u hut) : Nat) : Int) = 0 := by simpa using h
       omega
      have e2 : befV (perH st w v n (u hut)) = .tuple ⟨[I 0, I 4]⟩ := if_pos h0
      rw [e2] at hR
      exact hR
   obtain ⟨hs, h⟩ := key (fun r => r = .ret (befV (perH st w v n (u hut)))) rfl
   exact ⟨hs, h⟩
 · show cl 50 (befV (perH st w v n (u hut))) = true
   unfold befV
   split <;> rfl
 · cases hy
   exact at4
theorem C17_ok (hS : SOK rw st n w v) (hU : HUK rw m u) {hut hour : Nat} (hh : hut < m) (hn : hour < n) : ConOK Tryd.prog 17 (CS2 rw st n cw cv m cu tabC (spL n w) (spL n v) (huL m u) hut hour (.tuple ⟨[I (crH st w v (u hut) (hour + 1) &&& (2 ^ rw.toNat - 1) : Nat), .bool ((crH st w v (u hut) (hour + 1)).testBit 6), I 0]⟩)) := by
 obtain ⟨u0, u1, u2, u3, u4⟩ := hU.u hut hh
 have hw6 := hS.rw6
 have h5 := hU.m5
 have h8 := hS.n8
 have h46 := C46_ok (cw := cw) (cv := cv) (m := m) (cu := cu) (fl := (u hut).fl) (br := (u hut).br) (row := (u hut).row) hS (by omega) hn (M := []) kp0
 have pu := huL_part u hh
 have lu := huL_len m u
 have e : IntKind.i64.wrap ((m : Int) - 1) = (m : Int) - 1 := wrapI (by omega) (by omega)
 have e2 : IntKind.i64.wrap ((n : Int) - 1) = (n : Int) - 1 := wrapI (by omega) (by omega)
 refine con_of vx_sound ⟨⟨[I rw, I st, I hut, I hour], [(n, cw), (n, cv), (m, cu)]⟩, [tabC, spL n w, spL n v, huL m u]⟩ (fun y hy => ?_) rfl (fun y _ => rfl) (fun y hy => ?_) rfl (Nat.le_of_ble_eq_true rfl) (by rw [nglob]; exact Nat.le_of_ble_eq_true rfl)
 · cases hy
   have key : ∀ R : ARes → Prop, R (.ret (.tuple ⟨[I (crH st w v (u hut) (hour + 1) &&& (2 ^ rw.toNat - 1) : Nat), .bool ((crH st w v (u hut) (hour + 1)).testBit 6), I 0]⟩)) → ∃ hs, vx.call 17 [suV rw st n cw cv m cu, I hut, I hour] (retK R) (mSu tabC (spL n w) (spL n v) (huL m u)) hs := fun R hR => by
    refine ⟨_, (f17 rw st n cw cv m cu hut hour w v u (encK (crM st w v (u hut).fl (u hut).br (u hut).row [] n)) (crH st w v (u hut) (hour + 1) &&& (2 ^ rw.toNat - 1) : Nat) ((crH st w v (u hut) (hour + 1)).testBit 6) tabC R).mpr ?_⟩
    rw [e, e2]
    refine ⟨C79_ok hS hU, rfl, tt (decide_eq_true (by omega)), ⟨⟨by omega, by omega⟩, rfl⟩, ⟨by rw [lu]; omega, by rw [pu]; rfl⟩, ⟨⟨by rw [lu]; omega, by rw [pu]; rfl⟩, rfl, trivial⟩, tt (decide_eq_true (by omega)), h46, rfl, fun h => ?_, fun h => ?_⟩
    · rw [h] at hR; exact hR
    · rw [h] at hR; exact hR
   obtain ⟨hs, h⟩ := key (fun r => r = .ret (.tuple ⟨[I (crH st w v (u hut) (hour + 1) &&& (2 ^ rw.toNat - 1) : Nat), .bool ((crH st w v (u hut) (hour + 1)).testBit 6), I 0]⟩)) rfl
   exact ⟨hs, h⟩
 · cases hy
   exact at4
theorem C18_ok (hS : SOK rw st n w v) (hU : HUK rw m u) {hour row : Nat} (hn : hour < n) (hr : (row : Int) < rw) : ConOK Tryd.prog 18 (CS2d rw st n cw cv m cu (spL n w) (spL n v) (huL m u) hour row (.tuple ⟨[.agg ⟨[I (dpI st (w hour).lo row), I (dpI st (w hour).hi row)]⟩, I 0]⟩)) := by
 have hw6 := hS.rw6
 have h8 := hS.n8
 obtain ⟨g1, g2⟩ := spL_get w hn
 have e : IntKind.i64.wrap (rw - 1) = rw - 1 := wrapI (by omega) (by omega)
 have e2 : IntKind.i64.wrap ((n : Int) - 1) = (n : Int) - 1 := wrapI (by omega) (by omega)
 refine con_of vx_sound ⟨⟨[I rw, I st, I hour, I row], [(n, cw), (n, cv), (m, cu)]⟩, [spL n w, spL n v, huL m u]⟩ (fun y hy => ?_) rfl (fun y _ => rfl) (fun y hy => ?_) rfl (Nat.le_of_ble_eq_true rfl) (by rw [nglob]; exact Nat.le_of_ble_eq_true rfl)
 · cases hy
   refine ⟨_, (f18 rw st n cw cv m cu hour row w v u _).mpr ?_⟩
   rw [e, e2]
   exact ⟨C79_ok hS hU, rfl, tt (decide_eq_true (by omega)), tt (decide_eq_true (by omega)), ⟨⟨by omega, by omega⟩, rfl⟩, g1, ⟨⟨by omega, by omega⟩, rfl⟩, g2, ⟨g2, rfl, ⟨Nat.le_refl _, rfl⟩, trivial⟩, rfl⟩
 · cases hy
   exact at3
end
end Go.Ab
