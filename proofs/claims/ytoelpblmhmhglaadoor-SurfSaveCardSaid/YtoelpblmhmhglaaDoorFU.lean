/- package surf: SurfSave, of surfs without hours. -/
import Derived.Test.YtoelpblmhmhglaaDoorFT
set_option maxRecDepth 100000
namespace Go.Ab
open Go Go.RowKit Go.Proofs
theorem b26nv (rw st mz : Int) (c1 m cu kc : Nat) (u : Nat → Hut) (L : Nat → Int) (out : Int) (es : List (Value × Value)) (i : Nat) (R : Nat → AExit → Hw → Prop) : (vx.code none (.l p26) (leafW [T26v, R26] R) (T26v.inst (h26v rw st c1 m cu (huL m u) (ints m L) mz m kc out es i)) ((0, .val (.bool true)) :: (2, .val (.pointer (some ⟨7, 0 + i * 1, none⟩))) :: (0, .val (I (L i))) :: (4, .con (CSv rw st c1 m cu (huL m u) i (.tuple ⟨[I 0, I 4]⟩))) :: (6, .val (.bool true)) :: [(5, .split ([(3, .tm 1 [])]) ([(3, .tm 0 [])]))])) =
(((OT (decide ((i : Int) < m)) true) ∧
((((((0 : Int) ≤ i)) ∧ (((i : Int) < m))) ∧ (VR (.pointer (some ⟨7, 0 + i * 1, none⟩)))) ∧
((((ints m L)[0 + i * 1]? = some (I (L i)))) ∧
(CA 16 (CSv rw st c1 m cu (huL m u) i (.tuple ⟨[I 0, I 4]⟩)) ⟨⟨[(I rw), (I st), (I i)], [⟨0, c1⟩, ⟨m, cu⟩]⟩, [(huL m u)]⟩ <|
((OT (decide (L i < (0 : Int))) true) ∧
(((L i != (-1 : Int)) = true → R 1 .ret ⟨⟨[(I 0), (.bool false)], []⟩, [], []⟩) ∧
((L i != (-1 : Int)) = false → R 0 .normal ⟨⟨[(I out), (I m), (I (IntKind.i64.wrap ((i : Int) + (1 : Int)))), (I rw), (I st), (I mz)], [⟨m, kc⟩, ⟨0, c1⟩, ⟨m, cu⟩]⟩, [(huL m u), (ints m L)], [es]⟩)))))))) := by kernel_rfl
theorem b26pv (rw st mz : Int) (c1 m cu kc : Nat) (u : Nat → Hut) (L : Nat → Int) (out : Int) (es : List (Value × Value)) (i : Nat) (c _ : Nat) (es2 : List (Value × Value)) (R : Nat → AExit → Hw → Prop) : (vx.code none (.l p26) (leafW [T26v, R26] R) (T26v.inst (h26v rw st c1 m cu (huL m u) (ints m L) mz m kc out es i)) ((0, .val (.bool true)) :: (2, .val (.pointer (some ⟨7, 0 + i * 1, none⟩))) :: (0, .val (I (L i))) :: (4, .con (CSv rw st c1 m cu (huL m u) i (.tuple ⟨[I 0, I 4]⟩))) :: (6, .val (.bool false)) :: (3, .val (I c)) :: (1, Hint.mset es2) :: [(9, .tm 1 [])])) =
(((OT (decide ((i : Int) < m)) true) ∧
((((((0 : Int) ≤ i)) ∧ (((i : Int) < m))) ∧ (VR (.pointer (some ⟨7, 0 + i * 1, none⟩)))) ∧
((((ints m L)[0 + i * 1]? = some (I (L i)))) ∧
(CA 16 (CSv rw st c1 m cu (huL m u) i (.tuple ⟨[I 0, I 4]⟩)) ⟨⟨[(I rw), (I st), (I i)], [⟨0, c1⟩, ⟨m, cu⟩]⟩, [(huL m u)]⟩ <|
((OT (decide (L i < (0 : Int))) false) ∧
((LookC Tryd.prog 3 (I 0) es (I (L i)) false (I c)) ∧
((SetC Tryd.prog 3 es (I (L i)) (I (IntKind.i64.wrap ((c : Int) + (1 : Int)))) es2) ∧
R 1 .ret ⟨⟨[(I 0), (.bool false)], []⟩, [], []⟩)))))))) := by kernel_rfl
theorem b26xv (rw st mz : Int) (c1 m cu kc : Nat) (u : Nat → Hut) (L : Nat → Int) (out : Int) (es : List (Value × Value)) (i : Nat) (R : Nat → AExit → Hw → Prop) : (vx.code none (.l p26) (leafW [T26v, R26] R) (T26v.inst (h26v rw st c1 m cu (huL m u) (ints m L) mz m kc out es i)) ((0, .val (.bool false)) :: [(1, .tm 0 [])])) =
(((OT (decide ((i : Int) < m)) false) ∧
R 0 (.exit 0) ⟨⟨[(I out), (I m), (I i), (I rw), (I st), (I mz)], [⟨m, kc⟩, ⟨0, c1⟩, ⟨m, cu⟩]⟩, [(huL m u), (ints m L)], [es]⟩)) := by kernel_rfl
theorem f26tv (rw st mz : Int) (c1 m cu kc : Nat) (u : Nat → Hut) (L : Nat → Int) (out : Int) (es : List (Value × Value)) (R : ARes → Prop) : (vx.call 26 [slV 7 m kc, pS 5, pS 6] (retK R) (m26v rw st c1 m cu (huL m u) (ints m L) mz) ((9, .loopW T26v (.exit 0) T26v fun _ => h26v rw st c1 m cu (huL m u) (ints m L) mz m kc out es m) :: [])) =
((LW p26 T26v ⟨⟨[(I 0), (I m), (I 0), (I rw), (I st), (I mz)], [⟨m, kc⟩, ⟨0, c1⟩, ⟨m, cu⟩]⟩, [(huL m u), (ints m L)], [[]]⟩ (.exit 0) T26v ⟨⟨[(I out), (I m), (I m), (I rw), (I st), (I mz)], [⟨m, kc⟩, ⟨0, c1⟩, ⟨m, cu⟩]⟩, [(huL m u), (ints m L)], [es]⟩ <|
R (.ret (.tuple ⟨[(I out), (.bool true)]⟩)))) := by kernel_rfl
theorem f26fv (rw st mz : Int) (c1 m cu kc : Nat) (u : Nat → Hut) (L : Nat → Int) (R : ARes → Prop) : (vx.call 26 [slV 7 m kc, pS 5, pS 6] (retK R) (m26v rw st c1 m cu (huL m u) (ints m L) mz) ((9, .loopW T26v AExit.ret R26 fun _ => r26 (0 : Int) false) :: [])) =
((LW p26 T26v ⟨⟨[(I 0), (I m), (I 0), (I rw), (I st), (I mz)], [⟨m, kc⟩, ⟨0, c1⟩, ⟨m, cu⟩]⟩, [(huL m u), (ints m L)], [[]]⟩ .ret R26 ⟨⟨[(I 0), (.bool false)], []⟩, [], []⟩ <|
R (.ret (.tuple ⟨[(I 0), (.bool false)]⟩)))) := by kernel_rfl
theorem b7a_v (rw st mz : Int) (c1 m cu k d : Nat) (u : Nat → Hut) (L _ bs : Nat → Int) (tb : List Value) (a : Int) (_ j : Nat) (R : Nat → AExit → Hw → Prop) : (vx.code none (.l p7b) (leafW [T7a_v, T7b_v] R) (T7a_v.inst (h7a_v rw st mz c1 m cu k d tb (huL m u) (u8L k bs) (ints m L) a 0)) ((0, .val (.bool true)) :: (6, .val (.bool true)) :: (5, .val (I j)) :: (0, .val (.pointer (some ⟨5, 0 + j * 1, none⟩))) :: (0, .val (.int .u8 (bs j))) :: [(11, .tm 1 [((11 : Nat), (12 : Nat))])])) =
(((OT (decide ((↑(0 : Nat) : Int) < (m : Int))) true) ∧
((OT (decide ((k : Int) > 0)) true) ∧
((((((k : Int) ≠ (0 : Int))) ∧ ((IntKind.i64 = IntKind.i64))) ∧ (((I j) : Value) = (I ((↑(0 : Nat) : Int).tmod (k : Int))))) ∧
((((((0 : Int) ≤ j)) ∧ (((j : Int) < k))) ∧ (VR (.pointer (some ⟨5, 0 + j * 1, none⟩)))) ∧
((((u8L k bs)[0 + j * 1]? = some (.int .u8 (bs j)))) ∧
R 1 .normal ⟨⟨[(I a), (I m), (I (IntKind.i64.wrap ((↑(0 : Nat) : Int) + (1 : Int)))), (I rw), (I st), (I mz)], [⟨k, d⟩, ⟨m, m⟩, ⟨((1 : Nat)), ((1 : Nat))⟩, ⟨0, c1⟩, ⟨m, cu⟩]⟩, [tb, (huL m u), (u8L k bs), (ints m L), [(I (IntKind.i64.wrap ((IntKind.i64.wrap (bs j)).tmod (9 : Int) - (1 : Int))))]], []⟩)))))) := by kernel_rfl
theorem b7a_vn (rw st mz : Int) (c1 m cu _ _ : Nat) (u : Nat → Hut) (L _ _ : Nat → Int) (tb : List Value) (a : Int) (_ _ : Nat) (R : Nat → AExit → Hw → Prop) : (vx.code none (.l p7b) (leafW [T7a_vn, T7b_vn] R) (T7a_vn.inst (h7a_vn rw st mz c1 m cu tb (huL m u) (ints m L) a 0)) ((0, .val (.bool true)) :: [(15, .tm 1 [((11 : Nat), (12 : Nat))])])) =
(((OT (decide ((↑(0 : Nat) : Int) < (m : Int))) true) ∧
R 1 .normal ⟨⟨[(I a), (I m), (I (IntKind.i64.wrap ((↑(0 : Nat) : Int) + (1 : Int)))), (I rw), (I st), (I mz)], [⟨m, m⟩, ⟨((1 : Nat)), ((1 : Nat))⟩, ⟨0, c1⟩, ⟨m, cu⟩]⟩, [tb, (huL m u), (ints m L), [(I ((-1 : Int)))]], []⟩)) := by kernel_rfl
theorem b7b_v (rw st mz : Int) (c1 m cu k d : Nat) (u : Nat → Hut) (L Q bs : Nat → Int) (tb : List Value) (a : Int) (i j : Nat) (R : Nat → AExit → Hw → Prop) : (vx.code none (.l p7b) (leafW [T7a_v, T7b_v] R) (T7b_v.inst (h7b_v rw st mz c1 m cu k d tb (huL m u) (u8L k bs) (ints m L) (ints i Q) a i)) ((0, .val (.bool true)) :: (6, .val (.bool true)) :: (5, .val (I j)) :: (0, .val (.pointer (some ⟨5, 0 + j * 1, none⟩))) :: (0, .val (.int .u8 (bs j))) :: (7, .grow) :: [(3, .tm 1 [((11 : Nat), (13 : Nat))])])) =
(((OT (decide ((i : Int) < m)) true) ∧
((OT (decide ((k : Int) > 0)) true) ∧
((((((k : Int) ≠ (0 : Int))) ∧ ((IntKind.i64 = IntKind.i64))) ∧ (((I j) : Value) = (I ((i : Int).tmod (k : Int))))) ∧
((((((0 : Int) ≤ j)) ∧ (((j : Int) < k))) ∧ (VR (.pointer (some ⟨5, 0 + j * 1, none⟩)))) ∧
((((u8L k bs)[0 + j * 1]? = some (.int .u8 (bs j)))) ∧
((((¬i + (1 : Nat) ≤ i)) ∧ (((i * (1 : Nat) = (ints i Q).length)) ∧ ((((i + (1 : Nat)) * (8 : Nat) ≤ (140737488355328 : Nat))) ∧ ((i + (1 : Nat) ≤ (4611686018427387904 : Nat)))))) ∧
R 1 .normal ⟨⟨[(I a), (I m), (I (IntKind.i64.wrap ((i : Int) + (1 : Int)))), (I rw), (I st), (I mz)], [⟨k, d⟩, ⟨m, m⟩, ⟨(i + (1 : Nat)), (i + (1 : Nat))⟩, ⟨0, c1⟩, ⟨m, cu⟩]⟩, [tb, (huL m u), (u8L k bs), (ints m L), ((List.take (i * (1 : Nat)) (ints i Q)) ++ [(I (IntKind.i64.wrap ((IntKind.i64.wrap (bs j)).tmod (9 : Int) - (1 : Int))))])], []⟩))))))) := by kernel_rfl
theorem b7b_vn (rw st mz : Int) (c1 m cu _ _ : Nat) (u : Nat → Hut) (L Q _ : Nat → Int) (tb : List Value) (a : Int) (i _ : Nat) (R : Nat → AExit → Hw → Prop) : (vx.code none (.l p7b) (leafW [T7a_vn, T7b_vn] R) (T7b_vn.inst (h7b_vn rw st mz c1 m cu tb (huL m u) (ints m L) (ints i Q) a i)) ((0, .val (.bool true)) :: (11, .grow) :: [(3, .tm 1 [((11 : Nat), (13 : Nat))])])) =
(((OT (decide ((i : Int) < m)) true) ∧
((((¬i + (1 : Nat) ≤ i)) ∧ (((i * (1 : Nat) = (ints i Q).length)) ∧ ((((i + (1 : Nat)) * (8 : Nat) ≤ (140737488355328 : Nat))) ∧ ((i + (1 : Nat) ≤ (4611686018427387904 : Nat)))))) ∧
R 1 .normal ⟨⟨[(I a), (I m), (I (IntKind.i64.wrap ((i : Int) + (1 : Int)))), (I rw), (I st), (I mz)], [⟨m, m⟩, ⟨(i + (1 : Nat)), (i + (1 : Nat))⟩, ⟨0, c1⟩, ⟨m, cu⟩]⟩, [tb, (huL m u), (ints m L), ((List.take (i * (1 : Nat)) (ints i Q)) ++ [(I ((-1 : Int)))])], []⟩))) := by kernel_rfl
theorem b7x_v (rw st mz : Int) (c1 m cu k d : Nat) (u : Nat → Hut) (L Q bs : Nat → Int) (tb : List Value) (a : Int) (i _ : Nat) (R : Nat → AExit → Hw → Prop) : (vx.code none (.l p7b) (leafW [T7a_v, T7b_v] R) (T7b_v.inst (h7b_v rw st mz c1 m cu k d tb (huL m u) (u8L k bs) (ints m L) (ints i Q) a i)) ((0, .val (.bool false)) :: [(1, .tm 1 [((11 : Nat), (11 : Nat))])])) =
(((OT (decide ((i : Int) < m)) false) ∧
R 1 (.exit 0) ⟨⟨[(I a), (I m), (I i), (I rw), (I st), (I mz)], [⟨k, d⟩, ⟨m, m⟩, ⟨i, i⟩, ⟨0, c1⟩, ⟨m, cu⟩]⟩, [tb, (huL m u), (u8L k bs), (ints m L), (ints i Q)], []⟩)) := by kernel_rfl
theorem b7x_vn (rw st mz : Int) (c1 m cu _ _ : Nat) (u : Nat → Hut) (L Q _ : Nat → Int) (tb : List Value) (a : Int) (i _ : Nat) (R : Nat → AExit → Hw → Prop) : (vx.code none (.l p7b) (leafW [T7a_vn, T7b_vn] R) (T7b_vn.inst (h7b_vn rw st mz c1 m cu tb (huL m u) (ints m L) (ints i Q) a i)) ((0, .val (.bool false)) :: [(1, .tm 1 [((11 : Nat), (11 : Nat))])])) =
(((OT (decide ((i : Int) < m)) false) ∧
R 1 (.exit 0) ⟨⟨[(I a), (I m), (I i), (I rw), (I st), (I mz)], [⟨m, m⟩, ⟨i, i⟩, ⟨0, c1⟩, ⟨m, cu⟩]⟩, [tb, (huL m u), (ints m L), (ints i Q)], []⟩)) := by kernel_rfl
theorem b7a_vz (rw st mz : Int) (c1 m cu _ d : Nat) (u : Nat → Hut) (L _ bs : Nat → Int) (tb : List Value) (a : Int) (_ _ : Nat) (R : Nat → AExit → Hw → Prop) : (vx.code none (.l p7b) (leafW [T7a_v, T7b_v] R) (T7a_v.inst (h7a_v rw st mz c1 m cu 0 d tb (huL m u) (u8L 0 bs) (ints m L) a 0)) ((0, .val (.bool true)) :: [(15, .tm 1 [((11 : Nat), (12 : Nat))])])) =
(((OT (decide ((↑(0 : Nat) : Int) < (m : Int))) true) ∧
R 1 .normal ⟨⟨[(I a), (I m), (I (IntKind.i64.wrap ((↑(0 : Nat) : Int) + (1 : Int)))), (I rw), (I st), (I mz)], [⟨0, d⟩, ⟨m, m⟩, ⟨((1 : Nat)), ((1 : Nat))⟩, ⟨0, c1⟩, ⟨m, cu⟩]⟩, [tb, (huL m u), [], (ints m L), [(I ((-1 : Int)))]], []⟩)) := by kernel_rfl
theorem b7b_vz (rw st mz : Int) (c1 m cu _ d : Nat) (u : Nat → Hut) (L Q bs : Nat → Int) (tb : List Value) (a : Int) (i _ : Nat) (R : Nat → AExit → Hw → Prop) : (vx.code none (.l p7b) (leafW [T7a_v, T7b_v] R) (T7b_v.inst (h7b_v rw st mz c1 m cu 0 d tb (huL m u) (u8L 0 bs) (ints m L) (ints i Q) a i)) ((0, .val (.bool true)) :: (11, .grow) :: [(3, .tm 1 [((11 : Nat), (13 : Nat))])])) =
(((OT (decide ((i : Int) < m)) true) ∧
((((¬i + (1 : Nat) ≤ i)) ∧ (((i * (1 : Nat) = (ints i Q).length)) ∧ ((((i + (1 : Nat)) * (8 : Nat) ≤ (140737488355328 : Nat))) ∧ ((i + (1 : Nat) ≤ (4611686018427387904 : Nat)))))) ∧
R 1 .normal ⟨⟨[(I a), (I m), (I (IntKind.i64.wrap ((i : Int) + (1 : Int)))), (I rw), (I st), (I mz)], [⟨0, d⟩, ⟨m, m⟩, ⟨(i + (1 : Nat)), (i + (1 : Nat))⟩, ⟨0, c1⟩, ⟨m, cu⟩]⟩, [tb, (huL m u), [], (ints m L), ((List.take (i * (1 : Nat)) (ints i Q)) ++ [(I ((-1 : Int)))])], []⟩))) := by kernel_rfl
theorem f70vp (rw st nb : Int) (c1 m cu k d left _ : Nat) (u : Nat → Hut) (L Q bs : Nat → Int) (tb : List Value) (R : ARes → Prop) : (vx.call 7 [su_v rw st c1 m cu, .int .u8 nb, slV 5 k d] (retK R) (m7_v tb (huL m u) (u8L k bs)) ([(21, .split ((7, .con (C11t tb)) :: []) ((4, .con (C20v rw st c1 m cu (huL m u) true)) :: (11, .conN (C21v rw st c1 m cu (huL m u) ((IntKind.i64.wrap nb).tmod 6) (ints m L) left)) :: (15, .val (.bool false)) :: (6, .con (C26v rw st c1 m cu (huL m u) (ints m L) ((IntKind.i64.wrap nb).tmod 6) m m left true)) :: (10, .val (.bool false)) :: (7, .loopW T7a_v (.exit 0) T7b_v fun _ => h7b_v rw st ((IntKind.i64.wrap nb).tmod 6) c1 m cu k d tb (huL m u) (u8L k bs) (ints m L) (ints m Q) (left : Int) m) :: (2, .con (C26v rw st c1 m cu (huL m u) (ints m Q) ((IntKind.i64.wrap nb).tmod 6) m m 0 false)) :: (8, .con (C11t tb)) :: []))])) =
((((farB m 0 0) = true → (CA 11 (C11t tb) ⟨⟨[], []⟩, [tb]⟩ <|
R (.ret (.bool true)))) ∧
((farB m 0 0) = false → (CA 20 (C20v rw st c1 m cu (huL m u) true) ⟨⟨[(I rw), (I st)], [⟨0, c1⟩, ⟨m, cu⟩]⟩, [(huL m u)]⟩ <|
(CN 21 (C21v rw st c1 m cu (huL m u) ((IntKind.i64.wrap nb).tmod 6) (ints m L) left) ⟨⟨[(I rw), (I st), (I ((IntKind.i64.wrap nb).tmod 6))], [⟨0, c1⟩, ⟨m, cu⟩]⟩, [(huL m u)]⟩ <|
((OT ((m : Int) != m) false) ∧
(CA 26 (C26v rw st c1 m cu (huL m u) (ints m L) ((IntKind.i64.wrap nb).tmod 6) m m left true) ⟨⟨[(I rw), (I st), (I ((IntKind.i64.wrap nb).tmod 6))], [⟨m, m⟩, ⟨0, c1⟩, ⟨m, cu⟩]⟩, [(huL m u), (ints m L)]⟩ <|
((OT ((left : Int) != left) false) ∧
(LW p7b T7a_v ⟨⟨[(I left), (I m), (I 0), (I rw), (I st), (I ((IntKind.i64.wrap nb).tmod 6))], [⟨k, d⟩, ⟨m, m⟩, ⟨0, c1⟩, ⟨m, cu⟩]⟩, [tb, (huL m u), (u8L k bs), (ints m L)], []⟩ (.exit 0) T7b_v ⟨⟨[(I left), (I m), (I m), (I rw), (I st), (I ((IntKind.i64.wrap nb).tmod 6))], [⟨k, d⟩, ⟨m, m⟩, ⟨m, m⟩, ⟨0, c1⟩, ⟨m, cu⟩]⟩, [tb, (huL m u), (u8L k bs), (ints m L), (ints m Q)], []⟩ <|
(CA 26 (C26v rw st c1 m cu (huL m u) (ints m Q) ((IntKind.i64.wrap nb).tmod 6) m m 0 false) ⟨⟨[(I rw), (I st), (I ((IntKind.i64.wrap nb).tmod 6))], [⟨m, m⟩, ⟨0, c1⟩, ⟨m, cu⟩]⟩, [(huL m u), (ints m Q)]⟩ <|
(CA 11 (C11t tb) ⟨⟨[], []⟩, [tb]⟩ <|
R (.ret (.bool true))))))))))))) := by kernel_rfl
theorem f7xvp (rw st nb : Int) (c1 m cu k d left o : Nat) (u : Nat → Hut) (L Q bs : Nat → Int) (tb : List Value) (R : ARes → Prop) : (vx.call 7 [su_v rw st c1 m cu, .int .u8 nb, slV 5 k d] (retK R) (m7_v tb (huL m u) (u8L k bs)) ([(21, .split ((7, .con (C11t tb)) :: []) ((4, .con (C20v rw st c1 m cu (huL m u) true)) :: (11, .conN (C21v rw st c1 m cu (huL m u) ((IntKind.i64.wrap nb).tmod 6) (ints m L) left)) :: (15, .val (.bool false)) :: (6, .con (C26v rw st c1 m cu (huL m u) (ints m L) ((IntKind.i64.wrap nb).tmod 6) m m left true)) :: (10, .val (.bool false)) :: (7, .loopW T7a_v (.exit 0) T7b_v fun _ => h7b_v rw st ((IntKind.i64.wrap nb).tmod 6) c1 m cu k d tb (huL m u) (u8L k bs) (ints m L) (ints m Q) (left : Int) m) :: (2, .con (C26v rw st c1 m cu (huL m u) (ints m Q) ((IntKind.i64.wrap nb).tmod 6) m m o true)) :: (11, .con (C27 o)) :: (2, .con (C27 left)) :: (0, .val (.bool false)) :: (3, .con (C27 o)) :: (2, .con (C27 left)) :: (0, .val (.bool true)) :: (3, .val (.bool false)) :: (6, .loopW T7c (.exit 2) T7c fun _ => h7c m tb (ints m L) (ints m Q) (left : Int) (o : Int) m) :: (0, .con (C11t tb)) :: []))])) =
((((farB m 0 0) = true → (CA 11 (C11t tb) ⟨⟨[], []⟩, [tb]⟩ <|
R (.ret (.bool true)))) ∧
((farB m 0 0) = false → (CA 20 (C20v rw st c1 m cu (huL m u) true) ⟨⟨[(I rw), (I st)], [⟨0, c1⟩, ⟨m, cu⟩]⟩, [(huL m u)]⟩ <|
(CN 21 (C21v rw st c1 m cu (huL m u) ((IntKind.i64.wrap nb).tmod 6) (ints m L) left) ⟨⟨[(I rw), (I st), (I ((IntKind.i64.wrap nb).tmod 6))], [⟨0, c1⟩, ⟨m, cu⟩]⟩, [(huL m u)]⟩ <|
((OT ((m : Int) != m) false) ∧
(CA 26 (C26v rw st c1 m cu (huL m u) (ints m L) ((IntKind.i64.wrap nb).tmod 6) m m left true) ⟨⟨[(I rw), (I st), (I ((IntKind.i64.wrap nb).tmod 6))], [⟨m, m⟩, ⟨0, c1⟩, ⟨m, cu⟩]⟩, [(huL m u), (ints m L)]⟩ <|
((OT ((left : Int) != left) false) ∧
(LW p7b T7a_v ⟨⟨[(I left), (I m), (I 0), (I rw), (I st), (I ((IntKind.i64.wrap nb).tmod 6))], [⟨k, d⟩, ⟨m, m⟩, ⟨0, c1⟩, ⟨m, cu⟩]⟩, [tb, (huL m u), (u8L k bs), (ints m L)], []⟩ (.exit 0) T7b_v ⟨⟨[(I left), (I m), (I m), (I rw), (I st), (I ((IntKind.i64.wrap nb).tmod 6))], [⟨k, d⟩, ⟨m, m⟩, ⟨m, m⟩, ⟨0, c1⟩, ⟨m, cu⟩]⟩, [tb, (huL m u), (u8L k bs), (ints m L), (ints m Q)], []⟩ <|
(CA 26 (C26v rw st c1 m cu (huL m u) (ints m Q) ((IntKind.i64.wrap nb).tmod 6) m m o true) ⟨⟨[(I rw), (I st), (I ((IntKind.i64.wrap nb).tmod 6))], [⟨m, m⟩, ⟨0, c1⟩, ⟨m, cu⟩]⟩, [(huL m u), (ints m Q)]⟩ <|
(CA 27 (C27 o) ⟨⟨[(I o)], []⟩, []⟩ <|
(CA 27 (C27 left) ⟨⟨[(I left)], []⟩, []⟩ <|
((OT (decide ((↑(popN o) : Int) < (↑(popN left) : Int))) false) ∧
(CA 27 (C27 o) ⟨⟨[(I o)], []⟩, []⟩ <|
(CA 27 (C27 left) ⟨⟨[(I left)], []⟩, []⟩ <|
((OT ((↑(popN o) : Int) == (↑(popN left) : Int)) true) ∧
((OT (decide ((o : Int) < left)) false) ∧
(LW p7c T7c ⟨⟨[(I left), (I o), (I m), (I 0)], [⟨m, m⟩, ⟨m, m⟩]⟩, [tb, (ints m L), (ints m Q)], []⟩ (.exit 2) T7c ⟨⟨[(I left), (I o), (I m), (I m)], [⟨m, m⟩, ⟨m, m⟩]⟩, [tb, (ints m L), (ints m Q)], []⟩ <|
(CA 11 (C11t tb) ⟨⟨[], []⟩, [tb]⟩ <|
R (.ret (.bool true))))))))))))))))))))) := by kernel_rfl
theorem f70vn (rw st nb : Int) (c1 m cu _ _ left _ : Nat) (u : Nat → Hut) (L Q _ : Nat → Int) (tb : List Value) (R : ARes → Prop) : (vx.call 7 [su_v rw st c1 m cu, .int .u8 nb, nilS] (retK R) (mLH tb (huL m u)) ([(21, .split ((7, .con (C11t tb)) :: []) ((4, .con (C20v rw st c1 m cu (huL m u) true)) :: (11, .conN (C21v rw st c1 m cu (huL m u) ((IntKind.i64.wrap nb).tmod 6) (ints m L) left)) :: (15, .val (.bool false)) :: (6, .con (C26v rw st c1 m cu (huL m u) (ints m L) ((IntKind.i64.wrap nb).tmod 6) m m left true)) :: (10, .val (.bool false)) :: (7, .loopW T7a_vn (.exit 0) T7b_vn fun _ => h7b_vn rw st ((IntKind.i64.wrap nb).tmod 6) c1 m cu tb (huL m u) (ints m L) (ints m Q) (left : Int) m) :: (2, .con (C26v rw st c1 m cu (huL m u) (ints m Q) ((IntKind.i64.wrap nb).tmod 6) m m 0 false)) :: (8, .con (C11t tb)) :: []))])) =
((((farB m 0 0) = true → (CA 11 (C11t tb) ⟨⟨[], []⟩, [tb]⟩ <|
R (.ret (.bool true)))) ∧
((farB m 0 0) = false → (CA 20 (C20v rw st c1 m cu (huL m u) true) ⟨⟨[(I rw), (I st)], [⟨0, c1⟩, ⟨m, cu⟩]⟩, [(huL m u)]⟩ <|
(CN 21 (C21v rw st c1 m cu (huL m u) ((IntKind.i64.wrap nb).tmod 6) (ints m L) left) ⟨⟨[(I rw), (I st), (I ((IntKind.i64.wrap nb).tmod 6))], [⟨0, c1⟩, ⟨m, cu⟩]⟩, [(huL m u)]⟩ <|
((OT ((m : Int) != m) false) ∧
(CA 26 (C26v rw st c1 m cu (huL m u) (ints m L) ((IntKind.i64.wrap nb).tmod 6) m m left true) ⟨⟨[(I rw), (I st), (I ((IntKind.i64.wrap nb).tmod 6))], [⟨m, m⟩, ⟨0, c1⟩, ⟨m, cu⟩]⟩, [(huL m u), (ints m L)]⟩ <|
((OT ((left : Int) != left) false) ∧
(LW p7b T7a_vn ⟨⟨[(I left), (I m), (I 0), (I rw), (I st), (I ((IntKind.i64.wrap nb).tmod 6))], [⟨m, m⟩, ⟨0, c1⟩, ⟨m, cu⟩]⟩, [tb, (huL m u), (ints m L)], []⟩ (.exit 0) T7b_vn ⟨⟨[(I left), (I m), (I m), (I rw), (I st), (I ((IntKind.i64.wrap nb).tmod 6))], [⟨m, m⟩, ⟨m, m⟩, ⟨0, c1⟩, ⟨m, cu⟩]⟩, [tb, (huL m u), (ints m L), (ints m Q)], []⟩ <|
(CA 26 (C26v rw st c1 m cu (huL m u) (ints m Q) ((IntKind.i64.wrap nb).tmod 6) m m 0 false) ⟨⟨[(I rw), (I st), (I ((IntKind.i64.wrap nb).tmod 6))], [⟨m, m⟩, ⟨0, c1⟩, ⟨m, cu⟩]⟩, [(huL m u), (ints m Q)]⟩ <|
(CA 11 (C11t tb) ⟨⟨[], []⟩, [tb]⟩ <|
R (.ret (.bool true))))))))))))) := by kernel_rfl
theorem f7xvn (rw st nb : Int) (c1 m cu _ _ left o : Nat) (u : Nat → Hut) (L Q _ : Nat → Int) (tb : List Value) (R : ARes → Prop) : (vx.call 7 [su_v rw st c1 m cu, .int .u8 nb, nilS] (retK R) (mLH tb (huL m u)) ([(21, .split ((7, .con (C11t tb)) :: []) ((4, .con (C20v rw st c1 m cu (huL m u) true)) :: (11, .conN (C21v rw st c1 m cu (huL m u) ((IntKind.i64.wrap nb).tmod 6) (ints m L) left)) :: (15, .val (.bool false)) :: (6, .con (C26v rw st c1 m cu (huL m u) (ints m L) ((IntKind.i64.wrap nb).tmod 6) m m left true)) :: (10, .val (.bool false)) :: (7, .loopW T7a_vn (.exit 0) T7b_vn fun _ => h7b_vn rw st ((IntKind.i64.wrap nb).tmod 6) c1 m cu tb (huL m u) (ints m L) (ints m Q) (left : Int) m) :: (2, .con (C26v rw st c1 m cu (huL m u) (ints m Q) ((IntKind.i64.wrap nb).tmod 6) m m o true)) :: (11, .con (C27 o)) :: (2, .con (C27 left)) :: (0, .val (.bool false)) :: (3, .con (C27 o)) :: (2, .con (C27 left)) :: (0, .val (.bool true)) :: (3, .val (.bool false)) :: (6, .loopW T7c (.exit 2) T7c fun _ => h7c m tb (ints m L) (ints m Q) (left : Int) (o : Int) m) :: (0, .con (C11t tb)) :: []))])) =
((((farB m 0 0) = true → (CA 11 (C11t tb) ⟨⟨[], []⟩, [tb]⟩ <|
R (.ret (.bool true)))) ∧
((farB m 0 0) = false → (CA 20 (C20v rw st c1 m cu (huL m u) true) ⟨⟨[(I rw), (I st)], [⟨0, c1⟩, ⟨m, cu⟩]⟩, [(huL m u)]⟩ <|
(CN 21 (C21v rw st c1 m cu (huL m u) ((IntKind.i64.wrap nb).tmod 6) (ints m L) left) ⟨⟨[(I rw), (I st), (I ((IntKind.i64.wrap nb).tmod 6))], [⟨0, c1⟩, ⟨m, cu⟩]⟩, [(huL m u)]⟩ <|
((OT ((m : Int) != m) false) ∧
(CA 26 (C26v rw st c1 m cu (huL m u) (ints m L) ((IntKind.i64.wrap nb).tmod 6) m m left true) ⟨⟨[(I rw), (I st), (I ((IntKind.i64.wrap nb).tmod 6))], [⟨m, m⟩, ⟨0, c1⟩, ⟨m, cu⟩]⟩, [(huL m u), (ints m L)]⟩ <|
((OT ((left : Int) != left) false) ∧
(LW p7b T7a_vn ⟨⟨[(I left), (I m), (I 0), (I rw), (I st), (I ((IntKind.i64.wrap nb).tmod 6))], [⟨m, m⟩, ⟨0, c1⟩, ⟨m, cu⟩]⟩, [tb, (huL m u), (ints m L)], []⟩ (.exit 0) T7b_vn ⟨⟨[(I left), (I m), (I m), (I rw), (I st), (I ((IntKind.i64.wrap nb).tmod 6))], [⟨m, m⟩, ⟨m, m⟩, ⟨0, c1⟩, ⟨m, cu⟩]⟩, [tb, (huL m u), (ints m L), (ints m Q)], []⟩ <|
(CA 26 (C26v rw st c1 m cu (huL m u) (ints m Q) ((IntKind.i64.wrap nb).tmod 6) m m o true) ⟨⟨[(I rw), (I st), (I ((IntKind.i64.wrap nb).tmod 6))], [⟨m, m⟩, ⟨0, c1⟩, ⟨m, cu⟩]⟩, [(huL m u), (ints m Q)]⟩ <|
(CA 27 (C27 o) ⟨⟨[(I o)], []⟩, []⟩ <|
(CA 27 (C27 left) ⟨⟨[(I left)], []⟩, []⟩ <|
((OT (decide ((↑(popN o) : Int) < (↑(popN left) : Int))) false) ∧
(CA 27 (C27 o) ⟨⟨[(I o)], []⟩, []⟩ <|
(CA 27 (C27 left) ⟨⟨[(I left)], []⟩, []⟩ <|
((OT ((↑(popN o) : Int) == (↑(popN left) : Int)) true) ∧
((OT (decide ((o : Int) < left)) false) ∧
(LW p7c T7c ⟨⟨[(I left), (I o), (I m), (I 0)], [⟨m, m⟩, ⟨m, m⟩]⟩, [tb, (ints m L), (ints m Q)], []⟩ (.exit 2) T7c ⟨⟨[(I left), (I o), (I m), (I m)], [⟨m, m⟩, ⟨m, m⟩]⟩, [tb, (ints m L), (ints m Q)], []⟩ <|
(CA 11 (C11t tb) ⟨⟨[], []⟩, [tb]⟩ <|
R (.ret (.bool true))))))))))))))))))))) := by kernel_rfl
section
variable {rw st : Int} {c1 m cu kc k d many j : Nat} {u : Nat → Hut} {L Q bs : Nat → Int} {mz a : Int}
noncomputable def s26v (rw st : Int) (c1 m cu kc many : Nat) (u : Nat → Hut) (L : Nat → Int) (i : Nat) : Hw := h26v rw st c1 m cu (huL m u) (ints m L) (many : Nat) m kc (outR (fun _ => 0) L i : Nat) (encI (mapR L i)) i
theorem cl26v {x : List Value} {y : List (Nat × Nat)} {M : List (Int × Int)} : ClW ⟨⟨x, y⟩, [huL m u, ints m L], [encI M]⟩ := by
 refine ⟨fun cs hc => ?_, fun e hc => ?_⟩
 · simp only [List.mem_cons, List.not_mem_nil, or_false] at hc
   rcases hc with rfl | rfl
   · exact huL_at _ _
   · exact ints_at _ _
 · simp only [List.mem_singleton] at hc
   subst hc
   exact encI_cl _
theorem loop26v (hrw : 1 ≤ rw ∧ rw ≤ 6) (hst : 0 ≤ st ∧ st ≤ 4) (hU : HUK rw m u) {T' : Tw}
    (hT' : [T26v, R26][(runX (ex26 (fun _ => 0) many L) (.exit 0, 0, s26v rw st c1 m cu kc many u L m) (m - 0) 0).2.1]? = some T') :
    LoopOW Tryd.prog none p26 T26v (s26v rw st c1 m cu kc many u L 0) (runX (ex26 (fun _ => 0) many L) (.exit 0, 0, s26v rw st c1 m cu kc many u L m) (m - 0) 0).1 T' (runX (ex26 (fun _ => 0) many L) (.exit 0, 0, s26v rw st c1 m cu kc many u L m) (m - 0) 0).2.2 := by
 have h5 := hU.m5
 refine loop_untilW (Ts := [T26v, R26]) (k := 9) (n := m) (e := .exit 0) (st := fun i => (0, s26v rw st c1 m cu kc many u L i)) (ex := ex26 (fun _ => 0) many L) rfl vx_sound ?_ (by rw [nglob]; omega) ⟨by simp, trivial⟩ (fun i _ => cl26v) (fun i o hi ho => ?_) (fun i hi R h1 h2 => ?_) (fun R hR => ?_) (Nat.zero_le _) rfl (Nat.le_of_ble_eq_true rfl) (by decide) hT'
 · intro T hT; simp only [List.mem_cons, List.not_mem_nil, or_false] at hT; rcases hT with rfl | rfl <;> rfl
 · unfold ex26 at ho
   split at ho
   · cases ho
   · cases ho; exact ⟨by simp, trivial, clr26 _ _⟩
 · have hw := wrS (i := i) (by omega)
   have hC := C16v_ok (st := st) (c1 := c1) (cu := cu) hrw hst hU hi
   have gl := ints_get L hi
   have i1 : ((0 : Int) ≤ (i : Int) ∧ (i : Int) < (m : Int)) ∧ ((.pointer (some ⟨7, 0 + i * 1, none⟩) : Value) = .pointer (some ⟨7, 0 + i * 1, none⟩)) := ⟨⟨by omega, by omega⟩, rfl⟩
   have bad : okR (fun _ => 0) many L i = false → R 1 .ret (r26 0 false) := fun h => h2 (.ret, 1, r26 0 false) (by unfold ex26; rw [h]; rfl)
   have good : okR (fun _ => 0) many L i = true → R 0 .normal (s26v rw st c1 m cu kc many u L (i + 1)) := fun h => h1 (by unfold ex26; rw [if_pos h])
   show ∃ (T : Tw) (hs : HS), _ ∧ vx.code none (.l p26) (leafW [T26v, R26] R) (T.inst (s26v rw st c1 m cu kc many u L i)) hs
   have ho : outR (fun _ => 0) L (i + 1) = outR (fun _ => 0) L i := by rw [outR_zero, outR_zero]
   unfold s26v h26v at good
   rw [ho, ← hw] at good
   by_cases hl : L i < 0
   · have hm : mapR L (i + 1) = mapR L i := by simp only [mapR, if_pos hl]
     rw [hm] at good
     have b1 : (L i != (-1 : Int)) = true → okR (fun _ => 0) many L i = false := fun h => by
      unfold okR
      rw [if_pos hl]
      exact decide_eq_false fun e => by rw [e] at h; exact absurd h (by simp)
     have b2 : (L i != (-1 : Int)) = false → okR (fun _ => 0) many L i = true := fun h => by
      unfold okR
      rw [if_pos hl]
      exact decide_eq_true (by simpa using h)
     exact ⟨T26v, _, rfl, (b26nv rw st many c1 m cu kc u L (outR (fun _ => 0) L i : Nat) (encI (mapR L i)) i R).mpr ⟨tt (decide_eq_true (by omega)), i1, gl, hC, rfl, tt (decide_eq_true hl), fun h => bad (b1 h), fun h => good (b2 h)⟩⟩
   · obtain ⟨k1, k2, _⟩ := cnt_look hl (show i < 6 by omega)
     exact ⟨T26v, _, rfl, (b26pv rw st many c1 m cu kc u L (outR (fun _ => 0) L i : Nat) (encI (mapR L i)) i (cntL L i (L i).toNat) 0 (encI (mapR L (i + 1))) R).mpr ⟨tt (decide_eq_true (by omega)), i1, gl, hC, rfl, tf (decide_eq_false hl), k1, k2, bad (by unfold okR; rw [if_neg hl]; rfl)⟩⟩
 · exact ⟨T26v, _, rfl, (b26xv rw st many c1 m cu kc u L (outR (fun _ => 0) L m : Nat) (encI (mapR L m)) m R).mpr ⟨tf (decide_eq_false (by omega)), hR⟩⟩
theorem C26v_ok (hrw : 1 ≤ rw ∧ rw ≤ 6) (hst : 0 ≤ st ∧ st ≤ 4) (hU : HUK rw m u) :
    ConOK Tryd.prog 26 (C26v rw st c1 m cu (huL m u) (ints m L) (many : Nat) m kc (if okA (fun _ => 0) many L m = true then ((outR (fun _ => 0) L m : Nat) : Int) else 0) (okA (fun _ => 0) many L m)) := by
 have hl := fun T' => loop26v (T' := T') (c1 := c1) (cu := cu) (kc := kc) (many := many) (L := L) hrw hst hU
 refine con_of vx_sound ⟨⟨[I rw, I st, I (many : Nat)], [(m, kc), (0, c1), (m, cu)]⟩, [huL m u, ints m L]⟩ (fun y hy => ?_) rfl (fun y _ => rfl) (fun y hy => ?_) rfl (Nat.le_of_ble_eq_true rfl) (by rw [nglob]; exact Nat.le_of_ble_eq_true rfl)
 · cases hy
   cases hok : okA (fun _ => 0) many L m with
   | true =>
    rw [run26_ok hok] at hl
    exact ⟨_, (f26tv rw st many c1 m cu kc u L (outR (fun _ => 0) L m : Nat) (encI (mapR L m)) _).mpr ⟨cl26v (M := []), hl T26v rfl, rfl⟩⟩
   | false =>
    rw [run26_no hok] at hl
    exact ⟨_, (f26fv rw st many c1 m cu kc u L _).mpr ⟨cl26v (M := []), hl R26 rfl, rfl⟩⟩
 · cases hy
   intro cs hc
   simp only [List.mem_cons, List.not_mem_nil, or_false] at hc
   rcases hc with rfl | rfl
   · exact huL_at _ _
   · exact ints_at _ _
theorem cl7a_v {x : List Value} {y : List (Nat × Nat)} : ClW ⟨⟨x, y⟩, [tabC, huL m u, u8L k bs, ints m L], []⟩ := by
 refine ⟨fun cs hc => ?_, fun e hc => (by cases hc)⟩
 simp only [List.mem_cons, List.not_mem_nil, or_false] at hc
 rcases hc with rfl | rfl | rfl | rfl
 · exact tabC_at
 · exact huL_at _ _
 · exact u8L_at _ _
 · exact ints_at _ _
theorem cl7b_v {x : List Value} {y : List (Nat × Nat)} {i : Nat} : ClW ⟨⟨x, y⟩, [tabC, huL m u, u8L k bs, ints m L, ints i Q], []⟩ := by
 refine ⟨fun cs hc => ?_, fun e hc => (by cases hc)⟩
 simp only [List.mem_cons, List.not_mem_nil, or_false] at hc
 rcases hc with rfl | rfl | rfl | rfl | rfl
 · exact tabC_at
 · exact huL_at _ _
 · exact u8L_at _ _
 · exact ints_at _ _
 · exact ints_at _ _
theorem cl7a_vn {x : List Value} {y : List (Nat × Nat)} : ClW ⟨⟨x, y⟩, [tabC, huL m u, ints m L], []⟩ := by
 refine ⟨fun cs hc => ?_, fun e hc => (by cases hc)⟩
 simp only [List.mem_cons, List.not_mem_nil, or_false] at hc
 rcases hc with rfl | rfl | rfl
 · exact tabC_at
 · exact huL_at _ _
 · exact ints_at _ _
theorem cl7b_vn {x : List Value} {y : List (Nat × Nat)} {i : Nat} : ClW ⟨⟨x, y⟩, [tabC, huL m u, ints m L, ints i Q], []⟩ := by
 refine ⟨fun cs hc => ?_, fun e hc => (by cases hc)⟩
 simp only [List.mem_cons, List.not_mem_nil, or_false] at hc
 rcases hc with rfl | rfl | rfl | rfl
 · exact tabC_at
 · exact huL_at _ _
 · exact ints_at _ _
 · exact ints_at _ _
noncomputable def st7_v (rw st mz : Int) (c1 m cu k d : Nat) (u : Nat → Hut) (L bs : Nat → Int) (a : Int) : Nat → Nat × Hw
 | 0 => (0, h7a_v rw st mz c1 m cu k d tabC (huL m u) (u8L k bs) (ints m L) a 0)
 | i + 1 => (1, h7b_v rw st mz c1 m cu k d tabC (huL m u) (u8L k bs) (ints m L) (ints (i + 1) (ow k bs)) a (i + 1))
noncomputable def st7_vn (rw st mz : Int) (c1 m cu : Nat) (u : Nat → Hut) (L : Nat → Int) (a : Int) : Nat → Nat × Hw
 | 0 => (0, h7a_vn rw st mz c1 m cu tabC (huL m u) (ints m L) a 0)
 | i + 1 => (1, h7b_vn rw st mz c1 m cu tabC (huL m u) (ints m L) (ints (i + 1) (ow 0 fun _ => 0)) a (i + 1))
theorem loop7b_v (h0 : 0 < m) (h5 : m ≤ 5) : LoopOW Tryd.prog none p7b T7a_v (h7a_v rw st mz c1 m cu k d tabC (huL m u) (u8L k bs) (ints m L) a 0) (.exit 0) T7b_v
    (h7b_v rw st mz c1 m cu k d tabC (huL m u) (u8L k bs) (ints m L) (ints m (ow k bs)) a m) := by
 have hst : st7_v rw st mz c1 m cu k d u L bs a m = (1, h7b_v rw st mz c1 m cu k d tabC (huL m u) (u8L k bs) (ints m L) (ints m (ow k bs)) a m) := by
  obtain ⟨j, rfl⟩ : ∃ j, m = j + 1 := ⟨m - 1, by omega⟩
  rfl
 have main := loop_forW (P := Tryd.prog) (ro := none) (p := p7b) (Ts := [T7a_v, T7b_v]) (k := 11) (n := m) (e := .exit 0) (st := st7_v rw st mz c1 m cu k d u L bs a) rfl vx_sound (by
  intro T hT
  simp only [List.mem_cons, List.not_mem_nil, or_false] at hT
  rcases hT with rfl | rfl <;> rfl) (by rw [nglob]; omega) ⟨by simp, trivial⟩ (fun i _ => by
   cases i with
   | zero => exact cl7a_v
   | succ i => exact cl7b_v) (fun i hi R hR => by
  have hw := wrS (i := i) (by omega)
  have sq : ints (i + 1) (ow k bs) = ints i (ow k bs) ++ [I (ow k bs i)] := flatC_succ
  by_cases hk : k = 0
  · subst hk
    have e0 : ow 0 bs i = -1 := if_pos rfl
    cases i with
    | zero =>
     refine ⟨T7a_v, _, rfl, (b7a_vz rw st mz c1 m cu 0 d u L (fun _ => 0) bs tabC a 0 0 R).mpr ?_⟩
     rw [hw, ← e0]
     exact ⟨tt (decide_eq_true (by omega)), hR⟩
    | succ i =>
     have hR : R 1 .normal (h7b_v rw st mz c1 m cu 0 d tabC (huL m u) (u8L 0 bs) (ints m L) (ints (i + 1 + 1) (ow 0 bs)) a (i + 1 + 1)) := hR
     rw [sq] at hR
     refine ⟨T7b_v, _, rfl, (b7b_vz rw st mz c1 m cu 0 d u L (ow 0 bs) bs tabC a (i + 1) 0 R).mpr ?_⟩
     rw [hw, take_ints, ← e0]
     exact ⟨tt (decide_eq_true (by omega)), grow7 (by omega), hR⟩
  · have hj : i % k < k := Nat.mod_lt _ (by omega)
    have e0 : ow k bs i = IntKind.i64.wrap ((IntKind.i64.wrap (bs (i % k))).tmod 9 - 1) := if_neg hk
    have r1 : (((k : Nat) : Int) ≠ 0 ∧ IntKind.i64 = IntKind.i64) := ⟨by omega, rfl⟩
    have gb := u8L_get bs hj
    cases i with
    | zero =>
     refine ⟨T7a_v, _, rfl, (b7a_v rw st mz c1 m cu k d u L (fun _ => 0) bs tabC a 0 (0 % k) R).mpr ?_⟩
     rw [hw, ← e0]
     exact ⟨tt (decide_eq_true (by omega)), tt (decide_eq_true (by omega)), ⟨r1, rfl⟩, ⟨⟨by omega, by omega⟩, rfl⟩, gb, hR⟩
    | succ i =>
     have hR : R 1 .normal (h7b_v rw st mz c1 m cu k d tabC (huL m u) (u8L k bs) (ints m L) (ints (i + 1 + 1) (ow k bs)) a (i + 1 + 1)) := hR
     rw [sq] at hR
     refine ⟨T7b_v, _, rfl, (b7b_v rw st mz c1 m cu k d u L (ow k bs) bs tabC a (i + 1) ((i + 1) % k) R).mpr ?_⟩
     rw [hw, take_ints, ← e0]
     exact ⟨tt (decide_eq_true (by omega)), tt (decide_eq_true (by omega)), ⟨r1, rfl⟩, ⟨⟨by omega, by omega⟩, rfl⟩, gb, grow7 (by omega), hR⟩) (fun R hR => by
  rw [hst] at hR ⊢
  exact ⟨T7b_v, _, rfl, (b7x_v rw st mz c1 m cu k d u L (ow k bs) bs tabC a m 0 R).mpr ⟨tf (decide_eq_false (by omega)), hR⟩⟩) (T0 := T7a_v) (T1 := T7b_v) rfl (Nat.le_of_ble_eq_true rfl) (by decide) (by rw [hst]; rfl)
 rw [hst] at main
 exact main
theorem loop7b_vn (h0 : 0 < m) (h5 : m ≤ 5) : LoopOW Tryd.prog none p7b T7a_vn (h7a_vn rw st mz c1 m cu tabC (huL m u) (ints m L) a 0) (.exit 0) T7b_vn
    (h7b_vn rw st mz c1 m cu tabC (huL m u) (ints m L) (ints m (ow 0 fun _ => 0)) a m) := by
 have hst : st7_vn rw st mz c1 m cu u L a m = (1, h7b_vn rw st mz c1 m cu tabC (huL m u) (ints m L) (ints m (ow 0 fun _ => 0)) a m) := by
  obtain ⟨j, rfl⟩ : ∃ j, m = j + 1 := ⟨m - 1, by omega⟩
  rfl
 have main := loop_forW (P := Tryd.prog) (ro := none) (p := p7b) (Ts := [T7a_vn, T7b_vn]) (k := 11) (n := m) (e := .exit 0) (st := st7_vn rw st mz c1 m cu u L a) rfl vx_sound (by
  intro T hT
  simp only [List.mem_cons, List.not_mem_nil, or_false] at hT
  rcases hT with rfl | rfl <;> rfl) (by rw [nglob]; omega) ⟨by simp, trivial⟩ (fun i _ => by
   cases i with
   | zero => exact cl7a_vn
   | succ i => exact cl7b_vn) (fun i hi R hR => by
  have hw := wrS (i := i) (by omega)
  have sq : ints (i + 1) (ow 0 fun _ => 0) = ints i (ow 0 fun _ => 0) ++ [I (ow 0 (fun _ => 0) i)] := flatC_succ
  have e0 : ow 0 (fun _ => 0) i = -1 := if_pos rfl
  cases i with
  | zero =>
   refine ⟨T7a_vn, _, rfl, (b7a_vn rw st mz c1 m cu 0 0 u L (fun _ => 0) (fun _ => 0) tabC a 0 0 R).mpr ?_⟩
   rw [hw, ← e0]
   exact ⟨tt (decide_eq_true (by omega)), hR⟩
  | succ i =>
   have hR : R 1 .normal (h7b_vn rw st mz c1 m cu tabC (huL m u) (ints m L) (ints (i + 1 + 1) (ow 0 fun _ => 0)) a (i + 1 + 1)) := hR
   rw [sq] at hR
   refine ⟨T7b_vn, _, rfl, (b7b_vn rw st mz c1 m cu 0 0 u L (ow 0 fun _ => 0) (fun _ => 0) tabC a (i + 1) 0 R).mpr ?_⟩
   rw [hw, take_ints, ← e0]
   exact ⟨tt (decide_eq_true (by omega)), grow7 (by omega), hR⟩) (fun R hR => by
  rw [hst] at hR ⊢
  exact ⟨T7b_vn, _, rfl, (b7x_vn rw st mz c1 m cu 0 0 u L (ow 0 fun _ => 0) (fun _ => 0) tabC a m 0 R).mpr ⟨tf (decide_eq_false (by omega)), hR⟩⟩) (T0 := T7a_vn) (T1 := T7b_vn) rfl (Nat.le_of_ble_eq_true rfl) (by decide) (by rw [hst]; rfl)
 rw [hst] at main
 exact main
theorem law7v_p (hrw : 1 ≤ rw ∧ rw ≤ 6) (hst : 0 ≤ st ∧ st ≤ 4) (hU : HUK rw m u) (hm : 0 < m) (hj : j < 256) (c20 : ConOK Tryd.prog 20 (C20v rw st c1 m cu (huL m u) true)) :
    ∃ hs, vx.call 7 [su_v rw st c1 m cu, .int .u8 j, slV 5 k d] (retK fun r => r = .ret (.bool true)) (m7_v tabC (huL m u) (u8L k bs)) hs := by
 have h5 := hU.m5
 have hmz := mz_eq hj
 have hmany : j % 6 ≤ 5 := by have := Nat.mod_lt j (show 0 < 6 by omega); omega
 generalize j % 6 = many at hmz hmany
 obtain ⟨hokL, houtL⟩ := best_right (fun _ => 0) many m
 have hq0 : bestQ (fun _ => 0) many m = 0 := bestQ_no (savF_zero m)
 have c21 := C21v_ok (c1 := c1) (cu := cu) hrw hst hU hmany
 rw [hq0] at c21 houtL
 have c26 := C26v_ok (c1 := c1) (cu := cu) (kc := m) (many := many) (L := bestL (fun _ => 0) many m) hrw hst hU
 rw [hokL, if_pos rfl, houtL] at c26
 have c26q := C26v_ok (c1 := c1) (cu := cu) (kc := m) (many := many) (L := (ow k bs)) hrw hst hU
 have lb := loop7b_v (rw := rw) (st := st) (mz := (many : Nat)) (c1 := c1) (cu := cu) (k := k) (d := d) (u := u) (L := bestL (fun _ => 0) many m) (bs := bs) (a := ((0 : Nat) : Int)) hm h5
 have mm : ((m : Int) != (m : Int)) = false := by simp
 cases hok : okA (fun _ => 0) many (ow k bs) m with
 | false =>
  rw [hok, if_neg (by simp)] at c26q
  refine ⟨_, (f70vp rw st j c1 m cu k d 0 0 u (bestL (fun _ => 0) many m) (ow k bs) bs tabC _).mpr ?_⟩
  rw [hmz]
  exact ⟨fun _ => ⟨C11t_ok, rfl, rfl⟩, fun _ => ⟨c20, rfl, c21, rfl, tf mm, c26, rfl, tf rfl, cl7a_v, lb, c26q, rfl, C11t_ok, rfl, rfl⟩⟩
 | true =>
  rw [hok, if_pos rfl, outR_zero] at c26q
  have lc := loop7cx (m := m) (L := bestL (fun _ => 0) many m) (Q := (ow k bs)) (p := 0) (q := 0) h5 fun _ i hi => by rw [okA_zero hokL i hi, okA_zero hok i hi]
  have c27 := C27_ok (s := 0) (by omega)
  refine ⟨_, (f7xvp rw st j c1 m cu k d 0 0 u (bestL (fun _ => 0) many m) (ow k bs) bs tabC _).mpr ?_⟩
  rw [hmz]
  exact ⟨fun _ => ⟨C11t_ok, rfl, rfl⟩, fun _ => ⟨c20, rfl, c21, rfl, tf mm, c26, rfl, tf rfl, cl7a_v, lb, c26q, rfl, c27, rfl, c27, rfl, tf (decide_eq_false (by omega)), c27, rfl, c27, rfl, tt (by simp), tf (decide_eq_false (by omega)), cl7c, lc, C11t_ok, rfl, rfl⟩⟩
theorem law7v_n (hrw : 1 ≤ rw ∧ rw ≤ 6) (hst : 0 ≤ st ∧ st ≤ 4) (hU : HUK rw m u) (hm : 0 < m) (hj : j < 256) (c20 : ConOK Tryd.prog 20 (C20v rw st c1 m cu (huL m u) true)) :
    ∃ hs, vx.call 7 [su_v rw st c1 m cu, .int .u8 j, nilS] (retK fun r => r = .ret (.bool true)) (mLH tabC (huL m u)) hs := by
 have h5 := hU.m5
 have hmz := mz_eq hj
 have hmany : j % 6 ≤ 5 := by have := Nat.mod_lt j (show 0 < 6 by omega); omega
 generalize j % 6 = many at hmz hmany
 obtain ⟨hokL, houtL⟩ := best_right (fun _ => 0) many m
 have hq0 : bestQ (fun _ => 0) many m = 0 := bestQ_no (savF_zero m)
 have c21 := C21v_ok (c1 := c1) (cu := cu) hrw hst hU hmany
 rw [hq0] at c21 houtL
 have c26 := C26v_ok (c1 := c1) (cu := cu) (kc := m) (many := many) (L := bestL (fun _ => 0) many m) hrw hst hU
 rw [hokL, if_pos rfl, houtL] at c26
 have c26q := C26v_ok (c1 := c1) (cu := cu) (kc := m) (many := many) (L := (ow 0 fun _ => 0)) hrw hst hU
 have lb := loop7b_vn (rw := rw) (st := st) (mz := (many : Nat)) (c1 := c1) (cu := cu) (u := u) (L := bestL (fun _ => 0) many m) (a := ((0 : Nat) : Int)) hm h5
 have mm : ((m : Int) != (m : Int)) = false := by simp
 cases hok : okA (fun _ => 0) many (ow 0 fun _ => 0) m with
 | false =>
  rw [hok, if_neg (by simp)] at c26q
  refine ⟨_, (f70vn rw st j c1 m cu 0 0 0 0 u (bestL (fun _ => 0) many m) (ow 0 fun _ => 0) (fun _ => 0) tabC _).mpr ?_⟩
  rw [hmz]
  exact ⟨fun _ => ⟨C11t_ok, rfl, rfl⟩, fun _ => ⟨c20, rfl, c21, rfl, tf mm, c26, rfl, tf rfl, cl7a_vn, lb, c26q, rfl, C11t_ok, rfl, rfl⟩⟩
 | true =>
  rw [hok, if_pos rfl, outR_zero] at c26q
  have lc := loop7cx (m := m) (L := bestL (fun _ => 0) many m) (Q := (ow 0 fun _ => 0)) (p := 0) (q := 0) h5 fun _ i hi => by rw [okA_zero hokL i hi, okA_zero hok i hi]
  have c27 := C27_ok (s := 0) (by omega)
  refine ⟨_, (f7xvn rw st j c1 m cu 0 0 0 0 u (bestL (fun _ => 0) many m) (ow 0 fun _ => 0) (fun _ => 0) tabC _).mpr ?_⟩
  rw [hmz]
  exact ⟨fun _ => ⟨C11t_ok, rfl, rfl⟩, fun _ => ⟨c20, rfl, c21, rfl, tf mm, c26, rfl, tf rfl, cl7a_vn, lb, c26q, rfl, c27, rfl, c27, rfl, tf (decide_eq_false (by omega)), c27, rfl, c27, rfl, tt (by simp), tf (decide_eq_false (by omega)), cl7c, lc, C11t_ok, rfl, rfl⟩⟩
end
end Go.Ab
