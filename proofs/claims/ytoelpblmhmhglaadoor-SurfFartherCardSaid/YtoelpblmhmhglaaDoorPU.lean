/- package surf: SurfFarther's loops, of all surfs. -/
import Derived.Test.YtoelpblmhmhglaaDoorPL
import Derived.Test.YtoelpblmhmhglaaDoorPS
import Derived.Test.YtoelpblmhmhglaaDoorPT
set_option maxRecDepth 100000
namespace Go.Ab
open Go Go.RowKit Go.Proofs
theorem b30 (n c d i : Nat) (o : Nat → Int) (R : Nat → AExit → Hw → Prop) : (vx.code none (.l p30) (leafW [T30] R) (T30.inst (h30 n c d o i)) ([(3, .split ((3, .val (.pointer (some ⟨2, 0 + i * 1, none⟩))) :: (0, .val (I (o i))) :: (2, .val (.pointer (some ⟨3, 0 + i * 1, none⟩))) :: (0, .val (I (o i))) :: [(0, .split ([(2, .tm 0 [])]) ([(4, .tm 0 [])]))]) ([(1, .tm 0 [])]))])) =
(((decide ((i : Int) < n)) = true → (((((0 : Int) ≤ i) ∧ ((i : Int) < n)) ∧ (VR (.pointer (some ⟨2, 0 + i * 1, none⟩)))) ∧
(((ints n o)[0 + i * 1]? = some (I (o i))) ∧
(((((0 : Int) ≤ i) ∧ ((i : Int) < n)) ∧ (VR (.pointer (some ⟨3, 0 + i * 1, none⟩)))) ∧
(((ints n o)[0 + i * 1]? = some (I (o i))) ∧
(((o i != o i) = true → R (0 : Nat) .ret ⟨⟨[I i], [⟨n, c⟩, ⟨n, d⟩]⟩, [ints n o, ints n o], []⟩) ∧
((o i != o i) = false → R (0 : Nat) .normal ⟨⟨[I (IntKind.i64.wrap ((i : Int) + (1 : Int)))], [⟨n, c⟩, ⟨n, d⟩]⟩, [ints n o, ints n o], []⟩))))))) ∧
((decide ((i : Int) < n)) = false → R (0 : Nat) (.exit 0) ⟨⟨[I i], [⟨n, c⟩, ⟨n, d⟩]⟩, [ints n o, ints n o], []⟩)) := by kernel_rfl
theorem f30 (n c d : Nat) (o : Nat → Int) (R : ARes → Prop) : (vx.call 30 [slV 2 n c, slV 3 n d] (retK R) (mL2 (ints n o) (ints n o)) ([(6, .split ([]) ((2, .loopW T30 (.exit 0) T30 fun _ => h30 n c d o n) :: []))])) =
((((n : Int) != n) = true → R (.ret (.bool false))) ∧
(((n : Int) != n) = false → (LW p30 T30 ⟨⟨[I 0], [⟨n, c⟩, ⟨n, d⟩]⟩, [ints n o, ints n o], []⟩ (.exit 0) T30 (h30 n c d o n) <|
R (.ret (.bool true))))) := by kernel_rfl
theorem b9c (rw st mz : Int) (n cw cv m cu i : Nat) (w v : Nat → Sp) (u : Nat → Hut) (L L2 K : Nat → Int) (tb : List Value) (R : Nat → AExit → Hw → Prop) : (vx.code none (.l p9c) (leafW [T9c] R) (T9c.inst (h9c rw st mz n cw cv m cu tb (spL n w) (spL n v) (huL m u) (ints m L) (ints m K) i)) ((0, .val (.bool true)) :: (5, .val (.pointer (some ⟨14, 0 + i * 1, none⟩))) :: (0, .put (ints m L2)) :: [(2, .tm 0 [])])) =
((OT (decide ((i : Int) < m)) true) ∧
(((((0 : Int) ≤ i) ∧ ((i : Int) < m)) ∧ (VR (.pointer (some ⟨14, 0 + i * 1, none⟩)))) ∧
(((0 + i * 1 + 1 ≤ (ints m L).length) ∧ (List.take ((0 : Nat) + i * (1 : Nat)) (ints m L) ++ [Value.int .i64 (-9 : Int)] ++ List.drop ((0 : Nat) + i * (1 : Nat) + (1 : Nat)) (ints m L) = ints m L2)) ∧
R (0 : Nat) .normal ⟨⟨[I mz, I m, I (IntKind.i64.wrap ((i : Int) + (1 : Int))), I rw, I st], [⟨n, n⟩, ⟨m, m⟩, ⟨m, m⟩, ⟨m, m⟩, ⟨n, cw⟩, ⟨n, cv⟩, ⟨m, cu⟩]⟩, [tb, spL n w, spL n v, huL m u, spL n w, huL m u, ints m L2, ints m K], []⟩))) := by kernel_rfl
theorem b9cx (rw st mz : Int) (n cw cv m cu i : Nat) (w v : Nat → Sp) (u : Nat → Hut) (L _ K : Nat → Int) (tb : List Value) (R : Nat → AExit → Hw → Prop) : (vx.code none (.l p9c) (leafW [T9c] R) (T9c.inst (h9c rw st mz n cw cv m cu tb (spL n w) (spL n v) (huL m u) (ints m L) (ints m K) i)) ((0, .val (.bool false)) :: [(1, .tm 0 [])])) =
((OT (decide ((i : Int) < m)) false) ∧
R (0 : Nat) (.exit 4) ⟨⟨[I mz, I m, I i, I rw, I st], [⟨n, n⟩, ⟨m, m⟩, ⟨m, m⟩, ⟨m, m⟩, ⟨n, cw⟩, ⟨n, cv⟩, ⟨m, cu⟩]⟩, [tb, spL n w, spL n v, huL m u, spL n w, huL m u, ints m L, ints m K], []⟩) := by kernel_rfl
theorem b9d (rw st : Int) (n cw cv m cu i : Nat) (w v : Nat → Sp) (u : Nat → Hut) (tb : List Value) (R : Nat → AExit → Hw → Prop) : (vx.code none (.l p9d) (leafW [T9d] R) (T9d.inst (h9d rw st n cw cv m cu tb (spL n w) (spL n v) (huL m u) i)) ((0, .val (.bool true)) :: (5, .val (.pointer (some ⟨12, 0 + i * 2, none⟩))) :: (0, .val (.agg ⟨[I (w i).lo, I (w i).hi]⟩)) :: (3, .val (.pointer (some ⟨2, 0 + i * 2, none⟩))) :: (0, .val (.agg ⟨[I (w i).lo, I (w i).hi]⟩)) :: [(0, .split ([(2, .tm 0 [])]) ([(3, .tm 0 [])]))])) =
((OT (decide ((i : Int) < n)) true) ∧
(((((0 : Int) ≤ i) ∧ ((i : Int) < n)) ∧ (VR (.pointer (some ⟨12, 0 + i * 2, none⟩)))) ∧
(((0 + i * 2 + 2 ≤ (spL n w).length) ∧ (((.agg ⟨[I (w i).lo, I (w i).hi]⟩) : Value) = (.agg ⟨List.take 2 (List.drop (0 + i * 2) (spL n w))⟩))) ∧
(((((0 : Int) ≤ i) ∧ ((i : Int) < n)) ∧ (VR (.pointer (some ⟨2, 0 + i * 2, none⟩)))) ∧
(((0 + i * 2 + 2 ≤ (spL n w).length) ∧ (((.agg ⟨[I (w i).lo, I (w i).hi]⟩) : Value) = (.agg ⟨List.take 2 (List.drop (0 + i * 2) (spL n w))⟩))) ∧
(((!((w i).lo == (w i).lo && (fun c => (w i).hi == (w i).hi && c) true)) = true → R (0 : Nat) .ret ⟨⟨[I n, I i, I rw, I st], [⟨n, n⟩, ⟨m, m⟩, ⟨n, cw⟩, ⟨n, cv⟩, ⟨m, cu⟩]⟩, [tb, spL n w, spL n v, huL m u, spL n w, huL m u], []⟩) ∧
((!((w i).lo == (w i).lo && (fun c => (w i).hi == (w i).hi && c) true)) = false → R (0 : Nat) .normal ⟨⟨[I n, I (IntKind.i64.wrap ((i : Int) + (1 : Int))), I rw, I st], [⟨n, n⟩, ⟨m, m⟩, ⟨n, cw⟩, ⟨n, cv⟩, ⟨m, cu⟩]⟩, [tb, spL n w, spL n v, huL m u, spL n w, huL m u], []⟩))))))) := by kernel_rfl
theorem b9dx (rw st : Int) (n cw cv m cu i : Nat) (w v : Nat → Sp) (u : Nat → Hut) (tb : List Value) (R : Nat → AExit → Hw → Prop) : (vx.code none (.l p9d) (leafW [T9d] R) (T9d.inst (h9d rw st n cw cv m cu tb (spL n w) (spL n v) (huL m u) i)) ((0, .val (.bool false)) :: [(1, .tm 0 [])])) =
((OT (decide ((i : Int) < n)) false) ∧
R (0 : Nat) (.exit 6) ⟨⟨[I n, I i, I rw, I st], [⟨n, n⟩, ⟨m, m⟩, ⟨n, cw⟩, ⟨n, cv⟩, ⟨m, cu⟩]⟩, [tb, spL n w, spL n v, huL m u, spL n w, huL m u], []⟩) := by kernel_rfl
theorem b9e (rw st : Int) (n cw cv m cu i : Nat) (w v : Nat → Sp) (u : Nat → Hut) (tb : List Value) (R : Nat → AExit → Hw → Prop) : (vx.code none (.l p9e) (leafW [T9e] R) (T9e.inst (h9e rw st n cw cv m cu tb (spL n w) (spL n v) (huL m u) i)) ((0, .val (.bool true)) :: (5, .val (.pointer (some ⟨13, 0 + i * 3, none⟩))) :: (0, .val (.agg ⟨[I (u i).fl, I (u i).br, I (u i).row]⟩)) :: (3, .val (.pointer (some ⟨4, 0 + i * 3, none⟩))) :: (0, .val (.agg ⟨[I (u i).fl, I (u i).br, I (u i).row]⟩)) :: [(0, .split ([(2, .tm 0 [])]) ([(3, .tm 0 [])]))])) =
((OT (decide ((i : Int) < m)) true) ∧
(((((0 : Int) ≤ i) ∧ ((i : Int) < m)) ∧ (VR (.pointer (some ⟨13, 0 + i * 3, none⟩)))) ∧
((HR i m u) ∧
(((((0 : Int) ≤ i) ∧ ((i : Int) < m)) ∧ (VR (.pointer (some ⟨4, 0 + i * 3, none⟩)))) ∧
((HR i m u) ∧
(((!((u i).fl == (u i).fl && (fun c => (u i).br == (u i).br && c) ((fun c => (↑(u i).row : Int) == (↑(u i).row : Int) && c) true))) = true → R (0 : Nat) .ret ⟨⟨[I m, I i, I rw, I st], [⟨m, m⟩, ⟨n, cw⟩, ⟨n, cv⟩, ⟨m, cu⟩]⟩, [tb, spL n w, spL n v, huL m u, huL m u], []⟩) ∧
((!((u i).fl == (u i).fl && (fun c => (u i).br == (u i).br && c) ((fun c => (↑(u i).row : Int) == (↑(u i).row : Int) && c) true))) = false → R (0 : Nat) .normal ⟨⟨[I m, I (IntKind.i64.wrap ((i : Int) + (1 : Int))), I rw, I st], [⟨m, m⟩, ⟨n, cw⟩, ⟨n, cv⟩, ⟨m, cu⟩]⟩, [tb, spL n w, spL n v, huL m u, huL m u], []⟩))))))) := by kernel_rfl
theorem b9ex (rw st : Int) (n cw cv m cu i : Nat) (w v : Nat → Sp) (u : Nat → Hut) (tb : List Value) (R : Nat → AExit → Hw → Prop) : (vx.code none (.l p9e) (leafW [T9e] R) (T9e.inst (h9e rw st n cw cv m cu tb (spL n w) (spL n v) (huL m u) i)) ((0, .val (.bool false)) :: [(1, .tm 0 [])])) =
((OT (decide ((i : Int) < m)) false) ∧
R (0 : Nat) (.exit 8) ⟨⟨[I m, I i, I rw, I st], [⟨m, m⟩, ⟨n, cw⟩, ⟨n, cv⟩, ⟨m, cu⟩]⟩, [tb, spL n w, spL n v, huL m u, huL m u], []⟩) := by kernel_rfl
theorem b9bzy (rw st wh mz : Int) (cw cv m cu i : Nat) (a b c d : Int) (w v : Nat → Sp) (u x : Nat → Hut) (L _ _ : Nat → Int) (tb : List Value) (R : Nat → AExit → Hw → Prop) : (vx.code none (.l p9b) (leafW [T9bz] R) (T9bz.inst (h9bz rw st wh mz cw cv m cu tb (spL 0 w) (spL 0 v) (huL m u) (huL m x) (ints m L) i)) ((0, .val (.bool true)) :: (5, .con (CS1 rw st 0 cw cv m cu tb (spL 0 w) (spL 0 v) (huL m u) i (.tuple ⟨[I a, I b, I 0]⟩))) :: (12, .con (CS1 rw st 0 cw cv m m tb (spL 0 w) (spL 0 v) (huL m x) (jx m ↑i) (.tuple ⟨[I a, I b, I 0]⟩))) :: (9, .con (CS1 rw st 0 cw cv m cu tb (spL 0 w) (spL 0 v) (huL m u) i (.tuple ⟨[I c, I 0]⟩))) :: (10, .con (CS1 rw st 0 cw cv m m tb (spL 0 w) (spL 0 v) (huL m x) (jx m ↑i) (.tuple ⟨[I c, I 0]⟩))) :: (7, .con (CS1 rw st 0 cw cv m cu tb (spL 0 w) (spL 0 v) (huL m u) i (.tuple ⟨[I d, I 0]⟩))) :: (10, .con (CS1 rw st 0 cw cv m m tb (spL 0 w) (spL 0 v) (huL m x) (jx m ↑i) (.tuple ⟨[I d, I 0]⟩))) :: (7, .val (.bool false)) :: (3, .val (.bool false)) :: (9, .val (.bool false)) :: (9, .val (.bool false)) :: [(9, .tm 0 [])])) =
((OT (decide ((i : Int) < m)) true) ∧
(CA 14 (CS1 rw st 0 cw cv m cu tb (spL 0 w) (spL 0 v) (huL m u) i (.tuple ⟨[I a, I b, I 0]⟩)) ⟨⟨[I rw, I st, I i], [⟨(0 : Nat), cw⟩, ⟨(0 : Nat), cv⟩, ⟨m, cu⟩]⟩, [tb, [], [], huL m u]⟩ <|
(CA 14 (CS1 rw st 0 cw cv m m tb (spL 0 w) (spL 0 v) (huL m x) (jx m ↑i) (.tuple ⟨[I a, I b, I 0]⟩)) ⟨⟨[I rw, I st, I (jx m ↑i)], [⟨(0 : Nat), cw⟩, ⟨(0 : Nat), cv⟩, ⟨m, m⟩]⟩, [tb, [], [], huL m x]⟩ <|
(CA 23 (CS1 rw st 0 cw cv m cu tb (spL 0 w) (spL 0 v) (huL m u) i (.tuple ⟨[I c, I 0]⟩)) ⟨⟨[I rw, I st, I i], [⟨(0 : Nat), cw⟩, ⟨(0 : Nat), cv⟩, ⟨m, cu⟩]⟩, [tb, [], [], huL m u]⟩ <|
(CA 23 (CS1 rw st 0 cw cv m m tb (spL 0 w) (spL 0 v) (huL m x) (jx m ↑i) (.tuple ⟨[I c, I 0]⟩)) ⟨⟨[I rw, I st, I (jx m ↑i)], [⟨(0 : Nat), cw⟩, ⟨(0 : Nat), cv⟩, ⟨m, m⟩]⟩, [tb, [], [], huL m x]⟩ <|
(CA 24 (CS1 rw st 0 cw cv m cu tb (spL 0 w) (spL 0 v) (huL m u) i (.tuple ⟨[I d, I 0]⟩)) ⟨⟨[I rw, I st, I i], [⟨(0 : Nat), cw⟩, ⟨(0 : Nat), cv⟩, ⟨m, cu⟩]⟩, [tb, [], [], huL m u]⟩ <|
(CA 24 (CS1 rw st 0 cw cv m m tb (spL 0 w) (spL 0 v) (huL m x) (jx m ↑i) (.tuple ⟨[I d, I 0]⟩)) ⟨⟨[I rw, I st, I (jx m ↑i)], [⟨(0 : Nat), cw⟩, ⟨(0 : Nat), cv⟩, ⟨m, m⟩]⟩, [tb, [], [], huL m x]⟩ <|
((OT (a != a) false) ∧
((OT (b != b) false) ∧
((OT (c != c) false) ∧
((OT (d != d) false) ∧
R (0 : Nat) .normal ⟨⟨[.int IntKind.u8 wh, I m, I mz, I m, I (IntKind.i64.wrap ((i : Int) + (1 : Int))), I rw, I st, I rw, I st], [⟨(0 : Nat), (0 : Nat)⟩, ⟨m, m⟩, ⟨m, m⟩, ⟨(0 : Nat), cw⟩, ⟨(0 : Nat), cv⟩, ⟨m, cu⟩, ⟨(0 : Nat), cw⟩, ⟨(0 : Nat), cv⟩, ⟨m, m⟩]⟩, [tb, [], [], huL m u, huL m x, huL m u, ints m L], []⟩))))))))))) := by kernel_rfl
theorem b9bzx (rw st wh mz : Int) (cw cv m cu i : Nat) (_ _ _ _ : Int) (w v : Nat → Sp) (u x : Nat → Hut) (L _ _ : Nat → Int) (tb : List Value) (R : Nat → AExit → Hw → Prop) : (vx.code none (.l p9b) (leafW [T9bz] R) (T9bz.inst (h9bz rw st wh mz cw cv m cu tb (spL 0 w) (spL 0 v) (huL m u) (huL m x) (ints m L) i)) ((0, .val (.bool false)) :: [(1, .tm 0 [])])) =
((OT (decide ((i : Int) < m)) false) ∧
R (0 : Nat) (.exit 2) ⟨⟨[.int IntKind.u8 wh, I m, I mz, I m, I i, I rw, I st, I rw, I st], [⟨(0 : Nat), (0 : Nat)⟩, ⟨m, m⟩, ⟨m, m⟩, ⟨(0 : Nat), cw⟩, ⟨(0 : Nat), cv⟩, ⟨m, cu⟩, ⟨(0 : Nat), cw⟩, ⟨(0 : Nat), cv⟩, ⟨m, m⟩]⟩, [tb, [], [], huL m u, huL m x, huL m u, ints m L], []⟩) := by kernel_rfl
theorem b9czy (rw st _ mz : Int) (cw cv m cu i : Nat) (_ _ _ _ : Int) (w v : Nat → Sp) (u _ : Nat → Hut) (L L2 K : Nat → Int) (tb : List Value) (R : Nat → AExit → Hw → Prop) : (vx.code none (.l p9c) (leafW [T9cz] R) (T9cz.inst (h9cz rw st mz cw cv m cu tb (spL 0 w) (spL 0 v) (huL m u) (ints m L) (ints m K) i)) ((0, .val (.bool true)) :: (5, .val (.pointer (some ⟨13, 0 + i * 1, none⟩))) :: (0, .put (ints m L2)) :: [(2, .tm 0 [])])) =
((OT (decide ((i : Int) < m)) true) ∧
(((((0 : Int) ≤ i) ∧ ((i : Int) < m)) ∧ (VR (.pointer (some ⟨13, 0 + i * 1, none⟩)))) ∧
(((0 + i * 1 + 1 ≤ (ints m L).length) ∧ (List.take ((0 : Nat) + i * (1 : Nat)) (ints m L) ++ [Value.int .i64 (-9 : Int)] ++ List.drop ((0 : Nat) + i * (1 : Nat) + (1 : Nat)) (ints m L) = ints m L2)) ∧
R (0 : Nat) .normal ⟨⟨[I mz, I m, I (IntKind.i64.wrap ((i : Int) + (1 : Int))), I rw, I st], [⟨(0 : Nat), (0 : Nat)⟩, ⟨m, m⟩, ⟨m, m⟩, ⟨m, m⟩, ⟨(0 : Nat), cw⟩, ⟨(0 : Nat), cv⟩, ⟨m, cu⟩]⟩, [tb, [], [], huL m u, huL m u, ints m L2, ints m K], []⟩))) := by kernel_rfl
theorem b9czx (rw st _ mz : Int) (cw cv m cu i : Nat) (_ _ _ _ : Int) (w v : Nat → Sp) (u _ : Nat → Hut) (L _ K : Nat → Int) (tb : List Value) (R : Nat → AExit → Hw → Prop) : (vx.code none (.l p9c) (leafW [T9cz] R) (T9cz.inst (h9cz rw st mz cw cv m cu tb (spL 0 w) (spL 0 v) (huL m u) (ints m L) (ints m K) i)) ((0, .val (.bool false)) :: [(1, .tm 0 [])])) =
((OT (decide ((i : Int) < m)) false) ∧
R (0 : Nat) (.exit 4) ⟨⟨[I mz, I m, I i, I rw, I st], [⟨(0 : Nat), (0 : Nat)⟩, ⟨m, m⟩, ⟨m, m⟩, ⟨m, m⟩, ⟨(0 : Nat), cw⟩, ⟨(0 : Nat), cv⟩, ⟨m, cu⟩]⟩, [tb, [], [], huL m u, huL m u, ints m L, ints m K], []⟩) := by kernel_rfl
theorem b9ezy (rw st _ _ : Int) (cw cv m cu i : Nat) (_ _ c _ : Int) (w v : Nat → Sp) (u _ : Nat → Hut) (_ _ _ : Nat → Int) (tb : List Value) (R : Nat → AExit → Hw → Prop) : (vx.code none (.l p9e) (leafW [T9ez] R) (T9ez.inst (h9ez rw st cw cv m cu tb (spL 0 w) (spL 0 v) (huL m u) i)) ((0, .val (.bool true)) :: (5, .val (.pointer (some ⟨12, 0 + i * 3, none⟩))) :: (0, .val (.agg ⟨[I (u i).fl, I (u i).br, I (u i).row]⟩)) :: (3, .val (.pointer (some ⟨4, 0 + i * 3, none⟩))) :: (0, .val (.agg ⟨[I (u i).fl, I (u i).br, I (u i).row]⟩)) :: [(0, .split ([(2, .tm 0 [])]) ([(3, .tm 0 [])]))])) =
((OT (decide ((i : Int) < m)) true) ∧
(((((0 : Int) ≤ i) ∧ ((i : Int) < m)) ∧ (VR (.pointer (some ⟨12, 0 + i * 3, none⟩)))) ∧
((HR i m u) ∧
(((((0 : Int) ≤ i) ∧ ((i : Int) < m)) ∧ (VR (.pointer (some ⟨4, 0 + i * 3, none⟩)))) ∧
((HR i m u) ∧
(((!((u i).fl == (u i).fl && (fun c => (u i).br == (u i).br && c) ((fun c => (↑(u i).row : Int) == (↑(u i).row : Int) && c) true))) = true → R (0 : Nat) .ret ⟨⟨[I m, I i, I rw, I st], [⟨m, m⟩, ⟨(0 : Nat), cw⟩, ⟨(0 : Nat), cv⟩, ⟨m, cu⟩]⟩, [tb, [], [], huL m u, huL m u], []⟩) ∧
((!((u i).fl == (u i).fl && (fun c => (u i).br == (u i).br && c) ((fun c => (↑(u i).row : Int) == (↑(u i).row : Int) && c) true))) = false → R (0 : Nat) .normal ⟨⟨[I m, I (IntKind.i64.wrap ((i : Int) + (1 : Int))), I rw, I st], [⟨m, m⟩, ⟨(0 : Nat), cw⟩, ⟨(0 : Nat), cv⟩, ⟨m, cu⟩]⟩, [tb, [], [], huL m u, huL m u], []⟩))))))) := by kernel_rfl
theorem b9ezx (rw st _ _ : Int) (cw cv m cu i : Nat) (_ _ _ _ : Int) (w v : Nat → Sp) (u _ : Nat → Hut) (_ _ _ : Nat → Int) (tb : List Value) (R : Nat → AExit → Hw → Prop) : (vx.code none (.l p9e) (leafW [T9ez] R) (T9ez.inst (h9ez rw st cw cv m cu tb (spL 0 w) (spL 0 v) (huL m u) i)) ((0, .val (.bool false)) :: [(1, .tm 0 [])])) =
((OT (decide ((i : Int) < m)) false) ∧
R (0 : Nat) (.exit 8) ⟨⟨[I m, I i, I rw, I st], [⟨m, m⟩, ⟨(0 : Nat), cw⟩, ⟨(0 : Nat), cv⟩, ⟨m, cu⟩]⟩, [tb, [], [], huL m u, huL m u], []⟩) := by kernel_rfl
theorem b9bny (rw st wh mz : Int) (c1 m cu i : Nat) (a b c d : Int) (u x : Nat → Hut) (L _ _ : Nat → Int) (tb : List Value) (R : Nat → AExit → Hw → Prop) : (vx.code none (.l p9b) (leafW [T9bn] R) (T9bn.inst (h9bn rw st wh mz c1 m cu tb (huL m u) (huL m x) (ints m L) i)) ((0, .val (.bool true)) :: (5, .con (CSn rw st c1 m cu (huL m u) i (.tuple ⟨[I a, I b, I 0]⟩))) :: (12, .con (CSn rw st c1 m m (huL m x) (jx m ↑i) (.tuple ⟨[I a, I b, I 0]⟩))) :: (9, .con (CSn rw st c1 m cu (huL m u) i (.tuple ⟨[I c, I 0]⟩))) :: (10, .con (CSn rw st c1 m m (huL m x) (jx m ↑i) (.tuple ⟨[I c, I 0]⟩))) :: (7, .con (CSn rw st c1 m cu (huL m u) i (.tuple ⟨[I d, I 0]⟩))) :: (10, .con (CSn rw st c1 m m (huL m x) (jx m ↑i) (.tuple ⟨[I d, I 0]⟩))) :: (7, .val (.bool false)) :: (3, .val (.bool false)) :: (9, .val (.bool false)) :: (9, .val (.bool false)) :: [(9, .tm 0 [])])) =
((OT (decide ((i : Int) < m)) true) ∧
(CA 14 (CSn rw st c1 m cu (huL m u) i (.tuple ⟨[I a, I b, I 0]⟩)) ⟨⟨[I rw, I st, I i], [⟨m, cu⟩]⟩, [huL m u]⟩ <|
(CA 14 (CSn rw st c1 m m (huL m x) (jx m ↑i) (.tuple ⟨[I a, I b, I 0]⟩)) ⟨⟨[I rw, I st, I (jx m ↑i)], [⟨m, m⟩]⟩, [huL m x]⟩ <|
(CA 23 (CSn rw st c1 m cu (huL m u) i (.tuple ⟨[I c, I 0]⟩)) ⟨⟨[I rw, I st, I i], [⟨m, cu⟩]⟩, [huL m u]⟩ <|
(CA 23 (CSn rw st c1 m m (huL m x) (jx m ↑i) (.tuple ⟨[I c, I 0]⟩)) ⟨⟨[I rw, I st, I (jx m ↑i)], [⟨m, m⟩]⟩, [huL m x]⟩ <|
(CA 24 (CSn rw st c1 m cu (huL m u) i (.tuple ⟨[I d, I 0]⟩)) ⟨⟨[I rw, I st, I i], [⟨m, cu⟩]⟩, [huL m u]⟩ <|
(CA 24 (CSn rw st c1 m m (huL m x) (jx m ↑i) (.tuple ⟨[I d, I 0]⟩)) ⟨⟨[I rw, I st, I (jx m ↑i)], [⟨m, m⟩]⟩, [huL m x]⟩ <|
((OT (a != a) false) ∧
((OT (b != b) false) ∧
((OT (c != c) false) ∧
((OT (d != d) false) ∧
R (0 : Nat) .normal ⟨⟨[.int IntKind.u8 wh, I m, I mz, I m, I (IntKind.i64.wrap ((i : Int) + (1 : Int))), I rw, I st, I rw, I st], [⟨(0 : Nat), (0 : Nat)⟩, ⟨m, m⟩, ⟨m, m⟩, ⟨m, cu⟩, ⟨m, m⟩]⟩, [tb, huL m u, huL m x, huL m u, ints m L], []⟩))))))))))) := by kernel_rfl
theorem b9bnx (rw st wh mz : Int) (c1 m cu i : Nat) (_ _ _ _ : Int) (u x : Nat → Hut) (L _ _ : Nat → Int) (tb : List Value) (R : Nat → AExit → Hw → Prop) : (vx.code none (.l p9b) (leafW [T9bn] R) (T9bn.inst (h9bn rw st wh mz c1 m cu tb (huL m u) (huL m x) (ints m L) i)) ((0, .val (.bool false)) :: [(1, .tm 0 [])])) =
((OT (decide ((i : Int) < m)) false) ∧
R (0 : Nat) (.exit 2) ⟨⟨[.int IntKind.u8 wh, I m, I mz, I m, I i, I rw, I st, I rw, I st], [⟨(0 : Nat), (0 : Nat)⟩, ⟨m, m⟩, ⟨m, m⟩, ⟨m, cu⟩, ⟨m, m⟩]⟩, [tb, huL m u, huL m x, huL m u, ints m L], []⟩) := by kernel_rfl
theorem b9cny (rw st _ mz : Int) (c1 m cu i : Nat) (_ _ _ _ : Int) (u _ : Nat → Hut) (L L2 K : Nat → Int) (tb : List Value) (R : Nat → AExit → Hw → Prop) : (vx.code none (.l p9c) (leafW [T9cn] R) (T9cn.inst (h9cn rw st mz c1 m cu tb (huL m u) (ints m L) (ints m K) i)) ((0, .val (.bool true)) :: (5, .val (.pointer (some ⟨13, 0 + i * 1, none⟩))) :: (0, .put (ints m L2)) :: [(2, .tm 0 [])])) =
((OT (decide ((i : Int) < m)) true) ∧
(((((0 : Int) ≤ i) ∧ ((i : Int) < m)) ∧ (VR (.pointer (some ⟨13, 0 + i * 1, none⟩)))) ∧
(((0 + i * 1 + 1 ≤ (ints m L).length) ∧ (List.take ((0 : Nat) + i * (1 : Nat)) (ints m L) ++ [Value.int .i64 (-9 : Int)] ++ List.drop ((0 : Nat) + i * (1 : Nat) + (1 : Nat)) (ints m L) = ints m L2)) ∧
R (0 : Nat) .normal ⟨⟨[I mz, I m, I (IntKind.i64.wrap ((i : Int) + (1 : Int))), I rw, I st], [⟨(0 : Nat), (0 : Nat)⟩, ⟨m, m⟩, ⟨m, m⟩, ⟨m, m⟩, ⟨m, cu⟩]⟩, [tb, huL m u, huL m u, ints m L2, ints m K], []⟩))) := by kernel_rfl
theorem b9cnx (rw st _ mz : Int) (c1 m cu i : Nat) (_ _ _ _ : Int) (u _ : Nat → Hut) (L _ K : Nat → Int) (tb : List Value) (R : Nat → AExit → Hw → Prop) : (vx.code none (.l p9c) (leafW [T9cn] R) (T9cn.inst (h9cn rw st mz c1 m cu tb (huL m u) (ints m L) (ints m K) i)) ((0, .val (.bool false)) :: [(1, .tm 0 [])])) =
((OT (decide ((i : Int) < m)) false) ∧
R (0 : Nat) (.exit 4) ⟨⟨[I mz, I m, I i, I rw, I st], [⟨(0 : Nat), (0 : Nat)⟩, ⟨m, m⟩, ⟨m, m⟩, ⟨m, m⟩, ⟨m, cu⟩]⟩, [tb, huL m u, huL m u, ints m L, ints m K], []⟩) := by kernel_rfl
theorem b9eny (rw st _ _ : Int) (c1 m cu i : Nat) (_ _ c _ : Int) (u _ : Nat → Hut) (_ _ _ : Nat → Int) (tb : List Value) (R : Nat → AExit → Hw → Prop) : (vx.code none (.l p9e) (leafW [T9en] R) (T9en.inst (h9en rw st c1 m cu tb (huL m u) i)) ((0, .val (.bool true)) :: (5, .val (.pointer (some ⟨12, 0 + i * 3, none⟩))) :: (0, .val (.agg ⟨[I (u i).fl, I (u i).br, I (u i).row]⟩)) :: (3, .val (.pointer (some ⟨4, 0 + i * 3, none⟩))) :: (0, .val (.agg ⟨[I (u i).fl, I (u i).br, I (u i).row]⟩)) :: [(0, .split ([(2, .tm 0 [])]) ([(3, .tm 0 [])]))])) =
((OT (decide ((i : Int) < m)) true) ∧
(((((0 : Int) ≤ i) ∧ ((i : Int) < m)) ∧ (VR (.pointer (some ⟨12, 0 + i * 3, none⟩)))) ∧
((HR i m u) ∧
(((((0 : Int) ≤ i) ∧ ((i : Int) < m)) ∧ (VR (.pointer (some ⟨4, 0 + i * 3, none⟩)))) ∧
((HR i m u) ∧
(((!((u i).fl == (u i).fl && (fun c => (u i).br == (u i).br && c) ((fun c => (↑(u i).row : Int) == (↑(u i).row : Int) && c) true))) = true → R (0 : Nat) .ret ⟨⟨[I m, I i, I rw, I st], [⟨m, m⟩, ⟨m, cu⟩]⟩, [tb, huL m u, huL m u], []⟩) ∧
((!((u i).fl == (u i).fl && (fun c => (u i).br == (u i).br && c) ((fun c => (↑(u i).row : Int) == (↑(u i).row : Int) && c) true))) = false → R (0 : Nat) .normal ⟨⟨[I m, I (IntKind.i64.wrap ((i : Int) + (1 : Int))), I rw, I st], [⟨m, m⟩, ⟨m, cu⟩]⟩, [tb, huL m u, huL m u], []⟩))))))) := by kernel_rfl
theorem b9enx (rw st _ _ : Int) (c1 m cu i : Nat) (_ _ _ _ : Int) (u _ : Nat → Hut) (_ _ _ : Nat → Int) (tb : List Value) (R : Nat → AExit → Hw → Prop) : (vx.code none (.l p9e) (leafW [T9en] R) (T9en.inst (h9en rw st c1 m cu tb (huL m u) i)) ((0, .val (.bool false)) :: [(1, .tm 0 [])])) =
((OT (decide ((i : Int) < m)) false) ∧
R (0 : Nat) (.exit 8) ⟨⟨[I m, I i, I rw, I st], [⟨m, m⟩, ⟨m, cu⟩]⟩, [tb, huL m u, huL m u], []⟩) := by kernel_rfl
theorem b9bvy (rw st wh mz : Int) (c1 m cu i : Nat) (a b c d : Int) (u x : Nat → Hut) (L _ _ : Nat → Int) (tb : List Value) (R : Nat → AExit → Hw → Prop) : (vx.code none (.l p9b) (leafW [T9bv] R) (T9bv.inst (h9bv rw st wh mz c1 m cu tb (huL m u) (huL m x) (ints m L) i)) ((0, .val (.bool true)) :: (5, .con (CSv rw st c1 m cu (huL m u) i (.tuple ⟨[I a, I b, I 0]⟩))) :: (12, .con (CSv rw st c1 m m (huL m x) (jx m ↑i) (.tuple ⟨[I a, I b, I 0]⟩))) :: (9, .con (CSv rw st c1 m cu (huL m u) i (.tuple ⟨[I c, I 0]⟩))) :: (10, .con (CSv rw st c1 m m (huL m x) (jx m ↑i) (.tuple ⟨[I c, I 0]⟩))) :: (7, .con (CSv rw st c1 m cu (huL m u) i (.tuple ⟨[I d, I 0]⟩))) :: (10, .con (CSv rw st c1 m m (huL m x) (jx m ↑i) (.tuple ⟨[I d, I 0]⟩))) :: (7, .val (.bool false)) :: (3, .val (.bool false)) :: (9, .val (.bool false)) :: (9, .val (.bool false)) :: [(9, .tm 0 [])])) =
((OT (decide ((i : Int) < m)) true) ∧
(CA 14 (CSv rw st c1 m cu (huL m u) i (.tuple ⟨[I a, I b, I 0]⟩)) ⟨⟨[I rw, I st, I i], [⟨(0 : Nat), c1⟩, ⟨m, cu⟩]⟩, [huL m u]⟩ <|
(CA 14 (CSv rw st c1 m m (huL m x) (jx m ↑i) (.tuple ⟨[I a, I b, I 0]⟩)) ⟨⟨[I rw, I st, I (jx m ↑i)], [⟨(0 : Nat), c1⟩, ⟨m, m⟩]⟩, [huL m x]⟩ <|
(CA 23 (CSv rw st c1 m cu (huL m u) i (.tuple ⟨[I c, I 0]⟩)) ⟨⟨[I rw, I st, I i], [⟨(0 : Nat), c1⟩, ⟨m, cu⟩]⟩, [huL m u]⟩ <|
(CA 23 (CSv rw st c1 m m (huL m x) (jx m ↑i) (.tuple ⟨[I c, I 0]⟩)) ⟨⟨[I rw, I st, I (jx m ↑i)], [⟨(0 : Nat), c1⟩, ⟨m, m⟩]⟩, [huL m x]⟩ <|
(CA 24 (CSv rw st c1 m cu (huL m u) i (.tuple ⟨[I d, I 0]⟩)) ⟨⟨[I rw, I st, I i], [⟨(0 : Nat), c1⟩, ⟨m, cu⟩]⟩, [huL m u]⟩ <|
(CA 24 (CSv rw st c1 m m (huL m x) (jx m ↑i) (.tuple ⟨[I d, I 0]⟩)) ⟨⟨[I rw, I st, I (jx m ↑i)], [⟨(0 : Nat), c1⟩, ⟨m, m⟩]⟩, [huL m x]⟩ <|
((OT (a != a) false) ∧
((OT (b != b) false) ∧
((OT (c != c) false) ∧
((OT (d != d) false) ∧
R (0 : Nat) .normal ⟨⟨[.int IntKind.u8 wh, I m, I mz, I m, I (IntKind.i64.wrap ((i : Int) + (1 : Int))), I rw, I st, I rw, I st], [⟨(0 : Nat), (0 : Nat)⟩, ⟨m, m⟩, ⟨m, m⟩, ⟨(0 : Nat), c1⟩, ⟨m, cu⟩, ⟨(0 : Nat), c1⟩, ⟨m, m⟩]⟩, [tb, huL m u, huL m x, huL m u, ints m L], []⟩))))))))))) := by kernel_rfl
theorem b9bvx (rw st wh mz : Int) (c1 m cu i : Nat) (_ _ _ _ : Int) (u x : Nat → Hut) (L _ _ : Nat → Int) (tb : List Value) (R : Nat → AExit → Hw → Prop) : (vx.code none (.l p9b) (leafW [T9bv] R) (T9bv.inst (h9bv rw st wh mz c1 m cu tb (huL m u) (huL m x) (ints m L) i)) ((0, .val (.bool false)) :: [(1, .tm 0 [])])) =
((OT (decide ((i : Int) < m)) false) ∧
R (0 : Nat) (.exit 2) ⟨⟨[.int IntKind.u8 wh, I m, I mz, I m, I i, I rw, I st, I rw, I st], [⟨(0 : Nat), (0 : Nat)⟩, ⟨m, m⟩, ⟨m, m⟩, ⟨(0 : Nat), c1⟩, ⟨m, cu⟩, ⟨(0 : Nat), c1⟩, ⟨m, m⟩]⟩, [tb, huL m u, huL m x, huL m u, ints m L], []⟩) := by kernel_rfl
theorem b9cvy (rw st _ mz : Int) (c1 m cu i : Nat) (_ _ _ _ : Int) (u _ : Nat → Hut) (L L2 K : Nat → Int) (tb : List Value) (R : Nat → AExit → Hw → Prop) : (vx.code none (.l p9c) (leafW [T9cv] R) (T9cv.inst (h9cv rw st mz c1 m cu tb (huL m u) (ints m L) (ints m K) i)) ((0, .val (.bool true)) :: (5, .val (.pointer (some ⟨13, 0 + i * 1, none⟩))) :: (0, .put (ints m L2)) :: [(2, .tm 0 [])])) =
((OT (decide ((i : Int) < m)) true) ∧
(((((0 : Int) ≤ i) ∧ ((i : Int) < m)) ∧ (VR (.pointer (some ⟨13, 0 + i * 1, none⟩)))) ∧
(((0 + i * 1 + 1 ≤ (ints m L).length) ∧ (List.take ((0 : Nat) + i * (1 : Nat)) (ints m L) ++ [Value.int .i64 (-9 : Int)] ++ List.drop ((0 : Nat) + i * (1 : Nat) + (1 : Nat)) (ints m L) = ints m L2)) ∧
R (0 : Nat) .normal ⟨⟨[I mz, I m, I (IntKind.i64.wrap ((i : Int) + (1 : Int))), I rw, I st], [⟨(0 : Nat), (0 : Nat)⟩, ⟨m, m⟩, ⟨m, m⟩, ⟨m, m⟩, ⟨(0 : Nat), c1⟩, ⟨m, cu⟩]⟩, [tb, huL m u, huL m u, ints m L2, ints m K], []⟩))) := by kernel_rfl
theorem b9cvx (rw st _ mz : Int) (c1 m cu i : Nat) (_ _ _ _ : Int) (u _ : Nat → Hut) (L _ K : Nat → Int) (tb : List Value) (R : Nat → AExit → Hw → Prop) : (vx.code none (.l p9c) (leafW [T9cv] R) (T9cv.inst (h9cv rw st mz c1 m cu tb (huL m u) (ints m L) (ints m K) i)) ((0, .val (.bool false)) :: [(1, .tm 0 [])])) =
((OT (decide ((i : Int) < m)) false) ∧
R (0 : Nat) (.exit 4) ⟨⟨[I mz, I m, I i, I rw, I st], [⟨(0 : Nat), (0 : Nat)⟩, ⟨m, m⟩, ⟨m, m⟩, ⟨m, m⟩, ⟨(0 : Nat), c1⟩, ⟨m, cu⟩]⟩, [tb, huL m u, huL m u, ints m L, ints m K], []⟩) := by kernel_rfl
theorem b9evy (rw st _ _ : Int) (c1 m cu i : Nat) (_ _ c _ : Int) (u _ : Nat → Hut) (_ _ _ : Nat → Int) (tb : List Value) (R : Nat → AExit → Hw → Prop) : (vx.code none (.l p9e) (leafW [T9ev] R) (T9ev.inst (h9ev rw st c1 m cu tb (huL m u) i)) ((0, .val (.bool true)) :: (5, .val (.pointer (some ⟨12, 0 + i * 3, none⟩))) :: (0, .val (.agg ⟨[I (u i).fl, I (u i).br, I (u i).row]⟩)) :: (3, .val (.pointer (some ⟨4, 0 + i * 3, none⟩))) :: (0, .val (.agg ⟨[I (u i).fl, I (u i).br, I (u i).row]⟩)) :: [(0, .split ([(2, .tm 0 [])]) ([(3, .tm 0 [])]))])) =
((OT (decide ((i : Int) < m)) true) ∧
(((((0 : Int) ≤ i) ∧ ((i : Int) < m)) ∧ (VR (.pointer (some ⟨12, 0 + i * 3, none⟩)))) ∧
((HR i m u) ∧
(((((0 : Int) ≤ i) ∧ ((i : Int) < m)) ∧ (VR (.pointer (some ⟨4, 0 + i * 3, none⟩)))) ∧
((HR i m u) ∧
(((!((u i).fl == (u i).fl && (fun c => (u i).br == (u i).br && c) ((fun c => (↑(u i).row : Int) == (↑(u i).row : Int) && c) true))) = true → R (0 : Nat) .ret ⟨⟨[I m, I i, I rw, I st], [⟨m, m⟩, ⟨(0 : Nat), c1⟩, ⟨m, cu⟩]⟩, [tb, huL m u, huL m u], []⟩) ∧
((!((u i).fl == (u i).fl && (fun c => (u i).br == (u i).br && c) ((fun c => (↑(u i).row : Int) == (↑(u i).row : Int) && c) true))) = false → R (0 : Nat) .normal ⟨⟨[I m, I (IntKind.i64.wrap ((i : Int) + (1 : Int))), I rw, I st], [⟨m, m⟩, ⟨(0 : Nat), c1⟩, ⟨m, cu⟩]⟩, [tb, huL m u, huL m u], []⟩))))))) := by kernel_rfl
theorem b9evx (rw st _ _ : Int) (c1 m cu i : Nat) (_ _ _ _ : Int) (u _ : Nat → Hut) (_ _ _ : Nat → Int) (tb : List Value) (R : Nat → AExit → Hw → Prop) : (vx.code none (.l p9e) (leafW [T9ev] R) (T9ev.inst (h9ev rw st c1 m cu tb (huL m u) i)) ((0, .val (.bool false)) :: [(1, .tm 0 [])])) =
((OT (decide ((i : Int) < m)) false) ∧
R (0 : Nat) (.exit 8) ⟨⟨[I m, I i, I rw, I st], [⟨m, m⟩, ⟨(0 : Nat), c1⟩, ⟨m, cu⟩]⟩, [tb, huL m u, huL m u], []⟩) := by kernel_rfl
theorem b9bwy (rw st wh mz : Int) (c1 m cu i : Nat) (a b c d : Int) (u x : Nat → Hut) (L _ _ : Nat → Int) (tb : List Value) (R : Nat → AExit → Hw → Prop) : (vx.code none (.l p9b) (leafW [T9bw] R) (T9bw.inst (h9bw rw st wh mz c1 m cu tb (huL m u) (huL m x) (ints m L) i)) ((0, .val (.bool true)) :: (5, .con (CSw rw st c1 m cu (huL m u) i (.tuple ⟨[I a, I b, I 0]⟩))) :: (12, .con (CSw rw st c1 m m (huL m x) (jx m ↑i) (.tuple ⟨[I a, I b, I 0]⟩))) :: (9, .con (CSw rw st c1 m cu (huL m u) i (.tuple ⟨[I c, I 0]⟩))) :: (10, .con (CSw rw st c1 m m (huL m x) (jx m ↑i) (.tuple ⟨[I c, I 0]⟩))) :: (7, .con (CSw rw st c1 m cu (huL m u) i (.tuple ⟨[I d, I 0]⟩))) :: (10, .con (CSw rw st c1 m m (huL m x) (jx m ↑i) (.tuple ⟨[I d, I 0]⟩))) :: (7, .val (.bool false)) :: (3, .val (.bool false)) :: (9, .val (.bool false)) :: (9, .val (.bool false)) :: [(9, .tm 0 [])])) =
((OT (decide ((i : Int) < m)) true) ∧
(CA 14 (CSw rw st c1 m cu (huL m u) i (.tuple ⟨[I a, I b, I 0]⟩)) ⟨⟨[I rw, I st, I i], [⟨(0 : Nat), c1⟩, ⟨m, cu⟩]⟩, [huL m u]⟩ <|
(CA 14 (CSw rw st c1 m m (huL m x) (jx m ↑i) (.tuple ⟨[I a, I b, I 0]⟩)) ⟨⟨[I rw, I st, I (jx m ↑i)], [⟨(0 : Nat), c1⟩, ⟨m, m⟩]⟩, [huL m x]⟩ <|
(CA 23 (CSw rw st c1 m cu (huL m u) i (.tuple ⟨[I c, I 0]⟩)) ⟨⟨[I rw, I st, I i], [⟨(0 : Nat), c1⟩, ⟨m, cu⟩]⟩, [huL m u]⟩ <|
(CA 23 (CSw rw st c1 m m (huL m x) (jx m ↑i) (.tuple ⟨[I c, I 0]⟩)) ⟨⟨[I rw, I st, I (jx m ↑i)], [⟨(0 : Nat), c1⟩, ⟨m, m⟩]⟩, [huL m x]⟩ <|
(CA 24 (CSw rw st c1 m cu (huL m u) i (.tuple ⟨[I d, I 0]⟩)) ⟨⟨[I rw, I st, I i], [⟨(0 : Nat), c1⟩, ⟨m, cu⟩]⟩, [huL m u]⟩ <|
(CA 24 (CSw rw st c1 m m (huL m x) (jx m ↑i) (.tuple ⟨[I d, I 0]⟩)) ⟨⟨[I rw, I st, I (jx m ↑i)], [⟨(0 : Nat), c1⟩, ⟨m, m⟩]⟩, [huL m x]⟩ <|
((OT (a != a) false) ∧
((OT (b != b) false) ∧
((OT (c != c) false) ∧
((OT (d != d) false) ∧
R (0 : Nat) .normal ⟨⟨[.int IntKind.u8 wh, I m, I mz, I m, I (IntKind.i64.wrap ((i : Int) + (1 : Int))), I rw, I st, I rw, I st], [⟨(0 : Nat), (0 : Nat)⟩, ⟨m, m⟩, ⟨m, m⟩, ⟨(0 : Nat), c1⟩, ⟨m, cu⟩, ⟨(0 : Nat), c1⟩, ⟨m, m⟩]⟩, [tb, huL m u, huL m x, huL m u, ints m L], []⟩))))))))))) := by kernel_rfl
theorem b9bwx (rw st wh mz : Int) (c1 m cu i : Nat) (_ _ _ _ : Int) (u x : Nat → Hut) (L _ _ : Nat → Int) (tb : List Value) (R : Nat → AExit → Hw → Prop) : (vx.code none (.l p9b) (leafW [T9bw] R) (T9bw.inst (h9bw rw st wh mz c1 m cu tb (huL m u) (huL m x) (ints m L) i)) ((0, .val (.bool false)) :: [(1, .tm 0 [])])) =
((OT (decide ((i : Int) < m)) false) ∧
R (0 : Nat) (.exit 2) ⟨⟨[.int IntKind.u8 wh, I m, I mz, I m, I i, I rw, I st, I rw, I st], [⟨(0 : Nat), (0 : Nat)⟩, ⟨m, m⟩, ⟨m, m⟩, ⟨(0 : Nat), c1⟩, ⟨m, cu⟩, ⟨(0 : Nat), c1⟩, ⟨m, m⟩]⟩, [tb, huL m u, huL m x, huL m u, ints m L], []⟩) := by kernel_rfl
theorem b9cwy (rw st _ mz : Int) (c1 m cu i : Nat) (_ _ _ _ : Int) (u _ : Nat → Hut) (L L2 K : Nat → Int) (tb : List Value) (R : Nat → AExit → Hw → Prop) : (vx.code none (.l p9c) (leafW [T9cw] R) (T9cw.inst (h9cw rw st mz c1 m cu tb (huL m u) (ints m L) (ints m K) i)) ((0, .val (.bool true)) :: (5, .val (.pointer (some ⟨13, 0 + i * 1, none⟩))) :: (0, .put (ints m L2)) :: [(2, .tm 0 [])])) =
((OT (decide ((i : Int) < m)) true) ∧
(((((0 : Int) ≤ i) ∧ ((i : Int) < m)) ∧ (VR (.pointer (some ⟨13, 0 + i * 1, none⟩)))) ∧
(((0 + i * 1 + 1 ≤ (ints m L).length) ∧ (List.take ((0 : Nat) + i * (1 : Nat)) (ints m L) ++ [Value.int .i64 (-9 : Int)] ++ List.drop ((0 : Nat) + i * (1 : Nat) + (1 : Nat)) (ints m L) = ints m L2)) ∧
R (0 : Nat) .normal ⟨⟨[I mz, I m, I (IntKind.i64.wrap ((i : Int) + (1 : Int))), I rw, I st], [⟨(0 : Nat), (0 : Nat)⟩, ⟨m, m⟩, ⟨m, m⟩, ⟨m, m⟩, ⟨(0 : Nat), c1⟩, ⟨m, cu⟩]⟩, [tb, huL m u, huL m u, ints m L2, ints m K], []⟩))) := by kernel_rfl
theorem b9cwx (rw st _ mz : Int) (c1 m cu i : Nat) (_ _ _ _ : Int) (u _ : Nat → Hut) (L _ K : Nat → Int) (tb : List Value) (R : Nat → AExit → Hw → Prop) : (vx.code none (.l p9c) (leafW [T9cw] R) (T9cw.inst (h9cw rw st mz c1 m cu tb (huL m u) (ints m L) (ints m K) i)) ((0, .val (.bool false)) :: [(1, .tm 0 [])])) =
((OT (decide ((i : Int) < m)) false) ∧
R (0 : Nat) (.exit 4) ⟨⟨[I mz, I m, I i, I rw, I st], [⟨(0 : Nat), (0 : Nat)⟩, ⟨m, m⟩, ⟨m, m⟩, ⟨m, m⟩, ⟨(0 : Nat), c1⟩, ⟨m, cu⟩]⟩, [tb, huL m u, huL m u, ints m L, ints m K], []⟩) := by kernel_rfl
theorem b9ewy (rw st _ _ : Int) (c1 m cu i : Nat) (_ _ c _ : Int) (u _ : Nat → Hut) (_ _ _ : Nat → Int) (tb : List Value) (R : Nat → AExit → Hw → Prop) : (vx.code none (.l p9e) (leafW [T9ew] R) (T9ew.inst (h9ew rw st c1 m cu tb (huL m u) i)) ((0, .val (.bool true)) :: (5, .val (.pointer (some ⟨12, 0 + i * 3, none⟩))) :: (0, .val (.agg ⟨[I (u i).fl, I (u i).br, I (u i).row]⟩)) :: (3, .val (.pointer (some ⟨4, 0 + i * 3, none⟩))) :: (0, .val (.agg ⟨[I (u i).fl, I (u i).br, I (u i).row]⟩)) :: [(0, .split ([(2, .tm 0 [])]) ([(3, .tm 0 [])]))])) =
((OT (decide ((i : Int) < m)) true) ∧
(((((0 : Int) ≤ i) ∧ ((i : Int) < m)) ∧ (VR (.pointer (some ⟨12, 0 + i * 3, none⟩)))) ∧
((HR i m u) ∧
(((((0 : Int) ≤ i) ∧ ((i : Int) < m)) ∧ (VR (.pointer (some ⟨4, 0 + i * 3, none⟩)))) ∧
((HR i m u) ∧
(((!((u i).fl == (u i).fl && (fun c => (u i).br == (u i).br && c) ((fun c => (↑(u i).row : Int) == (↑(u i).row : Int) && c) true))) = true → R (0 : Nat) .ret ⟨⟨[I m, I i, I rw, I st], [⟨m, m⟩, ⟨(0 : Nat), c1⟩, ⟨m, cu⟩]⟩, [tb, huL m u, huL m u], []⟩) ∧
((!((u i).fl == (u i).fl && (fun c => (u i).br == (u i).br && c) ((fun c => (↑(u i).row : Int) == (↑(u i).row : Int) && c) true))) = false → R (0 : Nat) .normal ⟨⟨[I m, I (IntKind.i64.wrap ((i : Int) + (1 : Int))), I rw, I st], [⟨m, m⟩, ⟨(0 : Nat), c1⟩, ⟨m, cu⟩]⟩, [tb, huL m u, huL m u], []⟩))))))) := by kernel_rfl
theorem b9ewx (rw st _ _ : Int) (c1 m cu i : Nat) (_ _ _ _ : Int) (u _ : Nat → Hut) (_ _ _ : Nat → Int) (tb : List Value) (R : Nat → AExit → Hw → Prop) : (vx.code none (.l p9e) (leafW [T9ew] R) (T9ew.inst (h9ew rw st c1 m cu tb (huL m u) i)) ((0, .val (.bool false)) :: [(1, .tm 0 [])])) =
((OT (decide ((i : Int) < m)) false) ∧
R (0 : Nat) (.exit 8) ⟨⟨[I m, I i, I rw, I st], [⟨m, m⟩, ⟨(0 : Nat), c1⟩, ⟨m, cu⟩]⟩, [tb, huL m u, huL m u], []⟩) := by kernel_rfl
theorem b9an0 (rw st wh mz : Int) (c1 m cu : Nat) (u _ : Nat → Hut) (tb : List Value) (R : Nat → AExit → Hw → Prop) : (vx.code none (.l p9a) (leafW [T9nn, T9ln] R) (T9nn.inst (h9nn rw st wh mz c1 m cu tb (huL m u))) ((0, .val (.bool true)) :: (11, .val (.pointer (.some ⟨(4 : Nat), (0 : Nat) + (jx m 0).toNat * (3 : Nat), .none⟩))) :: (0, .val (.agg ⟨[I ((u (jx m 0).toNat).fl), I ((u (jx m 0).toNat).br), I (↑(u (jx m 0).toNat).row : Int)]⟩)) :: [(5, .tm 1 [((9 : Nat), (10 : Nat))])])) =
((OT (decide ((0 : Int) < m)) true) ∧
(((((0 : Int) ≤ jx m 0) ∧ (jx m 0 < (m : Int))) ∧ (((.pointer (.some ⟨(4 : Nat), (0 : Nat) + (jx m 0).toNat * (3 : Nat), .none⟩)) : Value) = (.pointer (.some ⟨(4 : Nat), (0 : Nat) + (jx m 0).toNat * (3 : Nat), .none⟩)))) ∧
((((0 : Nat) + (jx m 0).toNat * (3 : Nat) + (3 : Nat) ≤ (huL m u).length) ∧ (((.agg ⟨[I ((u (jx m 0).toNat).fl), I ((u (jx m 0).toNat).br), I (↑(u (jx m 0).toNat).row : Int)]⟩) : Value) = (.agg ⟨List.take (3 : Nat) (List.drop ((0 : Nat) + (jx m 0).toNat * (3 : Nat)) (huL m u))⟩))) ∧
R (1 : Nat) .normal ⟨⟨[.int IntKind.u8 wh, I m, I mz, I m, I (IntKind.i64.wrap ((0 : Int) + (1 : Int))), I rw, I st, I rw, I st], [⟨m, cu⟩, ⟨(1 : Nat), (1 : Nat)⟩]⟩, [tb, huL m u, [I ((u (jx m 0).toNat).fl), I ((u (jx m 0).toNat).br), I (↑(u (jx m 0).toNat).row : Int)]], []⟩))) := by kernel_rfl
theorem b9anx (rw st wh mz : Int) (c1 m cu i c : Nat) (u : Nat → Hut) (tb us2 : List Value) (R : Nat → AExit → Hw → Prop) : (vx.code none (.l p9a) (leafW [T9nn, T9ln] R) (T9ln.inst (h9ln rw st wh mz c1 m cu i c tb (huL m u) us2)) ((0, .val (.bool false)) :: [(1, .tm 1 [((9 : Nat), (9 : Nat))])])) =
((OT (decide ((i : Int) < m)) false) ∧
R (1 : Nat) (.exit 0) ⟨⟨[.int IntKind.u8 wh, I m, I mz, I m, I i, I rw, I st, I rw, I st], [⟨m, cu⟩, ⟨i, c⟩]⟩, [tb, huL m u, us2], []⟩) := by kernel_rfl
theorem g9an (rw st wh mz : Int) (c1 m cu i : Nat) (u x : Nat → Hut) (tb : List Value) (R : Nat → AExit → Hw → Prop) : (vx.code none (.l p9a) (leafW [T9nn, T9ln] R) (T9ln.inst (h9ln rw st wh mz c1 m cu i i tb (huL m u) (huL i x))) ((0, .val (.bool true)) :: (11, .val (.pointer (.some ⟨(4 : Nat), (0 : Nat) + (jx m ↑i).toNat * (3 : Nat), .none⟩))) :: (0, .val (.agg ⟨[I ((u (jx m ↑i).toNat).fl), I ((u (jx m ↑i).toNat).br), I (↑(u (jx m ↑i).toNat).row : Int)]⟩)) :: (0, .grow) :: [(4, .tm 1 [((9 : Nat), (11 : Nat))])])) =
((OT (decide ((i : Int) < m)) true) ∧
(((((0 : Int) ≤ jx m ↑i) ∧ (jx m ↑i < (m : Int))) ∧ (((.pointer (.some ⟨(4 : Nat), (0 : Nat) + (jx m ↑i).toNat * (3 : Nat), .none⟩)) : Value) = (.pointer (.some ⟨(4 : Nat), (0 : Nat) + (jx m ↑i).toNat * (3 : Nat), .none⟩)))) ∧
((((0 : Nat) + (jx m ↑i).toNat * (3 : Nat) + (3 : Nat) ≤ (huL m u).length) ∧ (((.agg ⟨[I ((u (jx m ↑i).toNat).fl), I ((u (jx m ↑i).toNat).br), I (↑(u (jx m ↑i).toNat).row : Int)]⟩) : Value) = (.agg ⟨List.take (3 : Nat) (List.drop ((0 : Nat) + (jx m ↑i).toNat * (3 : Nat)) (huL m u))⟩))) ∧
(((¬i + (1 : Nat) ≤ i) ∧ ((i * (3 : Nat) = (huL i x).length) ∧ (((i + (1 : Nat)) * (24 : Nat) ≤ (140737488355328 : Nat)) ∧ (i + (1 : Nat) ≤ (4611686018427387904 : Nat))))) ∧
R (1 : Nat) .normal ⟨⟨[.int IntKind.u8 wh, I m, I mz, I m, I (IntKind.i64.wrap ((i : Int) + (1 : Int))), I rw, I st, I rw, I st], [⟨m, cu⟩, ⟨i + (1 : Nat), i + (1 : Nat)⟩]⟩, [tb, huL m u, (List.take (i * (3 : Nat)) (huL i x)) ++ [I ((u (jx m ↑i).toNat).fl), I ((u (jx m ↑i).toNat).br), I (↑(u (jx m ↑i).toNat).row : Int)]], []⟩)))) := by kernel_rfl
theorem b9av0 (rw st wh mz : Int) (c1 m cu : Nat) (u _ : Nat → Hut) (tb : List Value) (R : Nat → AExit → Hw → Prop) : (vx.code none (.l p9a) (leafW [T9nv, T9lv] R) (T9nv.inst (h9nv rw st wh mz c1 m cu tb (huL m u))) ((0, .val (.bool true)) :: (11, .val (.pointer (.some ⟨(4 : Nat), (0 : Nat) + (jx m 0).toNat * (3 : Nat), .none⟩))) :: (0, .val (.agg ⟨[I ((u (jx m 0).toNat).fl), I ((u (jx m 0).toNat).br), I (↑(u (jx m 0).toNat).row : Int)]⟩)) :: [(5, .tm 1 [((9 : Nat), (10 : Nat))])])) =
((OT (decide ((0 : Int) < m)) true) ∧
(((((0 : Int) ≤ jx m 0) ∧ (jx m 0 < (m : Int))) ∧ (((.pointer (.some ⟨(4 : Nat), (0 : Nat) + (jx m 0).toNat * (3 : Nat), .none⟩)) : Value) = (.pointer (.some ⟨(4 : Nat), (0 : Nat) + (jx m 0).toNat * (3 : Nat), .none⟩)))) ∧
((((0 : Nat) + (jx m 0).toNat * (3 : Nat) + (3 : Nat) ≤ (huL m u).length) ∧ (((.agg ⟨[I ((u (jx m 0).toNat).fl), I ((u (jx m 0).toNat).br), I (↑(u (jx m 0).toNat).row : Int)]⟩) : Value) = (.agg ⟨List.take (3 : Nat) (List.drop ((0 : Nat) + (jx m 0).toNat * (3 : Nat)) (huL m u))⟩))) ∧
R (1 : Nat) .normal ⟨⟨[.int IntKind.u8 wh, I m, I mz, I m, I (IntKind.i64.wrap ((0 : Int) + (1 : Int))), I rw, I st, I rw, I st], [⟨(0 : Nat), c1⟩, ⟨m, cu⟩, ⟨(0 : Nat), c1⟩, ⟨(1 : Nat), (1 : Nat)⟩]⟩, [tb, huL m u, [I ((u (jx m 0).toNat).fl), I ((u (jx m 0).toNat).br), I (↑(u (jx m 0).toNat).row : Int)]], []⟩))) := by kernel_rfl
theorem b9avx (rw st wh mz : Int) (c1 m cu i c : Nat) (u : Nat → Hut) (tb us2 : List Value) (R : Nat → AExit → Hw → Prop) : (vx.code none (.l p9a) (leafW [T9nv, T9lv] R) (T9lv.inst (h9lv rw st wh mz c1 m cu i c tb (huL m u) us2)) ((0, .val (.bool false)) :: [(1, .tm 1 [((9 : Nat), (9 : Nat))])])) =
((OT (decide ((i : Int) < m)) false) ∧
R (1 : Nat) (.exit 0) ⟨⟨[.int IntKind.u8 wh, I m, I mz, I m, I i, I rw, I st, I rw, I st], [⟨(0 : Nat), c1⟩, ⟨m, cu⟩, ⟨(0 : Nat), c1⟩, ⟨i, c⟩]⟩, [tb, huL m u, us2], []⟩) := by kernel_rfl
theorem g9av (rw st wh mz : Int) (c1 m cu i : Nat) (u x : Nat → Hut) (tb : List Value) (R : Nat → AExit → Hw → Prop) : (vx.code none (.l p9a) (leafW [T9nv, T9lv] R) (T9lv.inst (h9lv rw st wh mz c1 m cu i i tb (huL m u) (huL i x))) ((0, .val (.bool true)) :: (11, .val (.pointer (.some ⟨(4 : Nat), (0 : Nat) + (jx m ↑i).toNat * (3 : Nat), .none⟩))) :: (0, .val (.agg ⟨[I ((u (jx m ↑i).toNat).fl), I ((u (jx m ↑i).toNat).br), I (↑(u (jx m ↑i).toNat).row : Int)]⟩)) :: (0, .grow) :: [(4, .tm 1 [((9 : Nat), (11 : Nat))])])) =
((OT (decide ((i : Int) < m)) true) ∧
(((((0 : Int) ≤ jx m ↑i) ∧ (jx m ↑i < (m : Int))) ∧ (((.pointer (.some ⟨(4 : Nat), (0 : Nat) + (jx m ↑i).toNat * (3 : Nat), .none⟩)) : Value) = (.pointer (.some ⟨(4 : Nat), (0 : Nat) + (jx m ↑i).toNat * (3 : Nat), .none⟩)))) ∧
((((0 : Nat) + (jx m ↑i).toNat * (3 : Nat) + (3 : Nat) ≤ (huL m u).length) ∧ (((.agg ⟨[I ((u (jx m ↑i).toNat).fl), I ((u (jx m ↑i).toNat).br), I (↑(u (jx m ↑i).toNat).row : Int)]⟩) : Value) = (.agg ⟨List.take (3 : Nat) (List.drop ((0 : Nat) + (jx m ↑i).toNat * (3 : Nat)) (huL m u))⟩))) ∧
(((¬i + (1 : Nat) ≤ i) ∧ ((i * (3 : Nat) = (huL i x).length) ∧ (((i + (1 : Nat)) * (24 : Nat) ≤ (140737488355328 : Nat)) ∧ (i + (1 : Nat) ≤ (4611686018427387904 : Nat))))) ∧
R (1 : Nat) .normal ⟨⟨[.int IntKind.u8 wh, I m, I mz, I m, I (IntKind.i64.wrap ((i : Int) + (1 : Int))), I rw, I st, I rw, I st], [⟨(0 : Nat), c1⟩, ⟨m, cu⟩, ⟨(0 : Nat), c1⟩, ⟨i + (1 : Nat), i + (1 : Nat)⟩]⟩, [tb, huL m u, (List.take (i * (3 : Nat)) (huL i x)) ++ [I ((u (jx m ↑i).toNat).fl), I ((u (jx m ↑i).toNat).br), I (↑(u (jx m ↑i).toNat).row : Int)]], []⟩)))) := by kernel_rfl
theorem b9aw0 (rw st wh mz : Int) (c1 m cu : Nat) (u _ : Nat → Hut) (tb : List Value) (R : Nat → AExit → Hw → Prop) : (vx.code none (.l p9a) (leafW [T9nw, T9lw] R) (T9nw.inst (h9nw rw st wh mz c1 m cu tb (huL m u))) ((0, .val (.bool true)) :: (11, .val (.pointer (.some ⟨(4 : Nat), (0 : Nat) + (jx m 0).toNat * (3 : Nat), .none⟩))) :: (0, .val (.agg ⟨[I ((u (jx m 0).toNat).fl), I ((u (jx m 0).toNat).br), I (↑(u (jx m 0).toNat).row : Int)]⟩)) :: [(5, .tm 1 [((9 : Nat), (10 : Nat))])])) =
((OT (decide ((0 : Int) < m)) true) ∧
(((((0 : Int) ≤ jx m 0) ∧ (jx m 0 < (m : Int))) ∧ (((.pointer (.some ⟨(4 : Nat), (0 : Nat) + (jx m 0).toNat * (3 : Nat), .none⟩)) : Value) = (.pointer (.some ⟨(4 : Nat), (0 : Nat) + (jx m 0).toNat * (3 : Nat), .none⟩)))) ∧
((((0 : Nat) + (jx m 0).toNat * (3 : Nat) + (3 : Nat) ≤ (huL m u).length) ∧ (((.agg ⟨[I ((u (jx m 0).toNat).fl), I ((u (jx m 0).toNat).br), I (↑(u (jx m 0).toNat).row : Int)]⟩) : Value) = (.agg ⟨List.take (3 : Nat) (List.drop ((0 : Nat) + (jx m 0).toNat * (3 : Nat)) (huL m u))⟩))) ∧
R (1 : Nat) .normal ⟨⟨[.int IntKind.u8 wh, I m, I mz, I m, I (IntKind.i64.wrap ((0 : Int) + (1 : Int))), I rw, I st, I rw, I st], [⟨(0 : Nat), c1⟩, ⟨m, cu⟩, ⟨(0 : Nat), c1⟩, ⟨(1 : Nat), (1 : Nat)⟩]⟩, [tb, huL m u, [I ((u (jx m 0).toNat).fl), I ((u (jx m 0).toNat).br), I (↑(u (jx m 0).toNat).row : Int)]], []⟩))) := by kernel_rfl
theorem b9awx (rw st wh mz : Int) (c1 m cu i c : Nat) (u : Nat → Hut) (tb us2 : List Value) (R : Nat → AExit → Hw → Prop) : (vx.code none (.l p9a) (leafW [T9nw, T9lw] R) (T9lw.inst (h9lw rw st wh mz c1 m cu i c tb (huL m u) us2)) ((0, .val (.bool false)) :: [(1, .tm 1 [((9 : Nat), (9 : Nat))])])) =
((OT (decide ((i : Int) < m)) false) ∧
R (1 : Nat) (.exit 0) ⟨⟨[.int IntKind.u8 wh, I m, I mz, I m, I i, I rw, I st, I rw, I st], [⟨(0 : Nat), c1⟩, ⟨m, cu⟩, ⟨(0 : Nat), c1⟩, ⟨i, c⟩]⟩, [tb, huL m u, us2], []⟩) := by kernel_rfl
theorem g9aw (rw st wh mz : Int) (c1 m cu i : Nat) (u x : Nat → Hut) (tb : List Value) (R : Nat → AExit → Hw → Prop) : (vx.code none (.l p9a) (leafW [T9nw, T9lw] R) (T9lw.inst (h9lw rw st wh mz c1 m cu i i tb (huL m u) (huL i x))) ((0, .val (.bool true)) :: (11, .val (.pointer (.some ⟨(4 : Nat), (0 : Nat) + (jx m ↑i).toNat * (3 : Nat), .none⟩))) :: (0, .val (.agg ⟨[I ((u (jx m ↑i).toNat).fl), I ((u (jx m ↑i).toNat).br), I (↑(u (jx m ↑i).toNat).row : Int)]⟩)) :: (0, .grow) :: [(4, .tm 1 [((9 : Nat), (11 : Nat))])])) =
((OT (decide ((i : Int) < m)) true) ∧
(((((0 : Int) ≤ jx m ↑i) ∧ (jx m ↑i < (m : Int))) ∧ (((.pointer (.some ⟨(4 : Nat), (0 : Nat) + (jx m ↑i).toNat * (3 : Nat), .none⟩)) : Value) = (.pointer (.some ⟨(4 : Nat), (0 : Nat) + (jx m ↑i).toNat * (3 : Nat), .none⟩)))) ∧
((((0 : Nat) + (jx m ↑i).toNat * (3 : Nat) + (3 : Nat) ≤ (huL m u).length) ∧ (((.agg ⟨[I ((u (jx m ↑i).toNat).fl), I ((u (jx m ↑i).toNat).br), I (↑(u (jx m ↑i).toNat).row : Int)]⟩) : Value) = (.agg ⟨List.take (3 : Nat) (List.drop ((0 : Nat) + (jx m ↑i).toNat * (3 : Nat)) (huL m u))⟩))) ∧
(((¬i + (1 : Nat) ≤ i) ∧ ((i * (3 : Nat) = (huL i x).length) ∧ (((i + (1 : Nat)) * (24 : Nat) ≤ (140737488355328 : Nat)) ∧ (i + (1 : Nat) ≤ (4611686018427387904 : Nat))))) ∧
R (1 : Nat) .normal ⟨⟨[.int IntKind.u8 wh, I m, I mz, I m, I (IntKind.i64.wrap ((i : Int) + (1 : Int))), I rw, I st, I rw, I st], [⟨(0 : Nat), c1⟩, ⟨m, cu⟩, ⟨(0 : Nat), c1⟩, ⟨i + (1 : Nat), i + (1 : Nat)⟩]⟩, [tb, huL m u, (List.take (i * (3 : Nat)) (huL i x)) ++ [I ((u (jx m ↑i).toNat).fl), I ((u (jx m ↑i).toNat).br), I (↑(u (jx m ↑i).toNat).row : Int)]], []⟩)))) := by kernel_rfl
theorem cl30 (n c d : Nat) (o : Nat → Int) (i : Nat) : ClW (h30 n c d o i) := by
 refine ⟨fun cs hc => ?_, fun es hc => (by cases hc)⟩
 simp only [h30, List.mem_cons, List.not_mem_nil, or_false, or_self] at hc
 subst hc
 exact ints_at n o
theorem loop30 {n c d : Nat} {o : Nat → Int} (hn : n ≤ 99999) : LoopOW Tryd.prog none p30 T30 (h30 n c d o 0) (.exit 0) T30 (h30 n c d o n) := by
 refine loop_forW (Ts := [T30]) (k := 4) (n := n) (e := .exit 0) (st := fun i => (0, h30 n c d o i)) rfl vx_sound ?_ (by rw [nglob]; omega) ⟨by simp, trivial⟩ (fun i _ => cl30 n c d o i) (fun i hi R hR => ?_) (fun R hR => ?_) rfl (Nat.le_of_ble_eq_true rfl) (by decide) rfl
 · intro T hT; simp only [List.mem_singleton] at hT; subst hT; rfl
 · have hw := wrS (i := i) (by omega)
   have hg := ints_get o hi
   refine ⟨T30, _, rfl, (b30 n c d i o R).mpr ⟨fun _ => ⟨⟨⟨by omega, by omega⟩, rfl⟩, hg, ⟨⟨by omega, by omega⟩, rfl⟩, hg, fun h => ?_, fun _ => ?_⟩, fun h => absurd (by omega) (of_decide_eq_false h)⟩⟩
   · simp at h
   · rw [hw]; exact hR
 · exact ⟨T30, _, rfl, (b30 n c d n o R).mpr ⟨fun h => absurd (of_decide_eq_true h) (by omega), fun _ => hR⟩⟩
theorem C30_ok {n : Nat} (c d : Nat) (o : Nat → Int) (hn : n ≤ 99999) : ConOK Tryd.prog 30 (C30 n c d o) := by
 refine con_of vx_sound ⟨⟨[], [(n, c), (n, d)]⟩, [ints n o, ints n o]⟩ (fun y hy => ?_) rfl (fun y _ => rfl) (fun y hy => ?_) rfl (Nat.le_of_ble_eq_true rfl) (by rw [nglob]; exact Nat.le_of_ble_eq_true rfl)
 · cases hy
   exact ⟨_, (f30 n c d o _).mpr ⟨fun h => (by simp at h), fun _ => ⟨cl30 n c d o 0, loop30 hn, rfl⟩⟩⟩
 · cases hy
   intro cs hcs
   simp only [List.mem_cons, List.not_mem_nil, or_false, or_self] at hcs
   subst hcs
   exact ints_at n o
def negL (L : Nat → Int) (i j : Nat) : Int := if j < i then -9 else L j
theorem negL_0 (L : Nat → Int) : negL L 0 = L := funext fun j => if_neg (Nat.not_lt_zero j)
theorem negL_put {m i : Nat} (L : Nat → Int) (hi : i < m) : (ints m (negL L i)).take (0 + i * 1) ++ [I (-9)] ++ (ints m (negL L i)).drop (0 + i * 1 + 1) = ints m (negL L (i + 1)) := by
 rw [ints_put (negL L i) (-9) hi]
 have e : (fun x => if x = i then (-9 : Int) else negL L i x) = negL L (i + 1) := funext fun x => by
  by_cases h : x = i
  · subst h; rw [if_pos rfl]; unfold negL; rw [if_pos (by omega)]
  · rw [if_neg h]; unfold negL
    by_cases h2 : x < i
    · rw [if_pos h2, if_pos (by omega)]
    · rw [if_neg h2, if_neg (by omega)]
 rw [e]
theorem cellS {n k : Nat} {w : Nat → Sp} (h : k < n) : (Value.agg ⟨[I (w k).lo, I (w k).hi]⟩) = Value.agg ⟨List.take 2 (List.drop (0 + k * 2) (spL n w))⟩ := by
 rw [spL_part w h]; rfl
theorem copyI (m : Nat) (L : Nat → Int) : [] ++ List.take (m * 1) (List.drop 0 (ints m L)) = ints m L := by
 rw [List.nil_append, List.drop_zero, List.take_of_length_le (by rw [ints_len]; exact Nat.le_refl _)]
theorem oneI (m : Nat) (L : Nat → Int) : (List.take (m * 1) (List.drop 0 (ints m L))).all one = true := by
 have := copyI m L
 rw [List.nil_append] at this
 rw [this]
 refine List.all_eq_true.2 fun v hv => ?_
 obtain ⟨i, _, hi⟩ := mem_flatC hv
 have hi : v ∈ [I (L i)] := hi
 simp only [List.mem_cons, List.not_mem_nil, or_false] at hi
 subst hi; rfl
theorem grow9i {m : Nat} (L : Nat → Int) (hm : 0 < m) (h5 : m ≤ 5) : (((0 < m) ∧ (0 + m * 1 ≤ (ints m L).length)) ∧ (List.take (m * 1) (List.drop 0 (ints m L))).all one = true) ∧ (¬ m ≤ 0) ∧ ((0 : Nat) = 0) ∧ (m * 8 ≤ 140737488355328) ∧ (m ≤ 4611686018427387904) := ⟨⟨⟨hm, by rw [ints_len]; omega⟩, oneI m L⟩, by omega, rfl, by omega, by omega⟩
theorem same2 (a b : Int) : (!(a == a && (fun c => b == b && c) true)) = false := by simp
theorem same3 (a b c : Int) : (!(a == a && (fun d => b == b && d) ((fun d => c == c && d) true))) = false := by simp
section
variable {n cw cv c1 m cu : Nat} {rw st wh mz : Int} {w v : Nat → Sp} {u x : Nat → Hut} {L K : Nat → Int}
theorem cl9c {a : List Value} {b : List (Nat × Nat)} : ClW ⟨⟨a, b⟩, [tabC, spL n w, spL n v, huL m u, spL n w, huL m u, ints m L, ints m K], []⟩ := by
 refine ⟨fun cs hc => ?_, fun e hc => (by cases hc)⟩
 simp only [List.mem_cons, List.not_mem_nil, or_false] at hc
 rcases hc with rfl | rfl | rfl | rfl | rfl | rfl | rfl | rfl
 · exact tabC_at
 · exact spL_at _ _
 · exact spL_at _ _
 · exact huL_at _ _
 · exact spL_at _ _
 · exact huL_at _ _
 · exact ints_at _ _
 · exact ints_at _ _
theorem loop9c_ (h5 : m ≤ 5) :
    LoopOW Tryd.prog none p9c T9c (h9c rw st mz n cw cv m cu tabC (spL n w) (spL n v) (huL m u) (ints m (negL L 0)) (ints m K) 0) (.exit 4) T9c (h9c rw st mz n cw cv m cu tabC (spL n w) (spL n v) (huL m u) (ints m (negL L m)) (ints m K) m) := by
 refine loop_forW (Ts := [T9c]) (k := 23) (n := m) (e := .exit 4) (st := fun i => (0, h9c rw st mz n cw cv m cu tabC (spL n w) (spL n v) (huL m u) (ints m (negL L i)) (ints m K) i)) rfl vx_sound ?_ (by rw [nglob]; omega) ⟨by simp, trivial⟩ (fun i _ => cl9c) (fun i hi R hR => ?_) (fun R hR => ?_) rfl (Nat.le_of_ble_eq_true rfl) (by decide) rfl
 · intro T hT; simp only [List.mem_singleton] at hT; subst hT; rfl
 · have hw := wrS (i := i) (by omega)
   have hR : R 0 .normal (h9c rw st mz n cw cv m cu tabC (spL n w) (spL n v) (huL m u) (ints m (negL L (i + 1))) (ints m K) (i + 1)) := hR
   unfold h9c at hR
   rw [← hw] at hR
   exact ⟨T9c, _, rfl, (b9c rw st mz n cw cv m cu i w v u (negL L i) (negL L (i + 1)) K tabC R).mpr ⟨tt (decide_eq_true (by omega)), ⟨⟨by omega, by omega⟩, rfl⟩, ⟨by rw [ints_len]; omega, negL_put L hi⟩, hR⟩⟩
 · exact ⟨T9c, _, rfl, (b9cx rw st mz n cw cv m cu m w v u (negL L m) L K tabC R).mpr ⟨tf (decide_eq_false (by omega)), hR⟩⟩
theorem loop9c (h5 : m ≤ 5) :
    LoopOW Tryd.prog none p9c T9c (h9c rw st mz n cw cv m cu tabC (spL n w) (spL n v) (huL m u) (ints m L) (ints m K) 0) (.exit 4) T9c (h9c rw st mz n cw cv m cu tabC (spL n w) (spL n v) (huL m u) (ints m (negL L m)) (ints m K) m) := by
 have h := loop9c_ (rw := rw) (st := st) (mz := mz) (n := n) (cw := cw) (cv := cv) (cu := cu) (w := w) (v := v) (u := u) (L := L) (K := K) h5
 rw [negL_0] at h
 exact h
theorem cl9d {a : List Value} {b : List (Nat × Nat)} : ClW ⟨⟨a, b⟩, [tabC, spL n w, spL n v, huL m u, spL n w, huL m u], []⟩ := by
 refine ⟨fun cs hc => ?_, fun e hc => (by cases hc)⟩
 simp only [List.mem_cons, List.not_mem_nil, or_false] at hc
 rcases hc with rfl | rfl | rfl | rfl | rfl | rfl
 · exact tabC_at
 · exact spL_at _ _
 · exact spL_at _ _
 · exact huL_at _ _
 · exact spL_at _ _
 · exact huL_at _ _
theorem loop9d (h8 : n ≤ 8) :
    LoopOW Tryd.prog none p9d T9d (h9d rw st n cw cv m cu tabC (spL n w) (spL n v) (huL m u) 0) (.exit 6) T9d (h9d rw st n cw cv m cu tabC (spL n w) (spL n v) (huL m u) n) := by
 refine loop_forW (Ts := [T9d]) (k := 24) (n := n) (e := .exit 6) (st := fun i => (0, h9d rw st n cw cv m cu tabC (spL n w) (spL n v) (huL m u) i)) rfl vx_sound ?_ (by rw [nglob]; omega) ⟨by simp, trivial⟩ (fun i _ => cl9d) (fun i hi R hR => ?_) (fun R hR => ?_) rfl (Nat.le_of_ble_eq_true rfl) (by decide) rfl
 · intro T hT; simp only [List.mem_singleton] at hT; subst hT; rfl
 · have hw := wrS (i := i) (by omega)
   have hR : R 0 .normal (h9d rw st n cw cv m cu tabC (spL n w) (spL n v) (huL m u) (i + 1)) := hR
   unfold h9d at hR
   rw [← hw] at hR
   have lc : 0 + i * 2 + 2 ≤ (spL n w).length := by rw [spL_len]; omega
   exact ⟨T9d, _, rfl, (b9d rw st n cw cv m cu i w v u tabC R).mpr ⟨tt (decide_eq_true (by omega)), ⟨⟨by omega, by omega⟩, rfl⟩, ⟨lc, cellS hi⟩, ⟨⟨by omega, by omega⟩, rfl⟩, ⟨lc, cellS hi⟩, fun h => absurd (h.symm.trans (same2 _ _)) (by decide), fun _ => hR⟩⟩
 · exact ⟨T9d, _, rfl, (b9dx rw st n cw cv m cu n w v u tabC R).mpr ⟨tf (decide_eq_false (by omega)), hR⟩⟩
theorem cl9e {a : List Value} {b : List (Nat × Nat)} : ClW ⟨⟨a, b⟩, [tabC, spL n w, spL n v, huL m u, huL m u], []⟩ := by
 refine ⟨fun cs hc => ?_, fun e hc => (by cases hc)⟩
 simp only [List.mem_cons, List.not_mem_nil, or_false] at hc
 rcases hc with rfl | rfl | rfl | rfl | rfl
 · exact tabC_at
 · exact spL_at _ _
 · exact spL_at _ _
 · exact huL_at _ _
 · exact huL_at _ _
theorem loop9e (h5 : m ≤ 5) :
    LoopOW Tryd.prog none p9e T9e (h9e rw st n cw cv m cu tabC (spL n w) (spL n v) (huL m u) 0) (.exit 8) T9e (h9e rw st n cw cv m cu tabC (spL n w) (spL n v) (huL m u) m) := by
 refine loop_forW (Ts := [T9e]) (k := 24) (n := m) (e := .exit 8) (st := fun i => (0, h9e rw st n cw cv m cu tabC (spL n w) (spL n v) (huL m u) i)) rfl vx_sound ?_ (by rw [nglob]; omega) ⟨by simp, trivial⟩ (fun i _ => cl9e) (fun i hi R hR => ?_) (fun R hR => ?_) rfl (Nat.le_of_ble_eq_true rfl) (by decide) rfl
 · intro T hT; simp only [List.mem_singleton] at hT; subst hT; rfl
 · have hw := wrS (i := i) (by omega)
   have hR : R 0 .normal (h9e rw st n cw cv m cu tabC (spL n w) (spL n v) (huL m u) (i + 1)) := hR
   unfold h9e at hR
   rw [← hw] at hR
   have lc : 0 + i * 3 + 3 ≤ (huL m u).length := by rw [huL_len]; omega
   exact ⟨T9e, _, rfl, (b9e rw st n cw cv m cu i w v u tabC R).mpr ⟨tt (decide_eq_true (by omega)), ⟨⟨by omega, by omega⟩, rfl⟩, ⟨lc, cell9 hi⟩, ⟨⟨by omega, by omega⟩, rfl⟩, ⟨lc, cell9 hi⟩, fun h => absurd (h.symm.trans (same3 _ _ _)) (by decide), fun _ => hR⟩⟩
 · exact ⟨T9e, _, rfl, (b9ex rw st n cw cv m cu m w v u tabC R).mpr ⟨tf (decide_eq_false (by omega)), hR⟩⟩
theorem cl9bz {a : List Value} {b : List (Nat × Nat)} : ClW ⟨⟨a, b⟩, [tabC, spL 0 w, spL 0 v, huL m u, huL m x, huL m u, ints m L], []⟩ := by
 refine ⟨fun cs hc => ?_, fun e hc => (by cases hc)⟩
 simp only [List.mem_cons, List.not_mem_nil, or_false] at hc
 rcases hc with rfl | rfl | rfl | rfl | rfl | rfl | rfl
 · exact tabC_at
 · exact spL_at _ _
 · exact spL_at _ _
 · exact huL_at _ _
 · exact huL_at _ _
 · exact huL_at _ _
 · exact ints_at _ _
theorem loop9bz (hS : SOK rw st 0 w v) (hU : HUK rw m u) :
    LoopOW Tryd.prog none p9b T9bz (h9bz rw st wh mz cw cv m cu tabC (spL 0 w) (spL 0 v) (huL m u) (huL m (revH m u)) (ints m L) 0) (.exit 2) T9bz (h9bz rw st wh mz cw cv m cu tabC (spL 0 w) (spL 0 v) (huL m u) (huL m (revH m u)) (ints m L) m) := by
 have h5 := hU.m5
 refine loop_forW (Ts := [T9bz]) (k := 15) (n := m) (e := .exit 2) (st := fun i => (0, h9bz rw st wh mz cw cv m cu tabC (spL 0 w) (spL 0 v) (huL m u) (huL m (revH m u)) (ints m L) i)) rfl vx_sound ?_ (by rw [nglob]; omega) ⟨by simp, trivial⟩ (fun i _ => cl9bz) (fun i hi R hR => ?_) (fun R hR => ?_) rfl (Nat.le_of_ble_eq_true rfl) (by decide) rfl
 · intro T hT; simp only [List.mem_singleton] at hT; subst hT; rfl
 · have hw := wrS (i := i) (by omega)
   have e := jx_eq h5 hi
   have hk : m - 1 - i < m := by omega
   have er : revH m u (m - 1 - i) = u i := congrArg u (by omega)
   have c14 := C14_ok (cw := cw) (cv := cv) (cu := cu) hS hU hi
   have x14 := C14_ok (cw := cw) (cv := cv) (cu := m) hS (rev_ok hU) hk
   have c23 := C23_ok (cw := cw) (cv := cv) (cu := cu) hS hU hi
   have x23 := C23_ok (cw := cw) (cv := cv) (cu := m) hS (rev_ok hU) hk
   have c24 := C24_ok (cw := cw) (cv := cv) (cu := cu) hS hU hi
   have x24 := C24_ok (cw := cw) (cv := cv) (cu := m) hS (rev_ok hU) hk
   rw [er] at x14 x23 x24
   have hR : R 0 .normal (h9bz rw st wh mz cw cv m cu tabC (spL 0 w) (spL 0 v) (huL m u) (huL m (revH m u)) (ints m L) (i + 1)) := hR
   unfold h9bz at hR
   rw [← hw] at hR
   have lt : decide ((i : Int) < (m : Int)) = true := decide_eq_true (by omega)
   have ne : ∀ z : Int, (z != z) = false := fun z => bne_self_eq_false z
   refine ⟨T9bz, _, rfl, (b9bzy rw st wh mz cw cv m cu i (surH st w v 0 (u i) : Nat) (perH st w v 0 (u i) : Nat) (brkH st w v 0 (u i) : Nat) (floH st w v 0 (u i) : Nat) w v u (revH m u) L L L tabC R).mpr ?_⟩
   rw [e]
   exact ⟨tt lt, c14, rfl, x14, rfl, c23, rfl, x23, rfl, c24, rfl, x24, rfl, tf (ne _), tf (ne _), tf (ne _), tf (ne _), hR⟩
 · exact ⟨T9bz, _, rfl, (b9bzx rw st wh mz cw cv m cu m 0 0 0 0 w v u (revH m u) L L L tabC R).mpr ⟨tf (decide_eq_false (by omega)), hR⟩⟩
theorem cl9cz {a : List Value} {b : List (Nat × Nat)} : ClW ⟨⟨a, b⟩, [tabC, spL 0 w, spL 0 v, huL m u, huL m u, ints m L, ints m K], []⟩ := by
 refine ⟨fun cs hc => ?_, fun e hc => (by cases hc)⟩
 simp only [List.mem_cons, List.not_mem_nil, or_false] at hc
 rcases hc with rfl | rfl | rfl | rfl | rfl | rfl | rfl
 · exact tabC_at
 · exact spL_at _ _
 · exact spL_at _ _
 · exact huL_at _ _
 · exact huL_at _ _
 · exact ints_at _ _
 · exact ints_at _ _
theorem loop9cz_ (h5 : m ≤ 5) :
    LoopOW Tryd.prog none p9c T9cz (h9cz rw st mz cw cv m cu tabC (spL 0 w) (spL 0 v) (huL m u) (ints m (negL L 0)) (ints m K) 0) (.exit 4) T9cz (h9cz rw st mz cw cv m cu tabC (spL 0 w) (spL 0 v) (huL m u) (ints m (negL L m)) (ints m K) m) := by
 refine loop_forW (Ts := [T9cz]) (k := 22) (n := m) (e := .exit 4) (st := fun i => (0, h9cz rw st mz cw cv m cu tabC (spL 0 w) (spL 0 v) (huL m u) (ints m (negL L i)) (ints m K) i)) rfl vx_sound ?_ (by rw [nglob]; omega) ⟨by simp, trivial⟩ (fun i _ => cl9cz) (fun i hi R hR => ?_) (fun R hR => ?_) rfl (Nat.le_of_ble_eq_true rfl) (by decide) rfl
 · intro T hT; simp only [List.mem_singleton] at hT; subst hT; rfl
 · have hw := wrS (i := i) (by omega)
   have hR : R 0 .normal (h9cz rw st mz cw cv m cu tabC (spL 0 w) (spL 0 v) (huL m u) (ints m (negL L (i + 1))) (ints m K) (i + 1)) := hR
   unfold h9cz at hR
   rw [← hw] at hR
   exact ⟨T9cz, _, rfl, (b9czy rw st 0 mz cw cv m cu i 0 0 0 0 w v u u (negL L i) (negL L (i + 1)) K tabC R).mpr ⟨tt (decide_eq_true (by omega)), ⟨⟨by omega, by omega⟩, rfl⟩, ⟨by rw [ints_len]; omega, negL_put L hi⟩, hR⟩⟩
 · exact ⟨T9cz, _, rfl, (b9czx rw st 0 mz cw cv m cu m 0 0 0 0 w v u u (negL L m) L K tabC R).mpr ⟨tf (decide_eq_false (by omega)), hR⟩⟩
theorem loop9cz (h5 : m ≤ 5) :
    LoopOW Tryd.prog none p9c T9cz (h9cz rw st mz cw cv m cu tabC (spL 0 w) (spL 0 v) (huL m u) (ints m L) (ints m K) 0) (.exit 4) T9cz (h9cz rw st mz cw cv m cu tabC (spL 0 w) (spL 0 v) (huL m u) (ints m (negL L m)) (ints m K) m) := by
 have h := loop9cz_ (rw := rw) (st := st) (mz := mz) (cw := cw) (cv := cv) (cu := cu) (w := w) (v := v) (u := u) (L := L) (K := K) h5
 rw [negL_0] at h
 exact h
theorem cl9ez {a : List Value} {b : List (Nat × Nat)} : ClW ⟨⟨a, b⟩, [tabC, spL 0 w, spL 0 v, huL m u, huL m u], []⟩ := by
 refine ⟨fun cs hc => ?_, fun e hc => (by cases hc)⟩
 simp only [List.mem_cons, List.not_mem_nil, or_false] at hc
 rcases hc with rfl | rfl | rfl | rfl | rfl
 · exact tabC_at
 · exact spL_at _ _
 · exact spL_at _ _
 · exact huL_at _ _
 · exact huL_at _ _
theorem loop9ez (h5 : m ≤ 5) :
    LoopOW Tryd.prog none p9e T9ez (h9ez rw st cw cv m cu tabC (spL 0 w) (spL 0 v) (huL m u) 0) (.exit 8) T9ez (h9ez rw st cw cv m cu tabC (spL 0 w) (spL 0 v) (huL m u) m) := by
 refine loop_forW (Ts := [T9ez]) (k := 23) (n := m) (e := .exit 8) (st := fun i => (0, h9ez rw st cw cv m cu tabC (spL 0 w) (spL 0 v) (huL m u) i)) rfl vx_sound ?_ (by rw [nglob]; omega) ⟨by simp, trivial⟩ (fun i _ => cl9ez) (fun i hi R hR => ?_) (fun R hR => ?_) rfl (Nat.le_of_ble_eq_true rfl) (by decide) rfl
 · intro T hT; simp only [List.mem_singleton] at hT; subst hT; rfl
 · have hw := wrS (i := i) (by omega)
   have hR : R 0 .normal (h9ez rw st cw cv m cu tabC (spL 0 w) (spL 0 v) (huL m u) (i + 1)) := hR
   unfold h9ez at hR
   rw [← hw] at hR
   have lc : 0 + i * 3 + 3 ≤ (huL m u).length := by rw [huL_len]; omega
   exact ⟨T9ez, _, rfl, (b9ezy rw st 0 0 cw cv m cu i 0 0 0 0 w v u u (fun _ => 0) (fun _ => 0) (fun _ => 0) tabC R).mpr ⟨tt (decide_eq_true (by omega)), ⟨⟨by omega, by omega⟩, rfl⟩, ⟨lc, cell9 hi⟩, ⟨⟨by omega, by omega⟩, rfl⟩, ⟨lc, cell9 hi⟩, fun h => absurd (h.symm.trans (same3 _ _ _)) (by decide), fun _ => hR⟩⟩
 · exact ⟨T9ez, _, rfl, (b9ezx rw st 0 0 cw cv m cu m 0 0 0 0 w v u u (fun _ => 0) (fun _ => 0) (fun _ => 0) tabC R).mpr ⟨tf (decide_eq_false (by omega)), hR⟩⟩
theorem cl9bn {a : List Value} {b : List (Nat × Nat)} : ClW ⟨⟨a, b⟩, [tabC, huL m u, huL m x, huL m u, ints m L], []⟩ := by
 refine ⟨fun cs hc => ?_, fun e hc => (by cases hc)⟩
 simp only [List.mem_cons, List.not_mem_nil, or_false] at hc
 rcases hc with rfl | rfl | rfl | rfl | rfl
 · exact tabC_at
 · exact huL_at _ _
 · exact huL_at _ _
 · exact huL_at _ _
 · exact ints_at _ _
theorem loop9bn (hrw : 1 ≤ rw ∧ rw ≤ 6) (hst : 0 ≤ st ∧ st ≤ 4) (hU : HUK rw m u) :
    LoopOW Tryd.prog none p9b T9bn (h9bn rw st wh mz c1 m cu tabC (huL m u) (huL m (revH m u)) (ints m L) 0) (.exit 2) T9bn (h9bn rw st wh mz c1 m cu tabC (huL m u) (huL m (revH m u)) (ints m L) m) := by
 have h5 := hU.m5
 refine loop_forW (Ts := [T9bn]) (k := 15) (n := m) (e := .exit 2) (st := fun i => (0, h9bn rw st wh mz c1 m cu tabC (huL m u) (huL m (revH m u)) (ints m L) i)) rfl vx_sound ?_ (by rw [nglob]; omega) ⟨by simp, trivial⟩ (fun i _ => cl9bn) (fun i hi R hR => ?_) (fun R hR => ?_) rfl (Nat.le_of_ble_eq_true rfl) (by decide) rfl
 · intro T hT; simp only [List.mem_singleton] at hT; subst hT; rfl
 · have hw := wrS (i := i) (by omega)
   have e := jx_eq h5 hi
   have hk : m - 1 - i < m := by omega
   have er : revH m u (m - 1 - i) = u i := congrArg u (by omega)
   have c14 := C14n_ok (st := st) (c1 := c1) (cu := cu) hrw hst hU hi
   have x14 := C14n_ok (st := st) (c1 := c1) (cu := m) hrw hst (rev_ok hU) hk
   have c23 := C23n_ok (st := st) (c1 := c1) (cu := cu) hrw hst hU hi
   have x23 := C23n_ok (st := st) (c1 := c1) (cu := m) hrw hst (rev_ok hU) hk
   have c24 := C24n_ok (st := st) (c1 := c1) (cu := cu) hrw hst hU hi
   have x24 := C24n_ok (st := st) (c1 := c1) (cu := m) hrw hst (rev_ok hU) hk
   have hR : R 0 .normal (h9bn rw st wh mz c1 m cu tabC (huL m u) (huL m (revH m u)) (ints m L) (i + 1)) := hR
   unfold h9bn at hR
   rw [← hw] at hR
   have lt : decide ((i : Int) < (m : Int)) = true := decide_eq_true (by omega)
   have ne : ∀ z : Int, (z != z) = false := fun z => bne_self_eq_false z
   refine ⟨T9bn, _, rfl, (b9bny rw st wh mz c1 m cu i 0 0 0 0 u (revH m u) L L L tabC R).mpr ?_⟩
   rw [e]
   exact ⟨tt lt, c14, rfl, x14, rfl, c23, rfl, x23, rfl, c24, rfl, x24, rfl, tf (ne _), tf (ne _), tf (ne _), tf (ne _), hR⟩
 · exact ⟨T9bn, _, rfl, (b9bnx rw st wh mz c1 m cu m 0 0 0 0 u (revH m u) L L L tabC R).mpr ⟨tf (decide_eq_false (by omega)), hR⟩⟩
theorem cl9cn {a : List Value} {b : List (Nat × Nat)} : ClW ⟨⟨a, b⟩, [tabC, huL m u, huL m u, ints m L, ints m K], []⟩ := by
 refine ⟨fun cs hc => ?_, fun e hc => (by cases hc)⟩
 simp only [List.mem_cons, List.not_mem_nil, or_false] at hc
 rcases hc with rfl | rfl | rfl | rfl | rfl
 · exact tabC_at
 · exact huL_at _ _
 · exact huL_at _ _
 · exact ints_at _ _
 · exact ints_at _ _
theorem loop9cn_ (h5 : m ≤ 5) :
    LoopOW Tryd.prog none p9c T9cn (h9cn rw st mz c1 m cu tabC (huL m u) (ints m (negL L 0)) (ints m K) 0) (.exit 4) T9cn (h9cn rw st mz c1 m cu tabC (huL m u) (ints m (negL L m)) (ints m K) m) := by
 refine loop_forW (Ts := [T9cn]) (k := 22) (n := m) (e := .exit 4) (st := fun i => (0, h9cn rw st mz c1 m cu tabC (huL m u) (ints m (negL L i)) (ints m K) i)) rfl vx_sound ?_ (by rw [nglob]; omega) ⟨by simp, trivial⟩ (fun i _ => cl9cn) (fun i hi R hR => ?_) (fun R hR => ?_) rfl (Nat.le_of_ble_eq_true rfl) (by decide) rfl
 · intro T hT; simp only [List.mem_singleton] at hT; subst hT; rfl
 · have hw := wrS (i := i) (by omega)
   have hR : R 0 .normal (h9cn rw st mz c1 m cu tabC (huL m u) (ints m (negL L (i + 1))) (ints m K) (i + 1)) := hR
   unfold h9cn at hR
   rw [← hw] at hR
   exact ⟨T9cn, _, rfl, (b9cny rw st 0 mz c1 m cu i 0 0 0 0 u u (negL L i) (negL L (i + 1)) K tabC R).mpr ⟨tt (decide_eq_true (by omega)), ⟨⟨by omega, by omega⟩, rfl⟩, ⟨by rw [ints_len]; omega, negL_put L hi⟩, hR⟩⟩
 · exact ⟨T9cn, _, rfl, (b9cnx rw st 0 mz c1 m cu m 0 0 0 0 u u (negL L m) L K tabC R).mpr ⟨tf (decide_eq_false (by omega)), hR⟩⟩
theorem loop9cn (h5 : m ≤ 5) :
    LoopOW Tryd.prog none p9c T9cn (h9cn rw st mz c1 m cu tabC (huL m u) (ints m L) (ints m K) 0) (.exit 4) T9cn (h9cn rw st mz c1 m cu tabC (huL m u) (ints m (negL L m)) (ints m K) m) := by
 have h := loop9cn_ (rw := rw) (st := st) (mz := mz) (c1 := c1) (cu := cu) (u := u) (L := L) (K := K) h5
 rw [negL_0] at h
 exact h
theorem cl9en {a : List Value} {b : List (Nat × Nat)} : ClW ⟨⟨a, b⟩, [tabC, huL m u, huL m u], []⟩ := by
 refine ⟨fun cs hc => ?_, fun e hc => (by cases hc)⟩
 simp only [List.mem_cons, List.not_mem_nil, or_false] at hc
 rcases hc with rfl | rfl | rfl
 · exact tabC_at
 · exact huL_at _ _
 · exact huL_at _ _
theorem loop9en (h5 : m ≤ 5) :
    LoopOW Tryd.prog none p9e T9en (h9en rw st c1 m cu tabC (huL m u) 0) (.exit 8) T9en (h9en rw st c1 m cu tabC (huL m u) m) := by
 refine loop_forW (Ts := [T9en]) (k := 23) (n := m) (e := .exit 8) (st := fun i => (0, h9en rw st c1 m cu tabC (huL m u) i)) rfl vx_sound ?_ (by rw [nglob]; omega) ⟨by simp, trivial⟩ (fun i _ => cl9en) (fun i hi R hR => ?_) (fun R hR => ?_) rfl (Nat.le_of_ble_eq_true rfl) (by decide) rfl
 · intro T hT; simp only [List.mem_singleton] at hT; subst hT; rfl
 · have hw := wrS (i := i) (by omega)
   have hR : R 0 .normal (h9en rw st c1 m cu tabC (huL m u) (i + 1)) := hR
   unfold h9en at hR
   rw [← hw] at hR
   have lc : 0 + i * 3 + 3 ≤ (huL m u).length := by rw [huL_len]; omega
   exact ⟨T9en, _, rfl, (b9eny rw st 0 0 c1 m cu i 0 0 0 0 u u (fun _ => 0) (fun _ => 0) (fun _ => 0) tabC R).mpr ⟨tt (decide_eq_true (by omega)), ⟨⟨by omega, by omega⟩, rfl⟩, ⟨lc, cell9 hi⟩, ⟨⟨by omega, by omega⟩, rfl⟩, ⟨lc, cell9 hi⟩, fun h => absurd (h.symm.trans (same3 _ _ _)) (by decide), fun _ => hR⟩⟩
 · exact ⟨T9en, _, rfl, (b9enx rw st 0 0 c1 m cu m 0 0 0 0 u u (fun _ => 0) (fun _ => 0) (fun _ => 0) tabC R).mpr ⟨tf (decide_eq_false (by omega)), hR⟩⟩
theorem cl9bv {a : List Value} {b : List (Nat × Nat)} : ClW ⟨⟨a, b⟩, [tabC, huL m u, huL m x, huL m u, ints m L], []⟩ := by
 refine ⟨fun cs hc => ?_, fun e hc => (by cases hc)⟩
 simp only [List.mem_cons, List.not_mem_nil, or_false] at hc
 rcases hc with rfl | rfl | rfl | rfl | rfl
 · exact tabC_at
 · exact huL_at _ _
 · exact huL_at _ _
 · exact huL_at _ _
 · exact ints_at _ _
theorem loop9bv (hrw : 1 ≤ rw ∧ rw ≤ 6) (hst : 0 ≤ st ∧ st ≤ 4) (hU : HUK rw m u) :
    LoopOW Tryd.prog none p9b T9bv (h9bv rw st wh mz c1 m cu tabC (huL m u) (huL m (revH m u)) (ints m L) 0) (.exit 2) T9bv (h9bv rw st wh mz c1 m cu tabC (huL m u) (huL m (revH m u)) (ints m L) m) := by
 have h5 := hU.m5
 refine loop_forW (Ts := [T9bv]) (k := 15) (n := m) (e := .exit 2) (st := fun i => (0, h9bv rw st wh mz c1 m cu tabC (huL m u) (huL m (revH m u)) (ints m L) i)) rfl vx_sound ?_ (by rw [nglob]; omega) ⟨by simp, trivial⟩ (fun i _ => cl9bv) (fun i hi R hR => ?_) (fun R hR => ?_) rfl (Nat.le_of_ble_eq_true rfl) (by decide) rfl
 · intro T hT; simp only [List.mem_singleton] at hT; subst hT; rfl
 · have hw := wrS (i := i) (by omega)
   have e := jx_eq h5 hi
   have hk : m - 1 - i < m := by omega
   have er : revH m u (m - 1 - i) = u i := congrArg u (by omega)
   have c14 := C14v_ok (st := st) (c1 := c1) (cu := cu) hrw hst hU hi
   have x14 := C14v_ok (st := st) (c1 := c1) (cu := m) hrw hst (rev_ok hU) hk
   have c23 := C23v_ok (st := st) (c1 := c1) (cu := cu) hrw hst hU hi
   have x23 := C23v_ok (st := st) (c1 := c1) (cu := m) hrw hst (rev_ok hU) hk
   have c24 := C24v_ok (st := st) (c1 := c1) (cu := cu) hrw hst hU hi
   have x24 := C24v_ok (st := st) (c1 := c1) (cu := m) hrw hst (rev_ok hU) hk
   have hR : R 0 .normal (h9bv rw st wh mz c1 m cu tabC (huL m u) (huL m (revH m u)) (ints m L) (i + 1)) := hR
   unfold h9bv at hR
   rw [← hw] at hR
   have lt : decide ((i : Int) < (m : Int)) = true := decide_eq_true (by omega)
   have ne : ∀ z : Int, (z != z) = false := fun z => bne_self_eq_false z
   refine ⟨T9bv, _, rfl, (b9bvy rw st wh mz c1 m cu i 0 0 0 0 u (revH m u) L L L tabC R).mpr ?_⟩
   rw [e]
   exact ⟨tt lt, c14, rfl, x14, rfl, c23, rfl, x23, rfl, c24, rfl, x24, rfl, tf (ne _), tf (ne _), tf (ne _), tf (ne _), hR⟩
 · exact ⟨T9bv, _, rfl, (b9bvx rw st wh mz c1 m cu m 0 0 0 0 u (revH m u) L L L tabC R).mpr ⟨tf (decide_eq_false (by omega)), hR⟩⟩
theorem cl9cv {a : List Value} {b : List (Nat × Nat)} : ClW ⟨⟨a, b⟩, [tabC, huL m u, huL m u, ints m L, ints m K], []⟩ := by
 refine ⟨fun cs hc => ?_, fun e hc => (by cases hc)⟩
 simp only [List.mem_cons, List.not_mem_nil, or_false] at hc
 rcases hc with rfl | rfl | rfl | rfl | rfl
 · exact tabC_at
 · exact huL_at _ _
 · exact huL_at _ _
 · exact ints_at _ _
 · exact ints_at _ _
theorem loop9cv_ (h5 : m ≤ 5) :
    LoopOW Tryd.prog none p9c T9cv (h9cv rw st mz c1 m cu tabC (huL m u) (ints m (negL L 0)) (ints m K) 0) (.exit 4) T9cv (h9cv rw st mz c1 m cu tabC (huL m u) (ints m (negL L m)) (ints m K) m) := by
 refine loop_forW (Ts := [T9cv]) (k := 22) (n := m) (e := .exit 4) (st := fun i => (0, h9cv rw st mz c1 m cu tabC (huL m u) (ints m (negL L i)) (ints m K) i)) rfl vx_sound ?_ (by rw [nglob]; omega) ⟨by simp, trivial⟩ (fun i _ => cl9cv) (fun i hi R hR => ?_) (fun R hR => ?_) rfl (Nat.le_of_ble_eq_true rfl) (by decide) rfl
 · intro T hT; simp only [List.mem_singleton] at hT; subst hT; rfl
 · have hw := wrS (i := i) (by omega)
   have hR : R 0 .normal (h9cv rw st mz c1 m cu tabC (huL m u) (ints m (negL L (i + 1))) (ints m K) (i + 1)) := hR
   unfold h9cv at hR
   rw [← hw] at hR
   exact ⟨T9cv, _, rfl, (b9cvy rw st 0 mz c1 m cu i 0 0 0 0 u u (negL L i) (negL L (i + 1)) K tabC R).mpr ⟨tt (decide_eq_true (by omega)), ⟨⟨by omega, by omega⟩, rfl⟩, ⟨by rw [ints_len]; omega, negL_put L hi⟩, hR⟩⟩
 · exact ⟨T9cv, _, rfl, (b9cvx rw st 0 mz c1 m cu m 0 0 0 0 u u (negL L m) L K tabC R).mpr ⟨tf (decide_eq_false (by omega)), hR⟩⟩
theorem loop9cv (h5 : m ≤ 5) :
    LoopOW Tryd.prog none p9c T9cv (h9cv rw st mz c1 m cu tabC (huL m u) (ints m L) (ints m K) 0) (.exit 4) T9cv (h9cv rw st mz c1 m cu tabC (huL m u) (ints m (negL L m)) (ints m K) m) := by
 have h := loop9cv_ (rw := rw) (st := st) (mz := mz) (c1 := c1) (cu := cu) (u := u) (L := L) (K := K) h5
 rw [negL_0] at h
 exact h
theorem cl9ev {a : List Value} {b : List (Nat × Nat)} : ClW ⟨⟨a, b⟩, [tabC, huL m u, huL m u], []⟩ := by
 refine ⟨fun cs hc => ?_, fun e hc => (by cases hc)⟩
 simp only [List.mem_cons, List.not_mem_nil, or_false] at hc
 rcases hc with rfl | rfl | rfl
 · exact tabC_at
 · exact huL_at _ _
 · exact huL_at _ _
theorem loop9ev (h5 : m ≤ 5) :
    LoopOW Tryd.prog none p9e T9ev (h9ev rw st c1 m cu tabC (huL m u) 0) (.exit 8) T9ev (h9ev rw st c1 m cu tabC (huL m u) m) := by
 refine loop_forW (Ts := [T9ev]) (k := 23) (n := m) (e := .exit 8) (st := fun i => (0, h9ev rw st c1 m cu tabC (huL m u) i)) rfl vx_sound ?_ (by rw [nglob]; omega) ⟨by simp, trivial⟩ (fun i _ => cl9ev) (fun i hi R hR => ?_) (fun R hR => ?_) rfl (Nat.le_of_ble_eq_true rfl) (by decide) rfl
 · intro T hT; simp only [List.mem_singleton] at hT; subst hT; rfl
 · have hw := wrS (i := i) (by omega)
   have hR : R 0 .normal (h9ev rw st c1 m cu tabC (huL m u) (i + 1)) := hR
   unfold h9ev at hR
   rw [← hw] at hR
   have lc : 0 + i * 3 + 3 ≤ (huL m u).length := by rw [huL_len]; omega
   exact ⟨T9ev, _, rfl, (b9evy rw st 0 0 c1 m cu i 0 0 0 0 u u (fun _ => 0) (fun _ => 0) (fun _ => 0) tabC R).mpr ⟨tt (decide_eq_true (by omega)), ⟨⟨by omega, by omega⟩, rfl⟩, ⟨lc, cell9 hi⟩, ⟨⟨by omega, by omega⟩, rfl⟩, ⟨lc, cell9 hi⟩, fun h => absurd (h.symm.trans (same3 _ _ _)) (by decide), fun _ => hR⟩⟩
 · exact ⟨T9ev, _, rfl, (b9evx rw st 0 0 c1 m cu m 0 0 0 0 u u (fun _ => 0) (fun _ => 0) (fun _ => 0) tabC R).mpr ⟨tf (decide_eq_false (by omega)), hR⟩⟩
theorem cl9bw {a : List Value} {b : List (Nat × Nat)} : ClW ⟨⟨a, b⟩, [tabC, huL m u, huL m x, huL m u, ints m L], []⟩ := by
 refine ⟨fun cs hc => ?_, fun e hc => (by cases hc)⟩
 simp only [List.mem_cons, List.not_mem_nil, or_false] at hc
 rcases hc with rfl | rfl | rfl | rfl | rfl
 · exact tabC_at
 · exact huL_at _ _
 · exact huL_at _ _
 · exact huL_at _ _
 · exact ints_at _ _
theorem loop9bw (hrw : 1 ≤ rw ∧ rw ≤ 6) (hst : 0 ≤ st ∧ st ≤ 4) (hU : HUK rw m u) :
    LoopOW Tryd.prog none p9b T9bw (h9bw rw st wh mz c1 m cu tabC (huL m u) (huL m (revH m u)) (ints m L) 0) (.exit 2) T9bw (h9bw rw st wh mz c1 m cu tabC (huL m u) (huL m (revH m u)) (ints m L) m) := by
 have h5 := hU.m5
 refine loop_forW (Ts := [T9bw]) (k := 15) (n := m) (e := .exit 2) (st := fun i => (0, h9bw rw st wh mz c1 m cu tabC (huL m u) (huL m (revH m u)) (ints m L) i)) rfl vx_sound ?_ (by rw [nglob]; omega) ⟨by simp, trivial⟩ (fun i _ => cl9bw) (fun i hi R hR => ?_) (fun R hR => ?_) rfl (Nat.le_of_ble_eq_true rfl) (by decide) rfl
 · intro T hT; simp only [List.mem_singleton] at hT; subst hT; rfl
 · have hw := wrS (i := i) (by omega)
   have e := jx_eq h5 hi
   have hk : m - 1 - i < m := by omega
   have er : revH m u (m - 1 - i) = u i := congrArg u (by omega)
   have c14 := C14w_ok (st := st) (c1 := c1) (cu := cu) hrw hst hU hi
   have x14 := C14w_ok (st := st) (c1 := c1) (cu := m) hrw hst (rev_ok hU) hk
   have c23 := C23w_ok (st := st) (c1 := c1) (cu := cu) hrw hst hU hi
   have x23 := C23w_ok (st := st) (c1 := c1) (cu := m) hrw hst (rev_ok hU) hk
   have c24 := C24w_ok (st := st) (c1 := c1) (cu := cu) hrw hst hU hi
   have x24 := C24w_ok (st := st) (c1 := c1) (cu := m) hrw hst (rev_ok hU) hk
   have hR : R 0 .normal (h9bw rw st wh mz c1 m cu tabC (huL m u) (huL m (revH m u)) (ints m L) (i + 1)) := hR
   unfold h9bw at hR
   rw [← hw] at hR
   have lt : decide ((i : Int) < (m : Int)) = true := decide_eq_true (by omega)
   have ne : ∀ z : Int, (z != z) = false := fun z => bne_self_eq_false z
   refine ⟨T9bw, _, rfl, (b9bwy rw st wh mz c1 m cu i 0 0 0 0 u (revH m u) L L L tabC R).mpr ?_⟩
   rw [e]
   exact ⟨tt lt, c14, rfl, x14, rfl, c23, rfl, x23, rfl, c24, rfl, x24, rfl, tf (ne _), tf (ne _), tf (ne _), tf (ne _), hR⟩
 · exact ⟨T9bw, _, rfl, (b9bwx rw st wh mz c1 m cu m 0 0 0 0 u (revH m u) L L L tabC R).mpr ⟨tf (decide_eq_false (by omega)), hR⟩⟩
theorem cl9cw {a : List Value} {b : List (Nat × Nat)} : ClW ⟨⟨a, b⟩, [tabC, huL m u, huL m u, ints m L, ints m K], []⟩ := by
 refine ⟨fun cs hc => ?_, fun e hc => (by cases hc)⟩
 simp only [List.mem_cons, List.not_mem_nil, or_false] at hc
 rcases hc with rfl | rfl | rfl | rfl | rfl
 · exact tabC_at
 · exact huL_at _ _
 · exact huL_at _ _
 · exact ints_at _ _
 · exact ints_at _ _
theorem loop9cw_ (h5 : m ≤ 5) :
    LoopOW Tryd.prog none p9c T9cw (h9cw rw st mz c1 m cu tabC (huL m u) (ints m (negL L 0)) (ints m K) 0) (.exit 4) T9cw (h9cw rw st mz c1 m cu tabC (huL m u) (ints m (negL L m)) (ints m K) m) := by
 refine loop_forW (Ts := [T9cw]) (k := 22) (n := m) (e := .exit 4) (st := fun i => (0, h9cw rw st mz c1 m cu tabC (huL m u) (ints m (negL L i)) (ints m K) i)) rfl vx_sound ?_ (by rw [nglob]; omega) ⟨by simp, trivial⟩ (fun i _ => cl9cw) (fun i hi R hR => ?_) (fun R hR => ?_) rfl (Nat.le_of_ble_eq_true rfl) (by decide) rfl
 · intro T hT; simp only [List.mem_singleton] at hT; subst hT; rfl
 · have hw := wrS (i := i) (by omega)
   have hR : R 0 .normal (h9cw rw st mz c1 m cu tabC (huL m u) (ints m (negL L (i + 1))) (ints m K) (i + 1)) := hR
   unfold h9cw at hR
   rw [← hw] at hR
   exact ⟨T9cw, _, rfl, (b9cwy rw st 0 mz c1 m cu i 0 0 0 0 u u (negL L i) (negL L (i + 1)) K tabC R).mpr ⟨tt (decide_eq_true (by omega)), ⟨⟨by omega, by omega⟩, rfl⟩, ⟨by rw [ints_len]; omega, negL_put L hi⟩, hR⟩⟩
 · exact ⟨T9cw, _, rfl, (b9cwx rw st 0 mz c1 m cu m 0 0 0 0 u u (negL L m) L K tabC R).mpr ⟨tf (decide_eq_false (by omega)), hR⟩⟩
theorem loop9cw (h5 : m ≤ 5) :
    LoopOW Tryd.prog none p9c T9cw (h9cw rw st mz c1 m cu tabC (huL m u) (ints m L) (ints m K) 0) (.exit 4) T9cw (h9cw rw st mz c1 m cu tabC (huL m u) (ints m (negL L m)) (ints m K) m) := by
 have h := loop9cw_ (rw := rw) (st := st) (mz := mz) (c1 := c1) (cu := cu) (u := u) (L := L) (K := K) h5
 rw [negL_0] at h
 exact h
theorem cl9ew {a : List Value} {b : List (Nat × Nat)} : ClW ⟨⟨a, b⟩, [tabC, huL m u, huL m u], []⟩ := by
 refine ⟨fun cs hc => ?_, fun e hc => (by cases hc)⟩
 simp only [List.mem_cons, List.not_mem_nil, or_false] at hc
 rcases hc with rfl | rfl | rfl
 · exact tabC_at
 · exact huL_at _ _
 · exact huL_at _ _
theorem loop9ew (h5 : m ≤ 5) :
    LoopOW Tryd.prog none p9e T9ew (h9ew rw st c1 m cu tabC (huL m u) 0) (.exit 8) T9ew (h9ew rw st c1 m cu tabC (huL m u) m) := by
 refine loop_forW (Ts := [T9ew]) (k := 23) (n := m) (e := .exit 8) (st := fun i => (0, h9ew rw st c1 m cu tabC (huL m u) i)) rfl vx_sound ?_ (by rw [nglob]; omega) ⟨by simp, trivial⟩ (fun i _ => cl9ew) (fun i hi R hR => ?_) (fun R hR => ?_) rfl (Nat.le_of_ble_eq_true rfl) (by decide) rfl
 · intro T hT; simp only [List.mem_singleton] at hT; subst hT; rfl
 · have hw := wrS (i := i) (by omega)
   have hR : R 0 .normal (h9ew rw st c1 m cu tabC (huL m u) (i + 1)) := hR
   unfold h9ew at hR
   rw [← hw] at hR
   have lc : 0 + i * 3 + 3 ≤ (huL m u).length := by rw [huL_len]; omega
   exact ⟨T9ew, _, rfl, (b9ewy rw st 0 0 c1 m cu i 0 0 0 0 u u (fun _ => 0) (fun _ => 0) (fun _ => 0) tabC R).mpr ⟨tt (decide_eq_true (by omega)), ⟨⟨by omega, by omega⟩, rfl⟩, ⟨lc, cell9 hi⟩, ⟨⟨by omega, by omega⟩, rfl⟩, ⟨lc, cell9 hi⟩, fun h => absurd (h.symm.trans (same3 _ _ _)) (by decide), fun _ => hR⟩⟩
 · exact ⟨T9ew, _, rfl, (b9ewx rw st 0 0 c1 m cu m 0 0 0 0 u u (fun _ => 0) (fun _ => 0) (fun _ => 0) tabC R).mpr ⟨tf (decide_eq_false (by omega)), hR⟩⟩
theorem cl9nz {a : List Value} {b : List (Nat × Nat)} : ClW ⟨⟨a, b⟩, [tabC, huL m u], []⟩ := by
 refine ⟨fun cs hc => ?_, fun e hc => (by cases hc)⟩
 simp only [List.mem_cons, List.not_mem_nil, or_false] at hc
 rcases hc with rfl | rfl
 · exact tabC_at
 · exact huL_at _ _
end
section
variable {rw st wh mz : Int} {c1 m cu : Nat} {u : Nat → Hut}
noncomputable def st9an (rw st wh mz : Int) (c1 m cu : Nat) (u : Nat → Hut) : Nat → Nat × Hw
 | 0 => (0, h9nn rw st wh mz c1 m cu tabC (huL m u))
 | i + 1 => (1, h9ln rw st wh mz c1 m cu (i + 1) (i + 1) tabC (huL m u) (huL (i + 1) (revH m u)))
theorem cl9an (i : Nat) : ClW (st9an rw st wh mz c1 m cu u i).2 := by
 cases i with
 | zero => exact cl9nz
 | succ i =>
  refine ⟨fun cs hc => ?_, fun e hc => (by cases hc)⟩
  replace hc : cs ∈ [tabC, huL m u, huL (i + 1) (revH m u)] := hc
  simp only [List.mem_cons, List.not_mem_nil, or_false] at hc
  rcases hc with rfl | rfl | rfl
  · exact tabC_at
  · exact huL_at _ _
  · exact huL_at _ _
theorem loop9an_ (h5 : m + 1 ≤ 5) :
    LoopOW Tryd.prog none p9a T9nn (h9nn rw st wh mz c1 (m + 1) cu tabC (huL (m + 1) u)) (.exit 0) T9ln (h9ln rw st wh mz c1 (m + 1) cu (m + 1) (m + 1) tabC (huL (m + 1) u) (huL (m + 1) (revH (m + 1) u))) := by
 have hlen := huL_len (m + 1) u
 refine loop_forW (Ts := [T9nn, T9ln]) (k := 9) (n := m + 1) (e := .exit 0) (st := st9an rw st wh mz c1 (m + 1) cu u) rfl vx_sound ?_ (by rw [nglob]; omega) ⟨by simp, trivial⟩ (fun i _ => cl9an i) (fun i hi R hR => ?_) (fun R hR => ?_) rfl (Nat.le_of_ble_eq_true rfl) (by decide) rfl
 · intro T hT; simp only [List.mem_cons, List.not_mem_nil, or_false] at hT; rcases hT with rfl | rfl <;> rfl
 · have e := jx_eq h5 hi
   have hk : m + 1 - 1 - i < m + 1 := by omega
   have hc := cell9 (u := u) hk
   have lt : decide ((i : Int) < ((m + 1 : Nat) : Int)) = true := decide_eq_true (by omega)
   rcases Nat.eq_zero_or_pos i with h0 | h0
   · subst h0
     refine ⟨T9nn, _, rfl, (b9an0 rw st wh mz c1 (m + 1) cu u (revH (m + 1) u) tabC R).mpr ?_⟩
     rw [show jx (m + 1) 0 = ((m + 1 - 1 - 0 : Nat) : Int) from e, Int.toNat_natCast]
     exact ⟨tt lt, ⟨⟨by omega, by omega⟩, rfl⟩, ⟨by omega, hc⟩, hR⟩
   · obtain ⟨i, rfl⟩ : ∃ k, i = k + 1 := ⟨i - 1, by omega⟩
     refine ⟨T9ln, _, rfl, (g9an rw st wh mz c1 (m + 1) cu (i + 1) u (revH (m + 1) u) tabC R).mpr ?_⟩
     have hw : IntKind.i64.wrap (((i + 1 : Nat) : Int) + 1) = ((i + 1 + 1 : Nat) : Int) := wrapI (by omega) (by omega)
     have hR : R 1 .normal (h9ln rw st wh mz c1 (m + 1) cu (i + 1 + 1) (i + 1 + 1) tabC (huL (m + 1) u) (huL (i + 1 + 1) (revH (m + 1) u))) := hR
     unfold h9ln at hR
     rw [← hw, ← rows9 (i := i + 1) (revH (m + 1) u)] at hR
     rw [e, Int.toNat_natCast]
     exact ⟨tt lt, ⟨⟨by omega, by omega⟩, rfl⟩, ⟨by omega, hc⟩, ⟨by omega, (huL_len _ _).symm, by omega, by omega⟩, hR⟩
 · exact ⟨T9ln, _, rfl, (b9anx rw st wh mz c1 (m + 1) cu (m + 1) (m + 1) u tabC (huL (m + 1) (revH (m + 1) u)) R).mpr ⟨tf (decide_eq_false (by omega)), hR⟩⟩
theorem loop9an (hm : 0 < m) (h5 : m ≤ 5) :
    LoopOW Tryd.prog none p9a T9nn (h9nn rw st wh mz c1 m cu tabC (huL m u)) (.exit 0) T9ln (h9ln rw st wh mz c1 m cu m m tabC (huL m u) (huL m (revH m u))) := by
 obtain ⟨k, rfl⟩ : ∃ k, m = k + 1 := ⟨m - 1, by omega⟩
 exact loop9an_ h5
end
section
variable {rw st wh mz : Int} {c1 m cu : Nat} {u : Nat → Hut}
noncomputable def st9av (rw st wh mz : Int) (c1 m cu : Nat) (u : Nat → Hut) : Nat → Nat × Hw
 | 0 => (0, h9nv rw st wh mz c1 m cu tabC (huL m u))
 | i + 1 => (1, h9lv rw st wh mz c1 m cu (i + 1) (i + 1) tabC (huL m u) (huL (i + 1) (revH m u)))
theorem cl9av (i : Nat) : ClW (st9av rw st wh mz c1 m cu u i).2 := by
 cases i with
 | zero => exact cl9nz
 | succ i =>
  refine ⟨fun cs hc => ?_, fun e hc => (by cases hc)⟩
  replace hc : cs ∈ [tabC, huL m u, huL (i + 1) (revH m u)] := hc
  simp only [List.mem_cons, List.not_mem_nil, or_false] at hc
  rcases hc with rfl | rfl | rfl
  · exact tabC_at
  · exact huL_at _ _
  · exact huL_at _ _
theorem loop9av_ (h5 : m + 1 ≤ 5) :
    LoopOW Tryd.prog none p9a T9nv (h9nv rw st wh mz c1 (m + 1) cu tabC (huL (m + 1) u)) (.exit 0) T9lv (h9lv rw st wh mz c1 (m + 1) cu (m + 1) (m + 1) tabC (huL (m + 1) u) (huL (m + 1) (revH (m + 1) u))) := by
 have hlen := huL_len (m + 1) u
 refine loop_forW (Ts := [T9nv, T9lv]) (k := 9) (n := m + 1) (e := .exit 0) (st := st9av rw st wh mz c1 (m + 1) cu u) rfl vx_sound ?_ (by rw [nglob]; omega) ⟨by simp, trivial⟩ (fun i _ => cl9av i) (fun i hi R hR => ?_) (fun R hR => ?_) rfl (Nat.le_of_ble_eq_true rfl) (by decide) rfl
 · intro T hT; simp only [List.mem_cons, List.not_mem_nil, or_false] at hT; rcases hT with rfl | rfl <;> rfl
 · have e := jx_eq h5 hi
   have hk : m + 1 - 1 - i < m + 1 := by omega
   have hc := cell9 (u := u) hk
   have lt : decide ((i : Int) < ((m + 1 : Nat) : Int)) = true := decide_eq_true (by omega)
   rcases Nat.eq_zero_or_pos i with h0 | h0
   · subst h0
     refine ⟨T9nv, _, rfl, (b9av0 rw st wh mz c1 (m + 1) cu u (revH (m + 1) u) tabC R).mpr ?_⟩
     rw [show jx (m + 1) 0 = ((m + 1 - 1 - 0 : Nat) : Int) from e, Int.toNat_natCast]
     exact ⟨tt lt, ⟨⟨by omega, by omega⟩, rfl⟩, ⟨by omega, hc⟩, hR⟩
   · obtain ⟨i, rfl⟩ : ∃ k, i = k + 1 := ⟨i - 1, by omega⟩
     refine ⟨T9lv, _, rfl, (g9av rw st wh mz c1 (m + 1) cu (i + 1) u (revH (m + 1) u) tabC R).mpr ?_⟩
     have hw : IntKind.i64.wrap (((i + 1 : Nat) : Int) + 1) = ((i + 1 + 1 : Nat) : Int) := wrapI (by omega) (by omega)
     have hR : R 1 .normal (h9lv rw st wh mz c1 (m + 1) cu (i + 1 + 1) (i + 1 + 1) tabC (huL (m + 1) u) (huL (i + 1 + 1) (revH (m + 1) u))) := hR
     unfold h9lv at hR
     rw [← hw, ← rows9 (i := i + 1) (revH (m + 1) u)] at hR
     rw [e, Int.toNat_natCast]
     exact ⟨tt lt, ⟨⟨by omega, by omega⟩, rfl⟩, ⟨by omega, hc⟩, ⟨by omega, (huL_len _ _).symm, by omega, by omega⟩, hR⟩
 · exact ⟨T9lv, _, rfl, (b9avx rw st wh mz c1 (m + 1) cu (m + 1) (m + 1) u tabC (huL (m + 1) (revH (m + 1) u)) R).mpr ⟨tf (decide_eq_false (by omega)), hR⟩⟩
theorem loop9av (hm : 0 < m) (h5 : m ≤ 5) :
    LoopOW Tryd.prog none p9a T9nv (h9nv rw st wh mz c1 m cu tabC (huL m u)) (.exit 0) T9lv (h9lv rw st wh mz c1 m cu m m tabC (huL m u) (huL m (revH m u))) := by
 obtain ⟨k, rfl⟩ : ∃ k, m = k + 1 := ⟨m - 1, by omega⟩
 exact loop9av_ h5
end
section
variable {rw st wh mz : Int} {c1 m cu : Nat} {u : Nat → Hut}
noncomputable def st9aw (rw st wh mz : Int) (c1 m cu : Nat) (u : Nat → Hut) : Nat → Nat × Hw
 | 0 => (0, h9nw rw st wh mz c1 m cu tabC (huL m u))
 | i + 1 => (1, h9lw rw st wh mz c1 m cu (i + 1) (i + 1) tabC (huL m u) (huL (i + 1) (revH m u)))
theorem cl9aw (i : Nat) : ClW (st9aw rw st wh mz c1 m cu u i).2 := by
 cases i with
 | zero => exact cl9nz
 | succ i =>
  refine ⟨fun cs hc => ?_, fun e hc => (by cases hc)⟩
  replace hc : cs ∈ [tabC, huL m u, huL (i + 1) (revH m u)] := hc
  simp only [List.mem_cons, List.not_mem_nil, or_false] at hc
  rcases hc with rfl | rfl | rfl
  · exact tabC_at
  · exact huL_at _ _
  · exact huL_at _ _
theorem loop9aw_ (h5 : m + 1 ≤ 5) :
    LoopOW Tryd.prog none p9a T9nw (h9nw rw st wh mz c1 (m + 1) cu tabC (huL (m + 1) u)) (.exit 0) T9lw (h9lw rw st wh mz c1 (m + 1) cu (m + 1) (m + 1) tabC (huL (m + 1) u) (huL (m + 1) (revH (m + 1) u))) := by
 have hlen := huL_len (m + 1) u
 refine loop_forW (Ts := [T9nw, T9lw]) (k := 9) (n := m + 1) (e := .exit 0) (st := st9aw rw st wh mz c1 (m + 1) cu u) rfl vx_sound ?_ (by rw [nglob]; omega) ⟨by simp, trivial⟩ (fun i _ => cl9aw i) (fun i hi R hR => ?_) (fun R hR => ?_) rfl (Nat.le_of_ble_eq_true rfl) (by decide) rfl
 · intro T hT; simp only [List.mem_cons, List.not_mem_nil, or_false] at hT; rcases hT with rfl | rfl <;> rfl
 · have e := jx_eq h5 hi
   have hk : m + 1 - 1 - i < m + 1 := by omega
   have hc := cell9 (u := u) hk
   have lt : decide ((i : Int) < ((m + 1 : Nat) : Int)) = true := decide_eq_true (by omega)
   rcases Nat.eq_zero_or_pos i with h0 | h0
   · subst h0
     refine ⟨T9nw, _, rfl, (b9aw0 rw st wh mz c1 (m + 1) cu u (revH (m + 1) u) tabC R).mpr ?_⟩
     rw [show jx (m + 1) 0 = ((m + 1 - 1 - 0 : Nat) : Int) from e, Int.toNat_natCast]
     exact ⟨tt lt, ⟨⟨by omega, by omega⟩, rfl⟩, ⟨by omega, hc⟩, hR⟩
   · obtain ⟨i, rfl⟩ : ∃ k, i = k + 1 := ⟨i - 1, by omega⟩
     refine ⟨T9lw, _, rfl, (g9aw rw st wh mz c1 (m + 1) cu (i + 1) u (revH (m + 1) u) tabC R).mpr ?_⟩
     have hw : IntKind.i64.wrap (((i + 1 : Nat) : Int) + 1) = ((i + 1 + 1 : Nat) : Int) := wrapI (by omega) (by omega)
     have hR : R 1 .normal (h9lw rw st wh mz c1 (m + 1) cu (i + 1 + 1) (i + 1 + 1) tabC (huL (m + 1) u) (huL (i + 1 + 1) (revH (m + 1) u))) := hR
     unfold h9lw at hR
     rw [← hw, ← rows9 (i := i + 1) (revH (m + 1) u)] at hR
     rw [e, Int.toNat_natCast]
     exact ⟨tt lt, ⟨⟨by omega, by omega⟩, rfl⟩, ⟨by omega, hc⟩, ⟨by omega, (huL_len _ _).symm, by omega, by omega⟩, hR⟩
 · exact ⟨T9lw, _, rfl, (b9awx rw st wh mz c1 (m + 1) cu (m + 1) (m + 1) u tabC (huL (m + 1) (revH (m + 1) u)) R).mpr ⟨tf (decide_eq_false (by omega)), hR⟩⟩
theorem loop9aw (hm : 0 < m) (h5 : m ≤ 5) :
    LoopOW Tryd.prog none p9a T9nw (h9nw rw st wh mz c1 m cu tabC (huL m u)) (.exit 0) T9lw (h9lw rw st wh mz c1 m cu m m tabC (huL m u) (huL m (revH m u))) := by
 obtain ⟨k, rfl⟩ : ∃ k, m = k + 1 := ⟨m - 1, by omega⟩
 exact loop9aw_ h5
end
section
variable {rw st wh mz : Int} {n cw cv m cu : Nat} {w v : Nat → Sp} {u : Nat → Hut}
theorem loop9ap (hm : 0 < m) (h5 : m ≤ 5) :
    LoopOW Tryd.prog none p9a T9n (h9n rw st wh mz n cw cv m cu tabC (spL n w) (spL n v) (huL m u)) (.exit 0) T9l (h9l rw st wh mz n cw cv m cu m m tabC (spL n w) (spL n v) (huL m u) (huL m (revH m u))) := by
 obtain ⟨k, rfl⟩ : ∃ k, m = k + 1 := ⟨m - 1, by omega⟩
 exact loop9a h5
theorem cl9n {a : List Value} {b : List (Nat × Nat)} : ClW ⟨⟨a, b⟩, [tabC, spL n w, spL n v, huL m u], []⟩ := by
 refine ⟨fun cs hc => ?_, fun e hc => (by cases hc)⟩
 simp only [List.mem_cons, List.not_mem_nil, or_false] at hc
 rcases hc with rfl | rfl | rfl | rfl
 · exact tabC_at
 · exact spL_at _ _
 · exact spL_at _ _
 · exact huL_at _ _
end
end Go.Ab
