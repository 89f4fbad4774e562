/- package surf: the law SurfMore, of valid surfs with hours and huts. -/
import Derived.Test.YtoelpblmhmhglaaDoorNR
import Derived.Test.YtoelpblmhmhglaaDoorNT
import Derived.Test.YtoelpblmhmhglaaDoorND
import Derived.Test.YtoelpblmhmhglaaDoorNL
set_option maxRecDepth 100000
namespace Go.Ab
open Go Go.RowKit Go.Proofs
theorem f80 (rw : Nat) (st wa wi ho nb : Int) (n cw cv m cu hut hh q q2 : Nat) (w v w2 _ : Nat → Sp) (u _ : Nat → Hut) (L L2 : Nat → Int) (tb : List Value) (R : ARes → Prop) : (vx.call 8 [suV rw st n cw cv m cu, .int .u8 wa, .int .u8 wi, .int .u8 ho, .int .u8 nb] (retK R) (mSu tb (spL n w) (spL n v) (huL m u)) ([(21, .split ((11, .con (C11t tb)) :: []) ((4, .con (C20 rw st n cw n cv m cu (spL n w) (spL n v) (huL m u) true)) :: (7, .val (.bool false)) :: (5, .val (.bool false)) :: (7, .val (I hut)) :: (5, .val (I hh)) :: (11, .growN) :: (0, .again) :: (1, .growN) :: (0, .again) :: (0, .growN) :: (8, .val (.bool true)) :: (9, .val (.pointer (some ⟨12, 0 + hh * 2, none⟩))) :: (0, .val (.agg ⟨[(I ((w hh).lo)), (I ((w hh).hi))]⟩)) :: (0, .con (C28 (w hh).lo (w hh).hi)) :: (0, .again) :: (0, .val (.pointer (some ⟨12, 0 + hh * 2, none⟩))) :: (0, .put (spL n w2)) :: (4, .loopW T8 (.exit 1) T8 fun _ => h8 (rw : Int) st nb n cw cv m cu tb (spL n w) (spL n v) (huL m u) (spL n w2) (spL n v) (huL m u) m) :: (6, .conN (C21s rw st n cw cv m cu ((IntKind.i64.wrap nb).tmod 6) tb (spL n w) (spL n v) (huL m u) (ints m L) m q)) :: (9, .conN (C21s rw st n n n m m ((IntKind.i64.wrap nb).tmod 6) tb (spL n w2) (spL n v) (huL m u) (ints m L2) m q2)) :: (25, .con (C27 q2)) :: (2, .con (C27 q)) :: (0, .val (.bool true)) :: (2, .con (C11t tb)) :: []))])) =
((((farB m n n) = true → (CA 11 (C11t tb) ⟨⟨[], []⟩, [tb]⟩ <|
R (.ret (.bool true)))) ∧
((farB m n n) = false → (CA 20 (C20 rw st n cw n cv m cu (spL n w) (spL n v) (huL m u) true) ⟨⟨[(I rw), (I st)], [⟨n, cw⟩, ⟨n, cv⟩, ⟨m, cu⟩]⟩, [(spL n w), (spL n v), (huL m u)]⟩ <|
((OT ((m : Int) == 0) false) ∧
((OT ((n : Int) == 0) false) ∧
((((((m : Int) ≠ (0 : Int))) ∧ ((IntKind.i64 = IntKind.i64))) ∧ (((I hut) : Value) = (I ((IntKind.i64.wrap wi).tmod (m : Int))))) ∧
((((((n : Int) ≠ (0 : Int))) ∧ ((IntKind.i64 = IntKind.i64))) ∧ (((I hh) : Value) = (I ((IntKind.i64.wrap ho).tmod (n : Int))))) ∧
(((((((0 : Nat) < n)) ∧ (((0 : Nat) + n * (2 : Nat) ≤ (spL n w).length))) ∧ (((List.take (n * (2 : Nat)) (List.drop (0 : Nat) (spL n w))).all one = true))) ∧ (((¬(0 : Nat) + n ≤ (0 : Nat))) ∧ ((((0 : Nat) = (0 : Nat))) ∧ (((((0 : Nat) + n) * (16 : Nat) ≤ (140737488355328 : Nat))) ∧ (((0 : Nat) + n ≤ (4611686018427387904 : Nat))))))) ∧
((((((.slice (.some ⟨11, 0, .none⟩) ((0 : Nat)) ((0 : Nat))) : Value) = (.slice (.some ⟨11, 0, .none⟩) ((0 : Nat)) ((0 : Nat)))) ∧ (((some (.cells [] ((36 : Nat)) .row) : Option ABlk) = some (.cells [] ((36 : Nat)) .row)))) ∧ (((((.slice (.some ⟨10, 0, .none⟩) ((0 : Nat)) ((0 : Nat))) : Value) = (.slice (.some ⟨10, 0, .none⟩) ((0 : Nat)) ((0 : Nat)))) ∧ (((some (.cells [] ((45 : Nat)) .row) : Option ABlk) = some (.cells [] ((45 : Nat)) .row)))) ∧ ((((some (.slice (.some ⟨4, 0, .none⟩) m cu) : Option Value) = some (.slice (.some ⟨4, 0, .none⟩) m cu))) ∧ ((((some (.slice (.some ⟨3, 0, .none⟩) n cv) : Option Value) = some (.slice (.some ⟨3, 0, .none⟩) n cv))) ∧ True)))) ∧
(((((((0 : Nat) < n)) ∧ (((0 : Nat) + n * (2 : Nat) ≤ (spL n v).length))) ∧ (((List.take (n * (2 : Nat)) (List.drop (0 : Nat) (spL n v))).all one = true))) ∧ (((¬(0 : Nat) + n ≤ (0 : Nat))) ∧ ((((0 : Nat) = (0 : Nat))) ∧ (((((0 : Nat) + n) * (16 : Nat) ≤ (140737488355328 : Nat))) ∧ (((0 : Nat) + n ≤ (4611686018427387904 : Nat))))))) ∧
((((((.slice (.some ⟨11, 0, .none⟩) ((0 : Nat)) ((0 : Nat))) : Value) = (.slice (.some ⟨11, 0, .none⟩) ((0 : Nat)) ((0 : Nat)))) ∧ (((some (.cells [] ((36 : Nat)) .row) : Option ABlk) = some (.cells [] ((36 : Nat)) .row)))) ∧ ((((some (.slice (.some ⟨4, 0, .none⟩) m cu) : Option Value) = some (.slice (.some ⟨4, 0, .none⟩) m cu))) ∧ True)) ∧
(((((((0 : Nat) < m)) ∧ (((0 : Nat) + m * (3 : Nat) ≤ (huL m u).length))) ∧ (((List.take (m * (3 : Nat)) (List.drop (0 : Nat) (huL m u))).all one = true))) ∧ (((¬(0 : Nat) + m ≤ (0 : Nat))) ∧ ((((0 : Nat) = (0 : Nat))) ∧ (((((0 : Nat) + m) * (24 : Nat) ≤ (140737488355328 : Nat))) ∧ (((0 : Nat) + m ≤ (4611686018427387904 : Nat))))))) ∧
((OT (wa.tmod (4 : Int) == 0) true) ∧
((((((0 : Int) ≤ hh)) ∧ (((hh : Int) < (↑((0 : Nat) + n) : Int)))) ∧ (VR (.pointer (some ⟨12, 0 + hh * 2, none⟩)))) ∧
((((0 + hh * 2 + 2 ≤ (List.take (0 : Nat) (zCells [Value.int .i64 (0 : Int), Value.int .i64 (0 : Int)] (0 : Nat)) ++ List.take (n * (2 : Nat)) (List.drop (0 : Nat) (spL n w))).length)) ∧ (((.agg ⟨[(I ((w hh).lo)), (I ((w hh).hi))]⟩) : Value) = (.agg ⟨(List.take 2 (List.drop (0 + hh * 2) ([] ++ (List.take (n * (2 : Nat)) (List.drop ((0 : Nat)) (spL n w))))))⟩))) ∧
(CA 28 (C28 (w hh).lo (w hh).hi) ⟨⟨[(I ((w hh).lo)), (I ((w hh).hi))], []⟩, []⟩ <|
(((((some (.slice (.some ⟨12, 0, .none⟩) ((0 : Nat) + n) ((0 : Nat) + n)) : Option Value) = some (.slice (.some ⟨12, 0, .none⟩) ((0 : Nat) + n) ((0 : Nat) + n)))) ∧ True) ∧
((((((0 : Int) ≤ hh)) ∧ (((hh : Int) < (↑((0 : Nat) + n) : Int)))) ∧ (VR (.pointer (some ⟨12, 0 + hh * 2, none⟩)))) ∧
((((0 + hh * 2 + 2 ≤ (List.take (0 : Nat) (zCells [Value.int .i64 (0 : Int), Value.int .i64 (0 : Int)] (0 : Nat)) ++ List.take (n * (2 : Nat)) (List.drop (0 : Nat) (spL n w))).length)) ∧ ((List.take ((0 : Nat) + hh * (2 : Nat)) (List.take (0 : Nat) (zCells [Value.int .i64 (0 : Int), Value.int .i64 (0 : Int)] (0 : Nat)) ++ List.take (n * (2 : Nat)) (List.drop (0 : Nat) (spL n w))) ++ [Value.int .i64 (dnI (w hh).lo), Value.int .i64 (dnI (w hh).hi)] ++ List.drop ((0 : Nat) + hh * (2 : Nat) + (2 : Nat)) (List.take (0 : Nat) (zCells [Value.int .i64 (0 : Int), Value.int .i64 (0 : Int)] (0 : Nat)) ++ List.take (n * (2 : Nat)) (List.drop (0 : Nat) (spL n w))) = spL n w2))) ∧
(LW p8 T8 ⟨⟨[(.int .u8 nb), (I m), (I 0), (I rw), (I st), (I rw), (I st)], [⟨n, cw⟩, ⟨n, cv⟩, ⟨m, cu⟩, ⟨((0 : Nat) + n), ((0 : Nat) + n)⟩, ⟨((0 : Nat) + n), ((0 : Nat) + n)⟩, ⟨((0 : Nat) + m), ((0 : Nat) + m)⟩]⟩, [tb, (spL n w), (spL n v), (huL m u), (spL n w2), ([] ++ (List.take (n * (2 : Nat)) (List.drop ((0 : Nat)) (spL n v)))), ([] ++ (List.take (m * (3 : Nat)) (List.drop ((0 : Nat)) (huL m u))))], []⟩ (.exit 1) T8 ⟨⟨[(.int .u8 nb), (I m), (I m), (I rw), (I st), (I rw), (I st)], [⟨n, cw⟩, ⟨n, cv⟩, ⟨m, cu⟩, ⟨n, n⟩, ⟨n, n⟩, ⟨m, m⟩]⟩, [tb, (spL n w), (spL n v), (huL m u), (spL n w2), (spL n v), (huL m u)], []⟩ <|
(CN 21 (C21s rw st n cw cv m cu ((IntKind.i64.wrap nb).tmod 6) tb (spL n w) (spL n v) (huL m u) (ints m L) m q) ⟨⟨[(I rw), (I st), (I ((IntKind.i64.wrap nb).tmod 6))], [⟨n, cw⟩, ⟨n, cv⟩, ⟨m, cu⟩]⟩, [tb, (spL n w), (spL n v), (huL m u)]⟩ <|
(CN 21 (C21s rw st n n n m m ((IntKind.i64.wrap nb).tmod 6) tb (spL n w2) (spL n v) (huL m u) (ints m L2) m q2) ⟨⟨[(I rw), (I st), (I ((IntKind.i64.wrap nb).tmod 6))], [⟨n, n⟩, ⟨n, n⟩, ⟨m, m⟩]⟩, [tb, (spL n w2), (spL n v), (huL m u)]⟩ <|
(CA 27 (C27 q2) ⟨⟨[(I q2)], []⟩, []⟩ <|
(CA 27 (C27 q) ⟨⟨[(I q)], []⟩, []⟩ <|
((OT (decide ((↑(popN q2) : Int) ≤ (↑(popN q) : Int))) true) ∧
(CA 11 (C11t tb) ⟨⟨[], []⟩, [tb]⟩ <|
R (.ret (.bool true))))))))))))))))))))))))))))) := by kernel_rfl
theorem f81 (rw : Nat) (st wa wi ho nb : Int) (n cw cv m cu hut hh q q2 : Nat) (w v _ v2 : Nat → Sp) (u _ : Nat → Hut) (L L2 : Nat → Int) (tb : List Value) (R : ARes → Prop) : (vx.call 8 [suV rw st n cw cv m cu, .int .u8 wa, .int .u8 wi, .int .u8 ho, .int .u8 nb] (retK R) (mSu tb (spL n w) (spL n v) (huL m u)) ([(21, .split ((11, .con (C11t tb)) :: []) ((4, .con (C20 rw st n cw n cv m cu (spL n w) (spL n v) (huL m u) true)) :: (7, .val (.bool false)) :: (5, .val (.bool false)) :: (7, .val (I hut)) :: (5, .val (I hh)) :: (11, .growN) :: (0, .again) :: (1, .growN) :: (0, .again) :: (0, .growN) :: (8, .val (.bool false)) :: (2, .val (.bool true)) :: (9, .val (.pointer (some ⟨13, 0 + hh * 2, none⟩))) :: (0, .val (.agg ⟨[(I ((v hh).lo)), (I ((v hh).hi))]⟩)) :: (0, .con (C28 (v hh).lo (v hh).hi)) :: (0, .again) :: (0, .val (.pointer (some ⟨13, 0 + hh * 2, none⟩))) :: (0, .put (spL n v2)) :: (4, .loopW T8 (.exit 1) T8 fun _ => h8 (rw : Int) st nb n cw cv m cu tb (spL n w) (spL n v) (huL m u) (spL n w) (spL n v2) (huL m u) m) :: (6, .conN (C21s rw st n cw cv m cu ((IntKind.i64.wrap nb).tmod 6) tb (spL n w) (spL n v) (huL m u) (ints m L) m q)) :: (9, .conN (C21s rw st n n n m m ((IntKind.i64.wrap nb).tmod 6) tb (spL n w) (spL n v2) (huL m u) (ints m L2) m q2)) :: (25, .con (C27 q2)) :: (2, .con (C27 q)) :: (0, .val (.bool true)) :: (2, .con (C11t tb)) :: []))])) =
((((farB m n n) = true → (CA 11 (C11t tb) ⟨⟨[], []⟩, [tb]⟩ <|
R (.ret (.bool true)))) ∧
((farB m n n) = false → (CA 20 (C20 rw st n cw n cv m cu (spL n w) (spL n v) (huL m u) true) ⟨⟨[(I rw), (I st)], [⟨n, cw⟩, ⟨n, cv⟩, ⟨m, cu⟩]⟩, [(spL n w), (spL n v), (huL m u)]⟩ <|
((OT ((m : Int) == 0) false) ∧
((OT ((n : Int) == 0) false) ∧
((((((m : Int) ≠ (0 : Int))) ∧ ((IntKind.i64 = IntKind.i64))) ∧ (((I hut) : Value) = (I ((IntKind.i64.wrap wi).tmod (m : Int))))) ∧
((((((n : Int) ≠ (0 : Int))) ∧ ((IntKind.i64 = IntKind.i64))) ∧ (((I hh) : Value) = (I ((IntKind.i64.wrap ho).tmod (n : Int))))) ∧
(((((((0 : Nat) < n)) ∧ (((0 : Nat) + n * (2 : Nat) ≤ (spL n w).length))) ∧ (((List.take (n * (2 : Nat)) (List.drop (0 : Nat) (spL n w))).all one = true))) ∧ (((¬(0 : Nat) + n ≤ (0 : Nat))) ∧ ((((0 : Nat) = (0 : Nat))) ∧ (((((0 : Nat) + n) * (16 : Nat) ≤ (140737488355328 : Nat))) ∧ (((0 : Nat) + n ≤ (4611686018427387904 : Nat))))))) ∧
((((((.slice (.some ⟨11, 0, .none⟩) ((0 : Nat)) ((0 : Nat))) : Value) = (.slice (.some ⟨11, 0, .none⟩) ((0 : Nat)) ((0 : Nat)))) ∧ (((some (.cells [] ((36 : Nat)) .row) : Option ABlk) = some (.cells [] ((36 : Nat)) .row)))) ∧ (((((.slice (.some ⟨10, 0, .none⟩) ((0 : Nat)) ((0 : Nat))) : Value) = (.slice (.some ⟨10, 0, .none⟩) ((0 : Nat)) ((0 : Nat)))) ∧ (((some (.cells [] ((45 : Nat)) .row) : Option ABlk) = some (.cells [] ((45 : Nat)) .row)))) ∧ ((((some (.slice (.some ⟨4, 0, .none⟩) m cu) : Option Value) = some (.slice (.some ⟨4, 0, .none⟩) m cu))) ∧ ((((some (.slice (.some ⟨3, 0, .none⟩) n cv) : Option Value) = some (.slice (.some ⟨3, 0, .none⟩) n cv))) ∧ True)))) ∧
(((((((0 : Nat) < n)) ∧ (((0 : Nat) + n * (2 : Nat) ≤ (spL n v).length))) ∧ (((List.take (n * (2 : Nat)) (List.drop (0 : Nat) (spL n v))).all one = true))) ∧ (((¬(0 : Nat) + n ≤ (0 : Nat))) ∧ ((((0 : Nat) = (0 : Nat))) ∧ (((((0 : Nat) + n) * (16 : Nat) ≤ (140737488355328 : Nat))) ∧ (((0 : Nat) + n ≤ (4611686018427387904 : Nat))))))) ∧
((((((.slice (.some ⟨11, 0, .none⟩) ((0 : Nat)) ((0 : Nat))) : Value) = (.slice (.some ⟨11, 0, .none⟩) ((0 : Nat)) ((0 : Nat)))) ∧ (((some (.cells [] ((36 : Nat)) .row) : Option ABlk) = some (.cells [] ((36 : Nat)) .row)))) ∧ ((((some (.slice (.some ⟨4, 0, .none⟩) m cu) : Option Value) = some (.slice (.some ⟨4, 0, .none⟩) m cu))) ∧ True)) ∧
(((((((0 : Nat) < m)) ∧ (((0 : Nat) + m * (3 : Nat) ≤ (huL m u).length))) ∧ (((List.take (m * (3 : Nat)) (List.drop (0 : Nat) (huL m u))).all one = true))) ∧ (((¬(0 : Nat) + m ≤ (0 : Nat))) ∧ ((((0 : Nat) = (0 : Nat))) ∧ (((((0 : Nat) + m) * (24 : Nat) ≤ (140737488355328 : Nat))) ∧ (((0 : Nat) + m ≤ (4611686018427387904 : Nat))))))) ∧
((OT (wa.tmod (4 : Int) == 0) false) ∧
((OT (wa.tmod (4 : Int) == 1) true) ∧
((((((0 : Int) ≤ hh)) ∧ (((hh : Int) < (↑((0 : Nat) + n) : Int)))) ∧ (VR (.pointer (some ⟨13, 0 + hh * 2, none⟩)))) ∧
((((0 + hh * 2 + 2 ≤ (List.take (0 : Nat) [] ++ List.take (n * (2 : Nat)) (List.drop (0 : Nat) (spL n v))).length)) ∧ (((.agg ⟨[(I ((v hh).lo)), (I ((v hh).hi))]⟩) : Value) = (.agg ⟨(List.take 2 (List.drop (0 + hh * 2) ([] ++ (List.take (n * (2 : Nat)) (List.drop ((0 : Nat)) (spL n v))))))⟩))) ∧
(CA 28 (C28 (v hh).lo (v hh).hi) ⟨⟨[(I ((v hh).lo)), (I ((v hh).hi))], []⟩, []⟩ <|
(((((some (.slice (.some ⟨13, 0, .none⟩) ((0 : Nat) + n) ((0 : Nat) + n)) : Option Value) = some (.slice (.some ⟨13, 0, .none⟩) ((0 : Nat) + n) ((0 : Nat) + n)))) ∧ True) ∧
((((((0 : Int) ≤ hh)) ∧ (((hh : Int) < (↑((0 : Nat) + n) : Int)))) ∧ (VR (.pointer (some ⟨13, 0 + hh * 2, none⟩)))) ∧
((((0 + hh * 2 + 2 ≤ (List.take (0 : Nat) [] ++ List.take (n * (2 : Nat)) (List.drop (0 : Nat) (spL n v))).length)) ∧ ((List.take ((0 : Nat) + hh * (2 : Nat)) (List.take (0 : Nat) [] ++ List.take (n * (2 : Nat)) (List.drop (0 : Nat) (spL n v))) ++ [Value.int .i64 (dnI (v hh).lo), Value.int .i64 (dnI (v hh).hi)] ++ List.drop ((0 : Nat) + hh * (2 : Nat) + (2 : Nat)) (List.take (0 : Nat) [] ++ List.take (n * (2 : Nat)) (List.drop (0 : Nat) (spL n v))) = spL n v2))) ∧
(LW p8 T8 ⟨⟨[(.int .u8 nb), (I m), (I 0), (I rw), (I st), (I rw), (I st)], [⟨n, cw⟩, ⟨n, cv⟩, ⟨m, cu⟩, ⟨((0 : Nat) + n), ((0 : Nat) + n)⟩, ⟨((0 : Nat) + n), ((0 : Nat) + n)⟩, ⟨((0 : Nat) + m), ((0 : Nat) + m)⟩]⟩, [tb, (spL n w), (spL n v), (huL m u), ([] ++ (List.take (n * (2 : Nat)) (List.drop ((0 : Nat)) (spL n w)))), (spL n v2), ([] ++ (List.take (m * (3 : Nat)) (List.drop ((0 : Nat)) (huL m u))))], []⟩ (.exit 1) T8 ⟨⟨[(.int .u8 nb), (I m), (I m), (I rw), (I st), (I rw), (I st)], [⟨n, cw⟩, ⟨n, cv⟩, ⟨m, cu⟩, ⟨n, n⟩, ⟨n, n⟩, ⟨m, m⟩]⟩, [tb, (spL n w), (spL n v), (huL m u), (spL n w), (spL n v2), (huL m u)], []⟩ <|
(CN 21 (C21s rw st n cw cv m cu ((IntKind.i64.wrap nb).tmod 6) tb (spL n w) (spL n v) (huL m u) (ints m L) m q) ⟨⟨[(I rw), (I st), (I ((IntKind.i64.wrap nb).tmod 6))], [⟨n, cw⟩, ⟨n, cv⟩, ⟨m, cu⟩]⟩, [tb, (spL n w), (spL n v), (huL m u)]⟩ <|
(CN 21 (C21s rw st n n n m m ((IntKind.i64.wrap nb).tmod 6) tb (spL n w) (spL n v2) (huL m u) (ints m L2) m q2) ⟨⟨[(I rw), (I st), (I ((IntKind.i64.wrap nb).tmod 6))], [⟨n, n⟩, ⟨n, n⟩, ⟨m, m⟩]⟩, [tb, (spL n w), (spL n v2), (huL m u)]⟩ <|
(CA 27 (C27 q2) ⟨⟨[(I q2)], []⟩, []⟩ <|
(CA 27 (C27 q) ⟨⟨[(I q)], []⟩, []⟩ <|
((OT (decide ((↑(popN q2) : Int) ≤ (↑(popN q) : Int))) true) ∧
(CA 11 (C11t tb) ⟨⟨[], []⟩, [tb]⟩ <|
R (.ret (.bool true)))))))))))))))))))))))))))))) := by kernel_rfl
theorem f82 (rw : Nat) (st wa wi ho nb : Int) (n cw cv m cu hut hh q q2 : Nat) (w v _ _ : Nat → Sp) (u u2 : Nat → Hut) (L L2 : Nat → Int) (tb : List Value) (R : ARes → Prop) : (vx.call 8 [suV rw st n cw cv m cu, .int .u8 wa, .int .u8 wi, .int .u8 ho, .int .u8 nb] (retK R) (mSu tb (spL n w) (spL n v) (huL m u)) ([(21, .split ((11, .con (C11t tb)) :: []) ((4, .con (C20 rw st n cw n cv m cu (spL n w) (spL n v) (huL m u) true)) :: (7, .val (.bool false)) :: (5, .val (.bool false)) :: (7, .val (I hut)) :: (5, .val (I hh)) :: (11, .growN) :: (0, .again) :: (1, .growN) :: (0, .again) :: (0, .growN) :: (8, .val (.bool false)) :: (2, .val (.bool false)) :: (2, .val (.bool true)) :: (8, .val (.pointer (some ⟨14, 0 + hut * 3, none⟩))) :: (1, .val (I ((u hut).fl))) :: (2, .val (.pointer (some ⟨14, 0 + hut * 3, none⟩))) :: (1, .put (huL m u2)) :: (4, .loopW T8 (.exit 1) T8 fun _ => h8 (rw : Int) st nb n cw cv m cu tb (spL n w) (spL n v) (huL m u) (spL n w) (spL n v) (huL m u2) m) :: (6, .conN (C21s rw st n cw cv m cu ((IntKind.i64.wrap nb).tmod 6) tb (spL n w) (spL n v) (huL m u) (ints m L) m q)) :: (9, .conN (C21s rw st n n n m m ((IntKind.i64.wrap nb).tmod 6) tb (spL n w) (spL n v) (huL m u2) (ints m L2) m q2)) :: (25, .con (C27 q2)) :: (2, .con (C27 q)) :: (0, .val (.bool true)) :: (2, .con (C11t tb)) :: []))])) =
((((farB m n n) = true → (CA 11 (C11t tb) ⟨⟨[], []⟩, [tb]⟩ <|
R (.ret (.bool true)))) ∧
((farB m n n) = false → (CA 20 (C20 rw st n cw n cv m cu (spL n w) (spL n v) (huL m u) true) ⟨⟨[(I rw), (I st)], [⟨n, cw⟩, ⟨n, cv⟩, ⟨m, cu⟩]⟩, [(spL n w), (spL n v), (huL m u)]⟩ <|
((OT ((m : Int) == 0) false) ∧
((OT ((n : Int) == 0) false) ∧
((((((m : Int) ≠ (0 : Int))) ∧ ((IntKind.i64 = IntKind.i64))) ∧ (((I hut) : Value) = (I ((IntKind.i64.wrap wi).tmod (m : Int))))) ∧
((((((n : Int) ≠ (0 : Int))) ∧ ((IntKind.i64 = IntKind.i64))) ∧ (((I hh) : Value) = (I ((IntKind.i64.wrap ho).tmod (n : Int))))) ∧
(((((((0 : Nat) < n)) ∧ (((0 : Nat) + n * (2 : Nat) ≤ (spL n w).length))) ∧ (((List.take (n * (2 : Nat)) (List.drop (0 : Nat) (spL n w))).all one = true))) ∧ (((¬(0 : Nat) + n ≤ (0 : Nat))) ∧ ((((0 : Nat) = (0 : Nat))) ∧ (((((0 : Nat) + n) * (16 : Nat) ≤ (140737488355328 : Nat))) ∧ (((0 : Nat) + n ≤ (4611686018427387904 : Nat))))))) ∧
((((((.slice (.some ⟨11, 0, .none⟩) ((0 : Nat)) ((0 : Nat))) : Value) = (.slice (.some ⟨11, 0, .none⟩) ((0 : Nat)) ((0 : Nat)))) ∧ (((some (.cells [] ((36 : Nat)) .row) : Option ABlk) = some (.cells [] ((36 : Nat)) .row)))) ∧ (((((.slice (.some ⟨10, 0, .none⟩) ((0 : Nat)) ((0 : Nat))) : Value) = (.slice (.some ⟨10, 0, .none⟩) ((0 : Nat)) ((0 : Nat)))) ∧ (((some (.cells [] ((45 : Nat)) .row) : Option ABlk) = some (.cells [] ((45 : Nat)) .row)))) ∧ ((((some (.slice (.some ⟨4, 0, .none⟩) m cu) : Option Value) = some (.slice (.some ⟨4, 0, .none⟩) m cu))) ∧ ((((some (.slice (.some ⟨3, 0, .none⟩) n cv) : Option Value) = some (.slice (.some ⟨3, 0, .none⟩) n cv))) ∧ True)))) ∧
(((((((0 : Nat) < n)) ∧ (((0 : Nat) + n * (2 : Nat) ≤ (spL n v).length))) ∧ (((List.take (n * (2 : Nat)) (List.drop (0 : Nat) (spL n v))).all one = true))) ∧ (((¬(0 : Nat) + n ≤ (0 : Nat))) ∧ ((((0 : Nat) = (0 : Nat))) ∧ (((((0 : Nat) + n) * (16 : Nat) ≤ (140737488355328 : Nat))) ∧ (((0 : Nat) + n ≤ (4611686018427387904 : Nat))))))) ∧
((((((.slice (.some ⟨11, 0, .none⟩) ((0 : Nat)) ((0 : Nat))) : Value) = (.slice (.some ⟨11, 0, .none⟩) ((0 : Nat)) ((0 : Nat)))) ∧ (((some (.cells [] ((36 : Nat)) .row) : Option ABlk) = some (.cells [] ((36 : Nat)) .row)))) ∧ ((((some (.slice (.some ⟨4, 0, .none⟩) m cu) : Option Value) = some (.slice (.some ⟨4, 0, .none⟩) m cu))) ∧ True)) ∧
(((((((0 : Nat) < m)) ∧ (((0 : Nat) + m * (3 : Nat) ≤ (huL m u).length))) ∧ (((List.take (m * (3 : Nat)) (List.drop (0 : Nat) (huL m u))).all one = true))) ∧ (((¬(0 : Nat) + m ≤ (0 : Nat))) ∧ ((((0 : Nat) = (0 : Nat))) ∧ (((((0 : Nat) + m) * (24 : Nat) ≤ (140737488355328 : Nat))) ∧ (((0 : Nat) + m ≤ (4611686018427387904 : Nat))))))) ∧
((OT (wa.tmod (4 : Int) == 0) false) ∧
((OT (wa.tmod (4 : Int) == 1) false) ∧
((OT (wa.tmod (4 : Int) == 2) true) ∧
((((((0 : Int) ≤ hut)) ∧ (((hut : Int) < (↑((0 : Nat) + m) : Int)))) ∧ (VR (.pointer (some ⟨14, 0 + hut * 3, none⟩)))) ∧
((((List.take (0 : Nat) [] ++ List.take (m * (3 : Nat)) (List.drop (0 : Nat) (huL m u)))[(0 : Nat) + hut * (3 : Nat) + (0 : Nat)]? = some (I ((u hut).fl)))) ∧
((((((0 : Int) ≤ hut)) ∧ (((hut : Int) < (↑((0 : Nat) + m) : Int)))) ∧ (VR (.pointer (some ⟨14, 0 + hut * 3, none⟩)))) ∧
(((((0 : Nat) + hut * (3 : Nat) + (0 : Nat) + (1 : Nat) ≤ (List.take (0 : Nat) [] ++ List.take (m * (3 : Nat)) (List.drop (0 : Nat) (huL m u))).length)) ∧ ((List.take ((0 : Nat) + hut * (3 : Nat) + (0 : Nat)) (List.take (0 : Nat) [] ++ List.take (m * (3 : Nat)) (List.drop (0 : Nat) (huL m u))) ++ [Value.int .i64 (if IntKind.i64.wrap ((u hut).fl + (1 : Int)) < (40 : Int) then IntKind.i64.wrap ((u hut).fl + (1 : Int)) else (40 : Int))] ++ List.drop ((0 : Nat) + hut * (3 : Nat) + (0 : Nat) + (1 : Nat)) (List.take (0 : Nat) [] ++ List.take (m * (3 : Nat)) (List.drop (0 : Nat) (huL m u))) = huL m u2))) ∧
(LW p8 T8 ⟨⟨[(.int .u8 nb), (I m), (I 0), (I rw), (I st), (I rw), (I st)], [⟨n, cw⟩, ⟨n, cv⟩, ⟨m, cu⟩, ⟨((0 : Nat) + n), ((0 : Nat) + n)⟩, ⟨((0 : Nat) + n), ((0 : Nat) + n)⟩, ⟨((0 : Nat) + m), ((0 : Nat) + m)⟩]⟩, [tb, (spL n w), (spL n v), (huL m u), ([] ++ (List.take (n * (2 : Nat)) (List.drop ((0 : Nat)) (spL n w)))), ([] ++ (List.take (n * (2 : Nat)) (List.drop ((0 : Nat)) (spL n v)))), (huL m u2)], []⟩ (.exit 1) T8 ⟨⟨[(.int .u8 nb), (I m), (I m), (I rw), (I st), (I rw), (I st)], [⟨n, cw⟩, ⟨n, cv⟩, ⟨m, cu⟩, ⟨n, n⟩, ⟨n, n⟩, ⟨m, m⟩]⟩, [tb, (spL n w), (spL n v), (huL m u), (spL n w), (spL n v), (huL m u2)], []⟩ <|
(CN 21 (C21s rw st n cw cv m cu ((IntKind.i64.wrap nb).tmod 6) tb (spL n w) (spL n v) (huL m u) (ints m L) m q) ⟨⟨[(I rw), (I st), (I ((IntKind.i64.wrap nb).tmod 6))], [⟨n, cw⟩, ⟨n, cv⟩, ⟨m, cu⟩]⟩, [tb, (spL n w), (spL n v), (huL m u)]⟩ <|
(CN 21 (C21s rw st n n n m m ((IntKind.i64.wrap nb).tmod 6) tb (spL n w) (spL n v) (huL m u2) (ints m L2) m q2) ⟨⟨[(I rw), (I st), (I ((IntKind.i64.wrap nb).tmod 6))], [⟨n, n⟩, ⟨n, n⟩, ⟨m, m⟩]⟩, [tb, (spL n w), (spL n v), (huL m u2)]⟩ <|
(CA 27 (C27 q2) ⟨⟨[(I q2)], []⟩, []⟩ <|
(CA 27 (C27 q) ⟨⟨[(I q)], []⟩, []⟩ <|
((OT (decide ((↑(popN q2) : Int) ≤ (↑(popN q) : Int))) true) ∧
(CA 11 (C11t tb) ⟨⟨[], []⟩, [tb]⟩ <|
R (.ret (.bool true))))))))))))))))))))))))))))) := by kernel_rfl
theorem f83 (rw : Nat) (st wa wi ho nb : Int) (n cw cv m cu hut hh q q2 : Nat) (w v _ _ : Nat → Sp) (u u2 : Nat → Hut) (L L2 : Nat → Int) (tb : List Value) (R : ARes → Prop) : (vx.call 8 [suV rw st n cw cv m cu, .int .u8 wa, .int .u8 wi, .int .u8 ho, .int .u8 nb] (retK R) (mSu tb (spL n w) (spL n v) (huL m u)) ([(21, .split ((11, .con (C11t tb)) :: []) ((4, .con (C20 rw st n cw n cv m cu (spL n w) (spL n v) (huL m u) true)) :: (7, .val (.bool false)) :: (5, .val (.bool false)) :: (7, .val (I hut)) :: (5, .val (I hh)) :: (11, .growN) :: (0, .again) :: (1, .growN) :: (0, .again) :: (0, .growN) :: (8, .val (.bool false)) :: (2, .val (.bool false)) :: (2, .val (.bool false)) :: (8, .val (.pointer (some ⟨14, 0 + hut * 3, none⟩))) :: (1, .val (I ((u hut).br))) :: (2, .val (.pointer (some ⟨14, 0 + hut * 3, none⟩))) :: (1, .put (huL m u2)) :: (4, .loopW T8 (.exit 1) T8 fun _ => h8 (rw : Int) st nb n cw cv m cu tb (spL n w) (spL n v) (huL m u) (spL n w) (spL n v) (huL m u2) m) :: (6, .conN (C21s rw st n cw cv m cu ((IntKind.i64.wrap nb).tmod 6) tb (spL n w) (spL n v) (huL m u) (ints m L) m q)) :: (9, .conN (C21s rw st n n n m m ((IntKind.i64.wrap nb).tmod 6) tb (spL n w) (spL n v) (huL m u2) (ints m L2) m q2)) :: (25, .con (C27 q2)) :: (2, .con (C27 q)) :: (0, .val (.bool true)) :: (2, .con (C11t tb)) :: []))])) =
((((farB m n n) = true → (CA 11 (C11t tb) ⟨⟨[], []⟩, [tb]⟩ <|
R (.ret (.bool true)))) ∧
((farB m n n) = false → (CA 20 (C20 rw st n cw n cv m cu (spL n w) (spL n v) (huL m u) true) ⟨⟨[(I rw), (I st)], [⟨n, cw⟩, ⟨n, cv⟩, ⟨m, cu⟩]⟩, [(spL n w), (spL n v), (huL m u)]⟩ <|
((OT ((m : Int) == 0) false) ∧
((OT ((n : Int) == 0) false) ∧
((((((m : Int) ≠ (0 : Int))) ∧ ((IntKind.i64 = IntKind.i64))) ∧ (((I hut) : Value) = (I ((IntKind.i64.wrap wi).tmod (m : Int))))) ∧
((((((n : Int) ≠ (0 : Int))) ∧ ((IntKind.i64 = IntKind.i64))) ∧ (((I hh) : Value) = (I ((IntKind.i64.wrap ho).tmod (n : Int))))) ∧
(((((((0 : Nat) < n)) ∧ (((0 : Nat) + n * (2 : Nat) ≤ (spL n w).length))) ∧ (((List.take (n * (2 : Nat)) (List.drop (0 : Nat) (spL n w))).all one = true))) ∧ (((¬(0 : Nat) + n ≤ (0 : Nat))) ∧ ((((0 : Nat) = (0 : Nat))) ∧ (((((0 : Nat) + n) * (16 : Nat) ≤ (140737488355328 : Nat))) ∧ (((0 : Nat) + n ≤ (4611686018427387904 : Nat))))))) ∧
((((((.slice (.some ⟨11, 0, .none⟩) ((0 : Nat)) ((0 : Nat))) : Value) = (.slice (.some ⟨11, 0, .none⟩) ((0 : Nat)) ((0 : Nat)))) ∧ (((some (.cells [] ((36 : Nat)) .row) : Option ABlk) = some (.cells [] ((36 : Nat)) .row)))) ∧ (((((.slice (.some ⟨10, 0, .none⟩) ((0 : Nat)) ((0 : Nat))) : Value) = (.slice (.some ⟨10, 0, .none⟩) ((0 : Nat)) ((0 : Nat)))) ∧ (((some (.cells [] ((45 : Nat)) .row) : Option ABlk) = some (.cells [] ((45 : Nat)) .row)))) ∧ ((((some (.slice (.some ⟨4, 0, .none⟩) m cu) : Option Value) = some (.slice (.some ⟨4, 0, .none⟩) m cu))) ∧ ((((some (.slice (.some ⟨3, 0, .none⟩) n cv) : Option Value) = some (.slice (.some ⟨3, 0, .none⟩) n cv))) ∧ True)))) ∧
(((((((0 : Nat) < n)) ∧ (((0 : Nat) + n * (2 : Nat) ≤ (spL n v).length))) ∧ (((List.take (n * (2 : Nat)) (List.drop (0 : Nat) (spL n v))).all one = true))) ∧ (((¬(0 : Nat) + n ≤ (0 : Nat))) ∧ ((((0 : Nat) = (0 : Nat))) ∧ (((((0 : Nat) + n) * (16 : Nat) ≤ (140737488355328 : Nat))) ∧ (((0 : Nat) + n ≤ (4611686018427387904 : Nat))))))) ∧
((((((.slice (.some ⟨11, 0, .none⟩) ((0 : Nat)) ((0 : Nat))) : Value) = (.slice (.some ⟨11, 0, .none⟩) ((0 : Nat)) ((0 : Nat)))) ∧ (((some (.cells [] ((36 : Nat)) .row) : Option ABlk) = some (.cells [] ((36 : Nat)) .row)))) ∧ ((((some (.slice (.some ⟨4, 0, .none⟩) m cu) : Option Value) = some (.slice (.some ⟨4, 0, .none⟩) m cu))) ∧ True)) ∧
(((((((0 : Nat) < m)) ∧ (((0 : Nat) + m * (3 : Nat) ≤ (huL m u).length))) ∧ (((List.take (m * (3 : Nat)) (List.drop (0 : Nat) (huL m u))).all one = true))) ∧ (((¬(0 : Nat) + m ≤ (0 : Nat))) ∧ ((((0 : Nat) = (0 : Nat))) ∧ (((((0 : Nat) + m) * (24 : Nat) ≤ (140737488355328 : Nat))) ∧ (((0 : Nat) + m ≤ (4611686018427387904 : Nat))))))) ∧
((OT (wa.tmod (4 : Int) == 0) false) ∧
((OT (wa.tmod (4 : Int) == 1) false) ∧
((OT (wa.tmod (4 : Int) == 2) false) ∧
((((((0 : Int) ≤ hut)) ∧ (((hut : Int) < (↑((0 : Nat) + m) : Int)))) ∧ (VR (.pointer (some ⟨14, 0 + hut * 3, none⟩)))) ∧
((((List.take (0 : Nat) [] ++ List.take (m * (3 : Nat)) (List.drop (0 : Nat) (huL m u)))[(0 : Nat) + hut * (3 : Nat) + (1 : Nat)]? = some (I ((u hut).br)))) ∧
((((((0 : Int) ≤ hut)) ∧ (((hut : Int) < (↑((0 : Nat) + m) : Int)))) ∧ (VR (.pointer (some ⟨14, 0 + hut * 3, none⟩)))) ∧
(((((0 : Nat) + hut * (3 : Nat) + (1 : Nat) + (1 : Nat) ≤ (List.take (0 : Nat) [] ++ List.take (m * (3 : Nat)) (List.drop (0 : Nat) (huL m u))).length)) ∧ ((List.take ((0 : Nat) + hut * (3 : Nat) + (1 : Nat)) (List.take (0 : Nat) [] ++ List.take (m * (3 : Nat)) (List.drop (0 : Nat) (huL m u))) ++ [Value.int .i64 (if IntKind.i64.wrap ((u hut).br + (1 : Int)) < (10 : Int) then IntKind.i64.wrap ((u hut).br + (1 : Int)) else (10 : Int))] ++ List.drop ((0 : Nat) + hut * (3 : Nat) + (1 : Nat) + (1 : Nat)) (List.take (0 : Nat) [] ++ List.take (m * (3 : Nat)) (List.drop (0 : Nat) (huL m u))) = huL m u2))) ∧
(LW p8 T8 ⟨⟨[(.int .u8 nb), (I m), (I 0), (I rw), (I st), (I rw), (I st)], [⟨n, cw⟩, ⟨n, cv⟩, ⟨m, cu⟩, ⟨((0 : Nat) + n), ((0 : Nat) + n)⟩, ⟨((0 : Nat) + n), ((0 : Nat) + n)⟩, ⟨((0 : Nat) + m), ((0 : Nat) + m)⟩]⟩, [tb, (spL n w), (spL n v), (huL m u), ([] ++ (List.take (n * (2 : Nat)) (List.drop ((0 : Nat)) (spL n w)))), ([] ++ (List.take (n * (2 : Nat)) (List.drop ((0 : Nat)) (spL n v)))), (huL m u2)], []⟩ (.exit 1) T8 ⟨⟨[(.int .u8 nb), (I m), (I m), (I rw), (I st), (I rw), (I st)], [⟨n, cw⟩, ⟨n, cv⟩, ⟨m, cu⟩, ⟨n, n⟩, ⟨n, n⟩, ⟨m, m⟩]⟩, [tb, (spL n w), (spL n v), (huL m u), (spL n w), (spL n v), (huL m u2)], []⟩ <|
(CN 21 (C21s rw st n cw cv m cu ((IntKind.i64.wrap nb).tmod 6) tb (spL n w) (spL n v) (huL m u) (ints m L) m q) ⟨⟨[(I rw), (I st), (I ((IntKind.i64.wrap nb).tmod 6))], [⟨n, cw⟩, ⟨n, cv⟩, ⟨m, cu⟩]⟩, [tb, (spL n w), (spL n v), (huL m u)]⟩ <|
(CN 21 (C21s rw st n n n m m ((IntKind.i64.wrap nb).tmod 6) tb (spL n w) (spL n v) (huL m u2) (ints m L2) m q2) ⟨⟨[(I rw), (I st), (I ((IntKind.i64.wrap nb).tmod 6))], [⟨n, n⟩, ⟨n, n⟩, ⟨m, m⟩]⟩, [tb, (spL n w), (spL n v), (huL m u2)]⟩ <|
(CA 27 (C27 q2) ⟨⟨[(I q2)], []⟩, []⟩ <|
(CA 27 (C27 q) ⟨⟨[(I q)], []⟩, []⟩ <|
((OT (decide ((↑(popN q2) : Int) ≤ (↑(popN q) : Int))) true) ∧
(CA 11 (C11t tb) ⟨⟨[], []⟩, [tb]⟩ <|
R (.ret (.bool true))))))))))))))))))))))))))))) := by kernel_rfl
section
variable {rw : Nat} {st : Int} {n cw cv m cu a b c d : Nat} {w v : Nat → Sp} {u : Nat → Hut}
structure Pre8 (st : Int) (n m many : Nat) (w v w2 v2 : Nat → Sp) (u u2 : Nat → Hut) : Prop where
 le : decide (((popN (bestQ (perY st w2 v2 n u2) many m) : Nat) : Int) ≤ ((popN (bestQ (perY st w v n u) many m) : Nat) : Int)) = true
 q1 : bestQ (perY st w v n u) many m < 32
 q2 : bestQ (perY st w2 v2 n u2) many m < 32
theorem pre8 {rw : Int} (hS : SOK rw st n w v) (hU : HUK rw m u) {w2 v2 : Nat → Sp} {u2 : Nat → Hut} (hX : Safer rw st n m w v w2 v2 u u2) (many : Nat) : Pre8 st n m many w v w2 v2 u u2 := by
 have h5 := hU.m5
 have q32 : ∀ y : Nat → Nat, bestQ y many m < 32 := fun y => by rw [← (best_right y many m).2]; exact Nat.lt_of_lt_of_le (outR_lt _ _ m) (show 2 ^ m ≤ 2 ^ 5 from Nat.pow_le_pow_right (by omega) h5)
 have hle := safer_best hS hX many
 exact ⟨decide_eq_true (by omega), q32 _, q32 _⟩
theorem rem8 {b m : Nat} (hb : b < 256) (hm : 0 < m) : ((((m : Nat) : Int) ≠ 0 ∧ IntKind.i64 = IntKind.i64) ∧ ((Value.int .i64 ((b % m : Nat) : Int)) = .int .i64 ((IntKind.i64.wrap ((b : Nat) : Int)).tmod (m : Int)))) := ⟨⟨by omega, rfl⟩, by rw [wrapI (x := ((b : Nat) : Int)) (by omega) (by omega)]; rfl⟩
theorem nz8 {m : Nat} (hm : 0 < m) : ((m : Int) == (0 : Int)) = false := by simp only [beq_eq_false_iff_ne, ne_eq]; omega
theorem grow8s (w : Nat → Sp) (h0 : 0 < n) (h8 : n ≤ 8) : (((0 < n) ∧ (0 + n * 2 ≤ (spL n w).length)) ∧ (List.take (n * 2) (List.drop 0 (spL n w))).all one = true) ∧ (¬ n ≤ 0) ∧ ((0 : Nat) = 0) ∧ (n * 16 ≤ 140737488355328) ∧ (n ≤ 4611686018427387904) := ⟨⟨⟨h0, by rw [spL_len]; omega⟩, oneS n w⟩, by omega, rfl, by omega, by omega⟩
theorem grow8h (u : Nat → Hut) (hm : 0 < m) (h5 : m ≤ 5) : (((0 < m) ∧ (0 + m * 3 ≤ (huL m u).length)) ∧ (List.take (m * 3) (List.drop 0 (huL m u))).all one = true) ∧ (¬ m ≤ 0) ∧ ((0 : Nat) = 0) ∧ (m * 24 ≤ 140737488355328) ∧ (m ≤ 4611686018427387904) := ⟨⟨⟨hm, by rw [huL_len]; omega⟩, oneH m u⟩, by omega, rfl, by omega, by omega⟩
theorem c20_8 {rw : Int} (hS : SOK rw st n w v) (hU : HUK rw m u) : ConOK Tryd.prog 20 (C20 rw st n cw n cv m cu (spL n w) (spL n v) (huL m u) true) := by
 have h := C20_ok (rw := rw) (st := st) (n := n) (cw := cw) (n2 := n) (cv := cv) (m := m) (cu := cu) (w := w) (v := v) (u := rwH u)
 rw [okSu_of hS hU] at h
 exact h
theorem law8_0 (hS : SOK rw st n w v) (hU : HUK rw m u) (h0 : 0 < n) (hm : 0 < m) (hb : b < 256) (hc : c < 256) (hd : d < 256) (hk : a % 4 = 0) :
    ∃ hs, vx.call 8 [suV rw st n cw cv m cu, .int .u8 a, .int .u8 b, .int .u8 c, .int .u8 d] (retK fun r => r = .ret (.bool true)) (mSu tabC (spL n w) (spL n v) (huL m u)) hs := by
 have h8 := hS.n8
 have h5 := hU.m5
 have hmz := mz_eq hd
 have hmany : d % 6 ≤ 5 := by have := Nat.mod_lt d (show 0 < 6 by omega); omega
 generalize d % 6 = many at hmz hmany
 have hhm : b % m < m := Nat.mod_lt _ hm
 have hhn : c % n < n := Nat.mod_lt _ h0
 have r1 := rem8 hb hm
 have r2 := rem8 hc h0
 have ha : ((a : Nat) : Int).tmod 4 = 0 := by rw [show ((a : Nat) : Int).tmod 4 = ((a % 4 : Nat) : Int) from rfl, hk]; rfl
 have ht : ∀ j : Int, j = 0 → (((a : Nat) : Int).tmod 4 == j) = true := fun j e => by rw [ha, e]; rfl
 have hf : ∀ j : Int, j ≠ 0 → (((a : Nat) : Int).tmod 4 == j) = false := fun j e => by rw [ha]; simp only [beq_eq_false_iff_ne, ne_eq]; exact fun h => e h.symm
 generalize b % m = hut at hhm r1
 generalize c % n = hh at hhn r2
 have hX : Safer rw st n m w v (dnW w hh) v u u := safer_w hS hU hh
 have lp := loop8 (nb := ((d : Nat) : Int)) (cw := cw) (cv := cv) (cu := cu) hS hU hX
 have c21 : ConNOK Tryd.prog 21 (C21s rw st n cw cv m cu many tabC (spL n w) (spL n v) (huL m u) (ints m (bestL (perY st w v n u) many m)) m (bestQ (perY st w v n u) many m : Nat)) := C21d_ok hS hU hmany
 have x21 : ConNOK Tryd.prog 21 (C21s rw st n n n m m many tabC (spL n (dnW w hh)) (spL n v) (huL m u) (ints m (bestL (perY st (dnW w hh) v n u) many m)) m (bestQ (perY st (dnW w hh) v n u) many m : Nat)) := C21d_ok hX.s hX.h hmany
 have pr := pre8 hS hU hX many
 refine ⟨_, (f80 rw st a b c d n cw cv m cu hut hh (bestQ (perY st w v n u) many m) (bestQ (perY st (dnW w hh) v n u) many m) w v (dnW w hh) v u u (bestL (perY st w v n u) many m) (bestL (perY st (dnW w hh) v n u) many m) tabC _).mpr ?_⟩
 rw [hmz, copyA n w, copyA n v, copyC m u, Nat.zero_add n, Nat.zero_add m]
 exact ⟨fun _ => ⟨C11t_ok, rfl, rfl⟩, fun _ => ⟨c20_8 hS hU, rfl, tf (nz8 hm), tf (nz8 h0), r1, r2, grow8s w h0 h8, (by repeat' (first | rfl | trivial | apply And.intro)), grow8s v h0 h8, (by repeat' (first | rfl | trivial | apply And.intro)), grow8h u hm h5, tt (ht 0 rfl), ⟨⟨by omega, by omega⟩, rfl⟩, ⟨by rw [copyB, spL_len]; omega, by rw [spL_part w hhn]; rfl⟩, C28_ok _ _, rfl, (by repeat' (first | rfl | trivial | apply And.intro)), ⟨⟨by omega, by omega⟩, rfl⟩, ⟨by rw [copyB, spL_len]; omega, by rw [copyB]; exact putS hhn⟩, cl8, lp, c21, rfl, x21, rfl, C27_ok pr.q2, rfl, C27_ok pr.q1, rfl, tt pr.le, C11t_ok, rfl, rfl⟩⟩
theorem law8_1 (hS : SOK rw st n w v) (hU : HUK rw m u) (h0 : 0 < n) (hm : 0 < m) (hb : b < 256) (hc : c < 256) (hd : d < 256) (hk : a % 4 = 1) :
    ∃ hs, vx.call 8 [suV rw st n cw cv m cu, .int .u8 a, .int .u8 b, .int .u8 c, .int .u8 d] (retK fun r => r = .ret (.bool true)) (mSu tabC (spL n w) (spL n v) (huL m u)) hs := by
 have h8 := hS.n8
 have h5 := hU.m5
 have hmz := mz_eq hd
 have hmany : d % 6 ≤ 5 := by have := Nat.mod_lt d (show 0 < 6 by omega); omega
 generalize d % 6 = many at hmz hmany
 have hhm : b % m < m := Nat.mod_lt _ hm
 have hhn : c % n < n := Nat.mod_lt _ h0
 have r1 := rem8 hb hm
 have r2 := rem8 hc h0
 have ha : ((a : Nat) : Int).tmod 4 = 1 := by rw [show ((a : Nat) : Int).tmod 4 = ((a % 4 : Nat) : Int) from rfl, hk]; rfl
 have ht : ∀ j : Int, j = 1 → (((a : Nat) : Int).tmod 4 == j) = true := fun j e => by rw [ha, e]; rfl
 have hf : ∀ j : Int, j ≠ 1 → (((a : Nat) : Int).tmod 4 == j) = false := fun j e => by rw [ha]; simp only [beq_eq_false_iff_ne, ne_eq]; exact fun h => e h.symm
 generalize b % m = hut at hhm r1
 generalize c % n = hh at hhn r2
 have hX : Safer rw st n m w v w (dnW v hh) u u := safer_v hS hU hh
 have lp := loop8 (nb := ((d : Nat) : Int)) (cw := cw) (cv := cv) (cu := cu) hS hU hX
 have c21 : ConNOK Tryd.prog 21 (C21s rw st n cw cv m cu many tabC (spL n w) (spL n v) (huL m u) (ints m (bestL (perY st w v n u) many m)) m (bestQ (perY st w v n u) many m : Nat)) := C21d_ok hS hU hmany
 have x21 : ConNOK Tryd.prog 21 (C21s rw st n n n m m many tabC (spL n w) (spL n (dnW v hh)) (huL m u) (ints m (bestL (perY st w (dnW v hh) n u) many m)) m (bestQ (perY st w (dnW v hh) n u) many m : Nat)) := C21d_ok hX.s hX.h hmany
 have pr := pre8 hS hU hX many
 refine ⟨_, (f81 rw st a b c d n cw cv m cu hut hh (bestQ (perY st w v n u) many m) (bestQ (perY st w (dnW v hh) n u) many m) w v w (dnW v hh) u u (bestL (perY st w v n u) many m) (bestL (perY st w (dnW v hh) n u) many m) tabC _).mpr ?_⟩
 rw [hmz, copyA n v, copyA n w, copyC m u, Nat.zero_add n, Nat.zero_add m]
 exact ⟨fun _ => ⟨C11t_ok, rfl, rfl⟩, fun _ => ⟨c20_8 hS hU, rfl, tf (nz8 hm), tf (nz8 h0), r1, r2, grow8s w h0 h8, (by repeat' (first | rfl | trivial | apply And.intro)), grow8s v h0 h8, (by repeat' (first | rfl | trivial | apply And.intro)), grow8h u hm h5, tf (hf 0 (by decide)), tt (ht 1 rfl), ⟨⟨by omega, by omega⟩, rfl⟩, ⟨by rw [copyE, spL_len]; omega, by rw [spL_part v hhn]; rfl⟩, C28_ok _ _, rfl, (by repeat' (first | rfl | trivial | apply And.intro)), ⟨⟨by omega, by omega⟩, rfl⟩, ⟨by rw [copyE, spL_len]; omega, by rw [copyE]; exact putS hhn⟩, cl8, lp, c21, rfl, x21, rfl, C27_ok pr.q2, rfl, C27_ok pr.q1, rfl, tt pr.le, C11t_ok, rfl, rfl⟩⟩
theorem law8_2 (hS : SOK rw st n w v) (hU : HUK rw m u) (h0 : 0 < n) (hm : 0 < m) (hb : b < 256) (hc : c < 256) (hd : d < 256) (hk : a % 4 = 2) :
    ∃ hs, vx.call 8 [suV rw st n cw cv m cu, .int .u8 a, .int .u8 b, .int .u8 c, .int .u8 d] (retK fun r => r = .ret (.bool true)) (mSu tabC (spL n w) (spL n v) (huL m u)) hs := by
 have h8 := hS.n8
 have h5 := hU.m5
 have hmz := mz_eq hd
 have hmany : d % 6 ≤ 5 := by have := Nat.mod_lt d (show 0 < 6 by omega); omega
 generalize d % 6 = many at hmz hmany
 have hhm : b % m < m := Nat.mod_lt _ hm
 have hhn : c % n < n := Nat.mod_lt _ h0
 have r1 := rem8 hb hm
 have r2 := rem8 hc h0
 have ha : ((a : Nat) : Int).tmod 4 = 2 := by rw [show ((a : Nat) : Int).tmod 4 = ((a % 4 : Nat) : Int) from rfl, hk]; rfl
 have ht : ∀ j : Int, j = 2 → (((a : Nat) : Int).tmod 4 == j) = true := fun j e => by rw [ha, e]; rfl
 have hf : ∀ j : Int, j ≠ 2 → (((a : Nat) : Int).tmod 4 == j) = false := fun j e => by rw [ha]; simp only [beq_eq_false_iff_ne, ne_eq]; exact fun h => e h.symm
 generalize b % m = hut at hhm r1
 generalize c % n = hh at hhn r2
 have hX : Safer rw st n m w v w v u (upF u hut) := safer_f hS hU hut
 have lp := loop8 (nb := ((d : Nat) : Int)) (cw := cw) (cv := cv) (cu := cu) hS hU hX
 have c21 : ConNOK Tryd.prog 21 (C21s rw st n cw cv m cu many tabC (spL n w) (spL n v) (huL m u) (ints m (bestL (perY st w v n u) many m)) m (bestQ (perY st w v n u) many m : Nat)) := C21d_ok hS hU hmany
 have x21 : ConNOK Tryd.prog 21 (C21s rw st n n n m m many tabC (spL n w) (spL n v) (huL m (upF u hut)) (ints m (bestL (perY st w v n (upF u hut)) many m)) m (bestQ (perY st w v n (upF u hut)) many m : Nat)) := C21d_ok hX.s hX.h hmany
 have pr := pre8 hS hU hX many
 refine ⟨_, (f82 rw st a b c d n cw cv m cu hut hh (bestQ (perY st w v n u) many m) (bestQ (perY st w v n (upF u hut)) many m) w v w v u (upF u hut) (bestL (perY st w v n u) many m) (bestL (perY st w v n (upF u hut)) many m) tabC _).mpr ?_⟩
 rw [hmz, copyA n w, copyA n v, Nat.zero_add n, Nat.zero_add m]
 exact ⟨fun _ => ⟨C11t_ok, rfl, rfl⟩, fun _ => ⟨c20_8 hS hU, rfl, tf (nz8 hm), tf (nz8 h0), r1, r2, grow8s w h0 h8, (by repeat' (first | rfl | trivial | apply And.intro)), grow8s v h0 h8, (by repeat' (first | rfl | trivial | apply And.intro)), grow8h u hm h5, tf (hf 0 (by decide)), tf (hf 1 (by decide)), tt (ht 2 rfl), ⟨⟨by omega, by omega⟩, rfl⟩, (by rw [copyD, Nat.zero_add]; exact flatC_get (n := m) (k := 3) (g := fun i => huV (u i)) (fun _ _ => rfl) hhm (j := 0) (by omega)), ⟨⟨by omega, by omega⟩, rfl⟩, ⟨by rw [copyD, huL_len]; omega, by rw [copyD]; exact putF hhm⟩, cl8, lp, c21, rfl, x21, rfl, C27_ok pr.q2, rfl, C27_ok pr.q1, rfl, tt pr.le, C11t_ok, rfl, rfl⟩⟩
theorem law8_3 (hS : SOK rw st n w v) (hU : HUK rw m u) (h0 : 0 < n) (hm : 0 < m) (hb : b < 256) (hc : c < 256) (hd : d < 256) (hk : a % 4 = 3) :
    ∃ hs, vx.call 8 [suV rw st n cw cv m cu, .int .u8 a, .int .u8 b, .int .u8 c, .int .u8 d] (retK fun r => r = .ret (.bool true)) (mSu tabC (spL n w) (spL n v) (huL m u)) hs := by
 have h8 := hS.n8
 have h5 := hU.m5
 have hmz := mz_eq hd
 have hmany : d % 6 ≤ 5 := by have := Nat.mod_lt d (show 0 < 6 by omega); omega
 generalize d % 6 = many at hmz hmany
 have hhm : b % m < m := Nat.mod_lt _ hm
 have hhn : c % n < n := Nat.mod_lt _ h0
 have r1 := rem8 hb hm
 have r2 := rem8 hc h0
 have ha : ((a : Nat) : Int).tmod 4 = 3 := by rw [show ((a : Nat) : Int).tmod 4 = ((a % 4 : Nat) : Int) from rfl, hk]; rfl
 have ht : ∀ j : Int, j = 3 → (((a : Nat) : Int).tmod 4 == j) = true := fun j e => by rw [ha, e]; rfl
 have hf : ∀ j : Int, j ≠ 3 → (((a : Nat) : Int).tmod 4 == j) = false := fun j e => by rw [ha]; simp only [beq_eq_false_iff_ne, ne_eq]; exact fun h => e h.symm
 generalize b % m = hut at hhm r1
 generalize c % n = hh at hhn r2
 have hX : Safer rw st n m w v w v u (upB u hut) := safer_b hS hU hut
 have lp := loop8 (nb := ((d : Nat) : Int)) (cw := cw) (cv := cv) (cu := cu) hS hU hX
 have c21 : ConNOK Tryd.prog 21 (C21s rw st n cw cv m cu many tabC (spL n w) (spL n v) (huL m u) (ints m (bestL (perY st w v n u) many m)) m (bestQ (perY st w v n u) many m : Nat)) := C21d_ok hS hU hmany
 have x21 : ConNOK Tryd.prog 21 (C21s rw st n n n m m many tabC (spL n w) (spL n v) (huL m (upB u hut)) (ints m (bestL (perY st w v n (upB u hut)) many m)) m (bestQ (perY st w v n (upB u hut)) many m : Nat)) := C21d_ok hX.s hX.h hmany
 have pr := pre8 hS hU hX many
 refine ⟨_, (f83 rw st a b c d n cw cv m cu hut hh (bestQ (perY st w v n u) many m) (bestQ (perY st w v n (upB u hut)) many m) w v w v u (upB u hut) (bestL (perY st w v n u) many m) (bestL (perY st w v n (upB u hut)) many m) tabC _).mpr ?_⟩
 rw [hmz, copyA n w, copyA n v, Nat.zero_add n, Nat.zero_add m]
 exact ⟨fun _ => ⟨C11t_ok, rfl, rfl⟩, fun _ => ⟨c20_8 hS hU, rfl, tf (nz8 hm), tf (nz8 h0), r1, r2, grow8s w h0 h8, (by repeat' (first | rfl | trivial | apply And.intro)), grow8s v h0 h8, (by repeat' (first | rfl | trivial | apply And.intro)), grow8h u hm h5, tf (hf 0 (by decide)), tf (hf 1 (by decide)), tf (hf 2 (by decide)), ⟨⟨by omega, by omega⟩, rfl⟩, (by rw [copyD, Nat.zero_add]; exact flatC_get (n := m) (k := 3) (g := fun i => huV (u i)) (fun _ _ => rfl) hhm (j := 1) (by omega)), ⟨⟨by omega, by omega⟩, rfl⟩, ⟨by rw [copyD, huL_len]; omega, by rw [copyD]; exact putB hhm⟩, cl8, lp, c21, rfl, x21, rfl, C27_ok pr.q2, rfl, C27_ok pr.q1, rfl, tt pr.le, C11t_ok, rfl, rfl⟩⟩
theorem law8_E (hS : SOK rw st n w v) (hU : HUK rw m u) (h0 : 0 < n) (hm : 0 < m) (hb : b < 256) (hc : c < 256) (hd : d < 256) :
    ∃ hs, vx.call 8 [suV rw st n cw cv m cu, .int .u8 a, .int .u8 b, .int .u8 c, .int .u8 d] (retK fun r => r = .ret (.bool true)) (mSu tabC (spL n w) (spL n v) (huL m u)) hs := by
 have h4 := Nat.mod_lt a (show 0 < 4 by omega)
 obtain h | h | h | h : a % 4 = 0 ∨ a % 4 = 1 ∨ a % 4 = 2 ∨ a % 4 = 3 := by omega
 · exact law8_0 hS hU h0 hm hb hc hd h
 · exact law8_1 hS hU h0 hm hb hc hd h
 · exact law8_2 hS hU h0 hm hb hc hd h
 · exact law8_3 hS hU h0 hm hb hc hd h
end
end Go.Ab
set_option maxRecDepth 100000
namespace Go.Ab
open Go Go.RowKit Go.Proofs
noncomputable def mQH (tb us : List Value) : Mem := ⟨fillX [.dead, .cells tb 1 .ro, .dead, .dead, .cells us 1 .ro] 0 .nil, 5⟩
noncomputable def mQ0 (tb : List Value) : Mem := ⟨fillX [.dead, .cells tb 1 .ro, .dead, .dead, .dead] 0 .nil, 5⟩
noncomputable def mQN (tb ws vs : List Value) : Mem := ⟨fillX [.dead, .cells tb 1 .ro, .cells ws 1 .ro, .cells vs 1 .ro, .dead] 0 .nil, 5⟩
end Go.Ab
