/- package surf: the law SurfFarther, of valid surfs with huts. -/
import Derived.Test.YtoelpblmhmhglaaDoorPU
import Derived.Test.YtoelpblmhmhglaaDoorPW
import Derived.Test.YtoelpblmhmhglaaDoorPL
set_option maxRecDepth 100000
namespace Go.Ab
open Go Go.RowKit Go.Proofs
theorem f9pg (rw : Nat) (st wh nb : Int) (n cw cv m cu hut q q2 a b : Nat) (w v : Nat → Sp) (u x u2 : Nat → Hut) (L K L2 : Nat → Int) (tb : List Value) (c d e f : Int) (b2 : Bool) (R : ARes → Prop) : (vx.call 9 [suV rw st n cw cv m cu, .int .u8 wh, .int .u8 nb] (retK R) (mSu tb (spL n w) (spL n v) (huL m u)) ((21, .val (.bool false)) :: (4, .con (C20 rw st n cw n cv m cu (spL n w) (spL n v) (huL m u) true)) :: (21, .loopW T9n (.exit 0) T9l fun _ => h9l (rw : Int) st wh ((IntKind.i64.wrap nb).tmod 6) n cw cv m cu m m tb (spL n w) (spL n v) (huL m u) (huL m x)) :: (4, .growN) :: (0, .again) :: (0, .growN) :: (4, .conN (C21s rw st n cw cv m cu ((IntKind.i64.wrap nb).tmod 6) tb (spL n w) (spL n v) (huL m u) (ints m L) m q)) :: (9, .conN (C21s rw st n cw cv m m ((IntKind.i64.wrap nb).tmod 6) tb (spL n w) (spL n v) (huL m x) (ints m K) m q2)) :: (25, .con (C27 q)) :: (2, .con (C27 q2)) :: (0, .val (.bool false)) :: (6, .loopW T9b (.exit 2) T9b fun _ => h9b (rw : Int) st wh ((IntKind.i64.wrap nb).tmod 6) n cw cv m cu tb (spL n w) (spL n v) (huL m u) (huL m x) (ints m L) m) :: (1, .val (.bool true)) :: (4, .val (I hut)) :: (7, .growN) :: (5, .val (.pointer (some ⟨18, 0 + hut * 3, none⟩))) :: (1, .val (I (u hut).row)) :: (1, .val (.pointer (some ⟨18, 0 + hut * 3, none⟩))) :: (1, .put (huL m u2)) :: (18, .val (.bool false)) :: (4, .con (C20 rw st n cw n cv (0 + m) (0 + m) (spL n w) (spL n v) (huL m u2) b2)) :: [(0, .split ((4, .con (CS1 rw st n cw cv m cu tb (spL n w) (spL n v) (huL m u) hut (.tuple ⟨[I a, I 0]⟩))) :: (7, .con (CS1 rw st n cw cv (0 + m) (0 + m) tb (spL n w) (spL n v) (huL m u2) hut (.tuple ⟨[I b, I 0]⟩))) :: (7, .con (CS1 rw st n cw cv m cu tb (spL n w) (spL n v) (huL m u) hut (.tuple ⟨[I c, I e]⟩))) :: (7, .con (CS1 rw st n cw cv (0 + m) (0 + m) tb (spL n w) (spL n v) (huL m u2) hut (.tuple ⟨[I d, I f]⟩))) :: (14, .val (.bool false)) :: [(3, .split ([(2, .split ([]) ([(3, .split ([]) ((6, .growN) :: (4, .loopW T9c (.exit 4) T9c fun _ => h9c (rw : Int) st ((IntKind.i64.wrap nb).tmod 6) n cw cv m cu tb (spL n w) (spL n v) (huL m u) (ints m L2) (ints m L) m) :: (2, .conN (C21s rw st n cw cv m cu ((IntKind.i64.wrap nb).tmod 6) tb (spL n w) (spL n v) (huL m u) (ints m L) m q)) :: (12, .con (C30 m m m L)) :: (6, .loopW T9d (.exit 6) T9d fun _ => h9d (rw : Int) st n cw cv m cu tb (spL n w) (spL n v) (huL m u) n) :: (3, .loopW T9e (.exit 8) T9e fun _ => h9e (rw : Int) st n cw cv m cu tb (spL n w) (spL n v) (huL m u) m) :: (0, .con (C11t tb)) :: []))]))]) ((6, .growN) :: (4, .loopW T9c (.exit 4) T9c fun _ => h9c (rw : Int) st ((IntKind.i64.wrap nb).tmod 6) n cw cv m cu tb (spL n w) (spL n v) (huL m u) (ints m L2) (ints m L) m) :: (2, .conN (C21s rw st n cw cv m cu ((IntKind.i64.wrap nb).tmod 6) tb (spL n w) (spL n v) (huL m u) (ints m L) m q)) :: (12, .con (C30 m m m L)) :: (6, .loopW T9d (.exit 6) T9d fun _ => h9d (rw : Int) st n cw cv m cu tb (spL n w) (spL n v) (huL m u) n) :: (3, .loopW T9e (.exit 8) T9e fun _ => h9e (rw : Int) st n cw cv m cu tb (spL n w) (spL n v) (huL m u) m) :: (0, .con (C11t tb)) :: []))]) ((4, .growN) :: (4, .loopW T9c (.exit 4) T9c fun _ => h9c (rw : Int) st ((IntKind.i64.wrap nb).tmod 6) n cw cv m cu tb (spL n w) (spL n v) (huL m u) (ints m L2) (ints m L) m) :: (2, .conN (C21s rw st n cw cv m cu ((IntKind.i64.wrap nb).tmod 6) tb (spL n w) (spL n v) (huL m u) (ints m L) m q)) :: (12, .con (C30 m m m L)) :: (6, .loopW T9d (.exit 6) T9d fun _ => h9d (rw : Int) st n cw cv m cu tb (spL n w) (spL n v) (huL m u) n) :: (3, .loopW T9e (.exit 8) T9e fun _ => h9e (rw : Int) st n cw cv m cu tb (spL n w) (spL n v) (huL m u) m) :: (0, .con (C11t tb)) :: []))])) =
((OT (farB m n n) false) ∧
(CA 20 (C20 rw st n cw n cv m cu (spL n w) (spL n v) (huL m u) true) ⟨⟨[I rw, I st], [⟨n, cw⟩, ⟨n, cv⟩, ⟨m, cu⟩]⟩, [spL n w, spL n v, huL m u]⟩ <|
(LW p9a T9n ⟨⟨[.int IntKind.u8 wh, I m, I ((IntKind.i64.wrap nb).tmod 6), I m, I 0, I rw, I st, I rw, I st], [⟨n, cw⟩, ⟨n, cv⟩, ⟨m, cu⟩, ⟨n, cw⟩, ⟨n, cv⟩]⟩, [tb, spL n w, spL n v, huL m u], []⟩ (.exit 0) T9l (h9l (rw : Int) st wh ((IntKind.i64.wrap nb).tmod 6) n cw cv m cu m m tb (spL n w) (spL n v) (huL m u) (huL m x)) <|
((GN n (0 + n) 2 16 (spL n w)) ∧
((((((.slice (.some ⟨(11 : Nat), (0 : Nat), .none⟩) (0 : Nat) (0 : Nat)) : Value) = (.slice (.some ⟨(11 : Nat), (0 : Nat), .none⟩) (0 : Nat) (0 : Nat))) ∧ ((some (.cells [] (36 : Nat) .row) : Option ABlk) = some (.cells [] (36 : Nat) .row))) ∧ (SV 4 m cu)) ∧
((GN m (0 + m) 3 24 (huL m u)) ∧
(CN 21 (C21s rw st n cw cv m cu ((IntKind.i64.wrap nb).tmod 6) tb (spL n w) (spL n v) (huL m u) (ints m L) m q) ⟨⟨[I rw, I st, I ((IntKind.i64.wrap nb).tmod 6)], [⟨n, cw⟩, ⟨n, cv⟩, ⟨m, cu⟩]⟩, [tb, spL n w, spL n v, huL m u]⟩ <|
(CN 21 (C21s rw st n cw cv m m ((IntKind.i64.wrap nb).tmod 6) tb (spL n w) (spL n v) (huL m x) (ints m K) m q2) ⟨⟨[I rw, I st, I ((IntKind.i64.wrap nb).tmod 6)], [⟨n, cw⟩, ⟨n, cv⟩, ⟨m, m⟩]⟩, [tb, spL n w, spL n v, huL m x]⟩ <|
(CA 27 (C27 q) ⟨⟨[I q], []⟩, []⟩ <|
(CA 27 (C27 q2) ⟨⟨[I q2], []⟩, []⟩ <|
((OT ((↑(popN q) : Int) != (↑(popN q2) : Int)) false) ∧
(LW p9b T9b ⟨⟨[.int IntKind.u8 wh, I m, I ((IntKind.i64.wrap nb).tmod 6), I m, I 0, I rw, I st, I rw, I st], [⟨(0 : Nat) + n, (0 : Nat) + n⟩, ⟨(0 : Nat) + m, (0 : Nat) + m⟩, ⟨m, m⟩, ⟨n, cw⟩, ⟨n, cv⟩, ⟨m, cu⟩, ⟨n, cw⟩, ⟨n, cv⟩, ⟨m, m⟩]⟩, [tb, spL n w, spL n v, huL m u, huL m x, [] ++ (List.take (n * (2 : Nat)) (List.drop (0 : Nat) (spL n w))), [] ++ (List.take (m * (3 : Nat)) (List.drop (0 : Nat) (huL m u))), ints m L], []⟩ (.exit 2) T9b (h9b (rw : Int) st wh ((IntKind.i64.wrap nb).tmod 6) n cw cv m cu tb (spL n w) (spL n v) (huL m u) (huL m x) (ints m L) m) <|
((OT (decide ((m : Int) > 0)) true) ∧
(((((m : Int) ≠ (0 : Int)) ∧ (IntKind.i64 = IntKind.i64)) ∧ (((I hut) : Value) = (I ((IntKind.i64.wrap wh).tmod (m : Int))))) ∧
((GN m (0 + m) 3 24 (huL m u)) ∧
(((((0 : Int) ≤ hut) ∧ ((hut : Int) < (↑((0 : Nat) + m) : Int))) ∧ (VR (.pointer (some ⟨18, 0 + hut * 3, none⟩)))) ∧
(((List.take (0 : Nat) [] ++ List.take (m * (3 : Nat)) (List.drop (0 : Nat) (huL m u)))[(0 : Nat) + hut * (3 : Nat) + (2 : Nat)]? = some (I (u hut).row)) ∧
(((((0 : Int) ≤ hut) ∧ ((hut : Int) < (↑((0 : Nat) + m) : Int))) ∧ (VR (.pointer (some ⟨18, 0 + hut * 3, none⟩)))) ∧
((((0 : Nat) + hut * (3 : Nat) + (2 : Nat) + (1 : Nat) ≤ (List.take (0 : Nat) [] ++ List.take (m * (3 : Nat)) (List.drop (0 : Nat) (huL m u))).length) ∧ (List.take ((0 : Nat) + hut * (3 : Nat) + (2 : Nat)) (List.take (0 : Nat) [] ++ List.take (m * (3 : Nat)) (List.drop (0 : Nat) (huL m u))) ++ [Value.int .i64 (IntKind.i64.wrap ((↑(u hut).row : Int) + (1 : Int)))] ++ List.drop ((0 : Nat) + hut * (3 : Nat) + (2 : Nat) + (1 : Nat)) (List.take (0 : Nat) [] ++ List.take (m * (3 : Nat)) (List.drop (0 : Nat) (huL m u))) = huL m u2)) ∧
(((some (.bool (decide ((if (↑((0 : Nat) + m) : Int) > if (n : Int) > (n : Int) then (n : Int) else (n : Int) then (↑((0 : Nat) + m) : Int) else if (n : Int) > (n : Int) then (n : Int) else (n : Int)) > (40 : Int)))) : Option Value) = some (.bool false)) ∧
(CA 20 (C20 rw st n cw n cv (0 + m) (0 + m) (spL n w) (spL n v) (huL m u2) b2) ⟨⟨[I rw, I st], [⟨n, cw⟩, ⟨n, cv⟩, ⟨(0 : Nat) + m, (0 : Nat) + m⟩]⟩, [spL n w, spL n v, huL m u2]⟩ <|
((b2 = true → (CA 15 (CS1 rw st n cw cv m cu tb (spL n w) (spL n v) (huL m u) hut (.tuple ⟨[I a, I 0]⟩)) ⟨⟨[I rw, I st, I hut], [⟨n, cw⟩, ⟨n, cv⟩, ⟨m, cu⟩]⟩, [tb, spL n w, spL n v, huL m u]⟩ <|
(CA 15 (CS1 rw st n cw cv (0 + m) (0 + m) tb (spL n w) (spL n v) (huL m u2) hut (.tuple ⟨[I b, I 0]⟩)) ⟨⟨[I rw, I st, I hut], [⟨n, cw⟩, ⟨n, cv⟩, ⟨(0 : Nat) + m, (0 : Nat) + m⟩]⟩, [tb, spL n w, spL n v, huL m u2]⟩ <|
(CA 16 (CS1 rw st n cw cv m cu tb (spL n w) (spL n v) (huL m u) hut (.tuple ⟨[I c, I e]⟩)) ⟨⟨[I rw, I st, I hut], [⟨n, cw⟩, ⟨n, cv⟩, ⟨m, cu⟩]⟩, [tb, spL n w, spL n v, huL m u]⟩ <|
(CA 16 (CS1 rw st n cw cv (0 + m) (0 + m) tb (spL n w) (spL n v) (huL m u2) hut (.tuple ⟨[I d, I f]⟩)) ⟨⟨[I rw, I st, I hut], [⟨n, cw⟩, ⟨n, cv⟩, ⟨(0 : Nat) + m, (0 : Nat) + m⟩]⟩, [tb, spL n w, spL n v, huL m u2]⟩ <|
((OT (decide ((b : Int) > a)) false) ∧
(((f == (0 : Int)) = true → (((e != (0 : Int)) = true → R (.ret (.bool false))) ∧
((e != (0 : Int)) = false → (((decide (d < c)) = true → R (.ret (.bool false))) ∧
((decide (d < c)) = false → ((GN m (0 + m) 1 8 (ints m L)) ∧
(LW p9c T9c ⟨⟨[I ((IntKind.i64.wrap nb).tmod 6), I m, I 0, I rw, I st], [⟨n, n⟩, ⟨m, m⟩, ⟨m, m⟩, ⟨(0 : Nat) + m, (0 : Nat) + m⟩, ⟨n, cw⟩, ⟨n, cv⟩, ⟨m, cu⟩]⟩, [tb, spL n w, spL n v, huL m u, spL n w, huL m u, ints m L, [] ++ (List.take (m * (1 : Nat)) (List.drop (0 : Nat) (ints m L)))], []⟩ (.exit 4) T9c (h9c (rw : Int) st ((IntKind.i64.wrap nb).tmod 6) n cw cv m cu tb (spL n w) (spL n v) (huL m u) (ints m L2) (ints m L) m) <|
(CN 21 (C21s rw st n cw cv m cu ((IntKind.i64.wrap nb).tmod 6) tb (spL n w) (spL n v) (huL m u) (ints m L) m q) ⟨⟨[I rw, I st, I ((IntKind.i64.wrap nb).tmod 6)], [⟨n, cw⟩, ⟨n, cv⟩, ⟨m, cu⟩]⟩, [tb, spL n w, spL n v, huL m u]⟩ <|
(CA 30 (C30 m m m L) ⟨⟨[], [⟨m, m⟩, ⟨m, m⟩]⟩, [ints m L, ints m L]⟩ <|
(LW p9d T9d ⟨⟨[I n, I 0, I rw, I st], [⟨n, n⟩, ⟨m, m⟩, ⟨n, cw⟩, ⟨n, cv⟩, ⟨m, cu⟩]⟩, [tb, spL n w, spL n v, huL m u, spL n w, huL m u], []⟩ (.exit 6) T9d (h9d (rw : Int) st n cw cv m cu tb (spL n w) (spL n v) (huL m u) n) <|
(LW p9e T9e ⟨⟨[I m, I 0, I rw, I st], [⟨m, m⟩, ⟨n, cw⟩, ⟨n, cv⟩, ⟨m, cu⟩]⟩, [tb, spL n w, spL n v, huL m u, huL m u], []⟩ (.exit 8) T9e (h9e (rw : Int) st n cw cv m cu tb (spL n w) (spL n v) (huL m u) m) <|
(CA 11 (C11t tb) ⟨⟨[], []⟩, [tb]⟩ <|
R (.ret (.bool true)))))))))))))) ∧
((f == (0 : Int)) = false → ((GN m (0 + m) 1 8 (ints m L)) ∧
(LW p9c T9c ⟨⟨[I ((IntKind.i64.wrap nb).tmod 6), I m, I 0, I rw, I st], [⟨n, n⟩, ⟨m, m⟩, ⟨m, m⟩, ⟨(0 : Nat) + m, (0 : Nat) + m⟩, ⟨n, cw⟩, ⟨n, cv⟩, ⟨m, cu⟩]⟩, [tb, spL n w, spL n v, huL m u, spL n w, huL m u, ints m L, [] ++ (List.take (m * (1 : Nat)) (List.drop (0 : Nat) (ints m L)))], []⟩ (.exit 4) T9c (h9c (rw : Int) st ((IntKind.i64.wrap nb).tmod 6) n cw cv m cu tb (spL n w) (spL n v) (huL m u) (ints m L2) (ints m L) m) <|
(CN 21 (C21s rw st n cw cv m cu ((IntKind.i64.wrap nb).tmod 6) tb (spL n w) (spL n v) (huL m u) (ints m L) m q) ⟨⟨[I rw, I st, I ((IntKind.i64.wrap nb).tmod 6)], [⟨n, cw⟩, ⟨n, cv⟩, ⟨m, cu⟩]⟩, [tb, spL n w, spL n v, huL m u]⟩ <|
(CA 30 (C30 m m m L) ⟨⟨[], [⟨m, m⟩, ⟨m, m⟩]⟩, [ints m L, ints m L]⟩ <|
(LW p9d T9d ⟨⟨[I n, I 0, I rw, I st], [⟨n, n⟩, ⟨m, m⟩, ⟨n, cw⟩, ⟨n, cv⟩, ⟨m, cu⟩]⟩, [tb, spL n w, spL n v, huL m u, spL n w, huL m u], []⟩ (.exit 6) T9d (h9d (rw : Int) st n cw cv m cu tb (spL n w) (spL n v) (huL m u) n) <|
(LW p9e T9e ⟨⟨[I m, I 0, I rw, I st], [⟨m, m⟩, ⟨n, cw⟩, ⟨n, cv⟩, ⟨m, cu⟩]⟩, [tb, spL n w, spL n v, huL m u, huL m u], []⟩ (.exit 8) T9e (h9e (rw : Int) st n cw cv m cu tb (spL n w) (spL n v) (huL m u) m) <|
(CA 11 (C11t tb) ⟨⟨[], []⟩, [tb]⟩ <|
R (.ret (.bool true))))))))))))))))) ∧
(b2 = false → ((GN m (0 + m) 1 8 (ints m L)) ∧
(LW p9c T9c ⟨⟨[I ((IntKind.i64.wrap nb).tmod 6), I m, I 0, I rw, I st], [⟨n, n⟩, ⟨m, m⟩, ⟨m, m⟩, ⟨(0 : Nat) + m, (0 : Nat) + m⟩, ⟨n, cw⟩, ⟨n, cv⟩, ⟨m, cu⟩]⟩, [tb, spL n w, spL n v, huL m u, spL n w, huL m u, ints m L, [] ++ (List.take (m * (1 : Nat)) (List.drop (0 : Nat) (ints m L)))], []⟩ (.exit 4) T9c (h9c (rw : Int) st ((IntKind.i64.wrap nb).tmod 6) n cw cv m cu tb (spL n w) (spL n v) (huL m u) (ints m L2) (ints m L) m) <|
(CN 21 (C21s rw st n cw cv m cu ((IntKind.i64.wrap nb).tmod 6) tb (spL n w) (spL n v) (huL m u) (ints m L) m q) ⟨⟨[I rw, I st, I ((IntKind.i64.wrap nb).tmod 6)], [⟨n, cw⟩, ⟨n, cv⟩, ⟨m, cu⟩]⟩, [tb, spL n w, spL n v, huL m u]⟩ <|
(CA 30 (C30 m m m L) ⟨⟨[], [⟨m, m⟩, ⟨m, m⟩]⟩, [ints m L, ints m L]⟩ <|
(LW p9d T9d ⟨⟨[I n, I 0, I rw, I st], [⟨n, n⟩, ⟨m, m⟩, ⟨n, cw⟩, ⟨n, cv⟩, ⟨m, cu⟩]⟩, [tb, spL n w, spL n v, huL m u, spL n w, huL m u], []⟩ (.exit 6) T9d (h9d (rw : Int) st n cw cv m cu tb (spL n w) (spL n v) (huL m u) n) <|
(LW p9e T9e ⟨⟨[I m, I 0, I rw, I st], [⟨m, m⟩, ⟨n, cw⟩, ⟨n, cv⟩, ⟨m, cu⟩]⟩, [tb, spL n w, spL n v, huL m u, huL m u], []⟩ (.exit 8) T9e (h9e (rw : Int) st n cw cv m cu tb (spL n w) (spL n v) (huL m u) m) <|
(CA 11 (C11t tb) ⟨⟨[], []⟩, [tb]⟩ <|
R (.ret (.bool true)))))))))))))))))))))))))))))))) := by kernel_rfl
theorem f9zg (rw : Nat) (st wh nb : Int) (cw cv m cu hut q q2 a b : Nat) (w v : Nat → Sp) (u x u2 : Nat → Hut) (L K L2 : Nat → Int) (tb : List Value) (b2 : Bool) (R : ARes → Prop) : (vx.call 9 [suV rw st 0 cw cv m cu, .int .u8 wh, .int .u8 nb] (retK R) (mSu tb (spL 0 w) (spL 0 v) (huL m u)) ((21, .val (.bool false)) :: (4, .con (C20 rw st 0 cw 0 cv m cu (spL 0 w) (spL 0 v) (huL m u) true)) :: (21, .loopW T9n (.exit 0) T9l fun _ => h9l (rw : Int) st wh ((IntKind.i64.wrap nb).tmod 6) (0 : Nat) cw cv m cu m m tb (spL (0 : Nat) w) (spL (0 : Nat) v) (huL m u) (huL m x)) :: (5, .again) :: (0, .growN) :: (4, .conN (C21s rw st 0 cw cv m cu ((IntKind.i64.wrap nb).tmod 6) tb (spL 0 w) (spL 0 v) (huL m u) (ints m L) m q)) :: (9, .conN (C21s rw st 0 cw cv m m ((IntKind.i64.wrap nb).tmod 6) tb (spL 0 w) (spL 0 v) (huL m x) (ints m K) m q2)) :: (25, .con (C27 q)) :: (2, .con (C27 q2)) :: (0, .val (.bool false)) :: (6, .loopW T9bz (.exit 2) T9bz fun _ => h9bz (rw : Int) st wh ((IntKind.i64.wrap nb).tmod 6) cw cv m cu tb (spL (0 : Nat) w) (spL (0 : Nat) v) (huL m u) (huL m x) (ints m L) m) :: (1, .val (.bool true)) :: (4, .val (I hut)) :: (7, .growN) :: (5, .val (.pointer (some ⟨17, 0 + hut * 3, none⟩))) :: (1, .val (I (u hut).row)) :: (1, .val (.pointer (some ⟨17, 0 + hut * 3, none⟩))) :: (1, .put (huL m u2)) :: (18, .val (.bool false)) :: (4, .con (C20 rw st 0 cw 0 cv (0 + m) (0 + m) (spL 0 w) (spL 0 v) (huL m u2) b2)) :: [(0, .split ((4, .con (CS1 rw st 0 cw cv m cu tb (spL 0 w) (spL 0 v) (huL m u) hut (.tuple ⟨[I a, I 0]⟩))) :: (7, .con (CS1 rw st 0 cw cv (0 + m) (0 + m) tb (spL 0 w) (spL 0 v) (huL m u2) hut (.tuple ⟨[I b, I 0]⟩))) :: (7, .con (CS1 rw st 0 cw cv m cu tb (spL 0 w) (spL 0 v) (huL m u) hut (.tuple ⟨[I 0, I 4]⟩))) :: (7, .con (CS1 rw st 0 cw cv (0 + m) (0 + m) tb (spL 0 w) (spL 0 v) (huL m u2) hut (.tuple ⟨[I 0, I 4]⟩))) :: (14, .val (.bool false)) :: (10, .growN) :: (4, .loopW T9cz (.exit 4) T9cz fun _ => h9cz (rw : Int) st ((IntKind.i64.wrap nb).tmod 6) cw cv m cu tb (spL (0 : Nat) w) (spL (0 : Nat) v) (huL m u) (ints m L2) (ints m L) m) :: (2, .conN (C21s rw st 0 cw cv m cu ((IntKind.i64.wrap nb).tmod 6) tb (spL 0 w) (spL 0 v) (huL m u) (ints m L) m q)) :: (12, .con (C30 m m m L)) :: (12, .loopW T9ez (.exit 8) T9ez fun _ => h9ez (rw : Int) st cw cv m cu tb (spL (0 : Nat) w) (spL (0 : Nat) v) (huL m u) m) :: (0, .con (C11t tb)) :: []) ((4, .growN) :: (4, .loopW T9cz (.exit 4) T9cz fun _ => h9cz (rw : Int) st ((IntKind.i64.wrap nb).tmod 6) cw cv m cu tb (spL (0 : Nat) w) (spL (0 : Nat) v) (huL m u) (ints m L2) (ints m L) m) :: (2, .conN (C21s rw st 0 cw cv m cu ((IntKind.i64.wrap nb).tmod 6) tb (spL 0 w) (spL 0 v) (huL m u) (ints m L) m q)) :: (12, .con (C30 m m m L)) :: (12, .loopW T9ez (.exit 8) T9ez fun _ => h9ez (rw : Int) st cw cv m cu tb (spL (0 : Nat) w) (spL (0 : Nat) v) (huL m u) m) :: (0, .con (C11t tb)) :: []))])) =
((OT (farB m 0 0) false) ∧
(CA 20 (C20 rw st 0 cw 0 cv m cu (spL 0 w) (spL 0 v) (huL m u) true) ⟨⟨[I rw, I st], [⟨(0 : Nat), cw⟩, ⟨(0 : Nat), cv⟩, ⟨m, cu⟩]⟩, [[], [], huL m u]⟩ <|
(LW p9a T9n ⟨⟨[.int IntKind.u8 wh, I m, I ((IntKind.i64.wrap nb).tmod 6), I m, I 0, I rw, I st, I rw, I st], [⟨(0 : Nat), cw⟩, ⟨(0 : Nat), cv⟩, ⟨m, cu⟩, ⟨(0 : Nat), cw⟩, ⟨(0 : Nat), cv⟩]⟩, [tb, [], [], huL m u], []⟩ (.exit 0) T9l (h9l (rw : Int) st wh ((IntKind.i64.wrap nb).tmod 6) (0 : Nat) cw cv m cu m m tb (spL (0 : Nat) w) (spL (0 : Nat) v) (huL m u) (huL m x)) <|
((((((.slice (.some ⟨(11 : Nat), (0 : Nat), .none⟩) (0 : Nat) (0 : Nat)) : Value) = (.slice (.some ⟨(11 : Nat), (0 : Nat), .none⟩) (0 : Nat) (0 : Nat))) ∧ ((some (.cells [] (36 : Nat) .row) : Option ABlk) = some (.cells [] (36 : Nat) .row))) ∧ (SV 4 m cu)) ∧
((GN m (0 + m) 3 24 (huL m u)) ∧
(CN 21 (C21s rw st 0 cw cv m cu ((IntKind.i64.wrap nb).tmod 6) tb (spL 0 w) (spL 0 v) (huL m u) (ints m L) m q) ⟨⟨[I rw, I st, I ((IntKind.i64.wrap nb).tmod 6)], [⟨(0 : Nat), cw⟩, ⟨(0 : Nat), cv⟩, ⟨m, cu⟩]⟩, [tb, [], [], huL m u]⟩ <|
(CN 21 (C21s rw st 0 cw cv m m ((IntKind.i64.wrap nb).tmod 6) tb (spL 0 w) (spL 0 v) (huL m x) (ints m K) m q2) ⟨⟨[I rw, I st, I ((IntKind.i64.wrap nb).tmod 6)], [⟨(0 : Nat), cw⟩, ⟨(0 : Nat), cv⟩, ⟨m, m⟩]⟩, [tb, [], [], huL m x]⟩ <|
(CA 27 (C27 q) ⟨⟨[I q], []⟩, []⟩ <|
(CA 27 (C27 q2) ⟨⟨[I q2], []⟩, []⟩ <|
((OT ((↑(popN q) : Int) != (↑(popN q2) : Int)) false) ∧
(LW p9b T9bz ⟨⟨[.int IntKind.u8 wh, I m, I ((IntKind.i64.wrap nb).tmod 6), I m, I 0, I rw, I st, I rw, I st], [⟨(0 : Nat), (0 : Nat)⟩, ⟨(0 : Nat) + m, (0 : Nat) + m⟩, ⟨m, m⟩, ⟨(0 : Nat), cw⟩, ⟨(0 : Nat), cv⟩, ⟨m, cu⟩, ⟨(0 : Nat), cw⟩, ⟨(0 : Nat), cv⟩, ⟨m, m⟩]⟩, [tb, [], [], huL m u, huL m x, [] ++ (List.take (m * (3 : Nat)) (List.drop (0 : Nat) (huL m u))), ints m L], []⟩ (.exit 2) T9bz (h9bz (rw : Int) st wh ((IntKind.i64.wrap nb).tmod 6) cw cv m cu tb (spL (0 : Nat) w) (spL (0 : Nat) v) (huL m u) (huL m x) (ints m L) m) <|
((OT (decide ((m : Int) > 0)) true) ∧
(((((m : Int) ≠ (0 : Int)) ∧ (IntKind.i64 = IntKind.i64)) ∧ (((I hut) : Value) = (I ((IntKind.i64.wrap wh).tmod (m : Int))))) ∧
((GN m (0 + m) 3 24 (huL m u)) ∧
(((((0 : Int) ≤ hut) ∧ ((hut : Int) < (↑((0 : Nat) + m) : Int))) ∧ (VR (.pointer (some ⟨17, 0 + hut * 3, none⟩)))) ∧
(((List.take (0 : Nat) [] ++ List.take (m * (3 : Nat)) (List.drop (0 : Nat) (huL m u)))[(0 : Nat) + hut * (3 : Nat) + (2 : Nat)]? = some (I (u hut).row)) ∧
(((((0 : Int) ≤ hut) ∧ ((hut : Int) < (↑((0 : Nat) + m) : Int))) ∧ (VR (.pointer (some ⟨17, 0 + hut * 3, none⟩)))) ∧
((((0 : Nat) + hut * (3 : Nat) + (2 : Nat) + (1 : Nat) ≤ (List.take (0 : Nat) [] ++ List.take (m * (3 : Nat)) (List.drop (0 : Nat) (huL m u))).length) ∧ (List.take ((0 : Nat) + hut * (3 : Nat) + (2 : Nat)) (List.take (0 : Nat) [] ++ List.take (m * (3 : Nat)) (List.drop (0 : Nat) (huL m u))) ++ [Value.int .i64 (IntKind.i64.wrap ((↑(u hut).row : Int) + (1 : Int)))] ++ List.drop ((0 : Nat) + hut * (3 : Nat) + (2 : Nat) + (1 : Nat)) (List.take (0 : Nat) [] ++ List.take (m * (3 : Nat)) (List.drop (0 : Nat) (huL m u))) = huL m u2)) ∧
(((some (.bool (decide ((if (↑((0 : Nat) + m) : Int) > if (↑(0 : Nat) : Int) > (↑(0 : Nat) : Int) then (↑(0 : Nat) : Int) else (↑(0 : Nat) : Int) then (↑((0 : Nat) + m) : Int) else if (↑(0 : Nat) : Int) > (↑(0 : Nat) : Int) then (↑(0 : Nat) : Int) else (↑(0 : Nat) : Int)) > (40 : Int)))) : Option Value) = some (.bool false)) ∧
(CA 20 (C20 rw st 0 cw 0 cv (0 + m) (0 + m) (spL 0 w) (spL 0 v) (huL m u2) b2) ⟨⟨[I rw, I st], [⟨(0 : Nat), cw⟩, ⟨(0 : Nat), cv⟩, ⟨(0 : Nat) + m, (0 : Nat) + m⟩]⟩, [[], [], huL m u2]⟩ <|
((b2 = true → (CA 15 (CS1 rw st 0 cw cv m cu tb (spL 0 w) (spL 0 v) (huL m u) hut (.tuple ⟨[I a, I 0]⟩)) ⟨⟨[I rw, I st, I hut], [⟨(0 : Nat), cw⟩, ⟨(0 : Nat), cv⟩, ⟨m, cu⟩]⟩, [tb, [], [], huL m u]⟩ <|
(CA 15 (CS1 rw st 0 cw cv (0 + m) (0 + m) tb (spL 0 w) (spL 0 v) (huL m u2) hut (.tuple ⟨[I b, I 0]⟩)) ⟨⟨[I rw, I st, I hut], [⟨(0 : Nat), cw⟩, ⟨(0 : Nat), cv⟩, ⟨(0 : Nat) + m, (0 : Nat) + m⟩]⟩, [tb, [], [], huL m u2]⟩ <|
(CA 16 (CS1 rw st 0 cw cv m cu tb (spL 0 w) (spL 0 v) (huL m u) hut (.tuple ⟨[I 0, I 4]⟩)) ⟨⟨[I rw, I st, I hut], [⟨(0 : Nat), cw⟩, ⟨(0 : Nat), cv⟩, ⟨m, cu⟩]⟩, [tb, [], [], huL m u]⟩ <|
(CA 16 (CS1 rw st 0 cw cv (0 + m) (0 + m) tb (spL 0 w) (spL 0 v) (huL m u2) hut (.tuple ⟨[I 0, I 4]⟩)) ⟨⟨[I rw, I st, I hut], [⟨(0 : Nat), cw⟩, ⟨(0 : Nat), cv⟩, ⟨(0 : Nat) + m, (0 : Nat) + m⟩]⟩, [tb, [], [], huL m u2]⟩ <|
((OT (decide ((b : Int) > a)) false) ∧
((GN m (0 + m) 1 8 (ints m L)) ∧
(LW p9c T9cz ⟨⟨[I ((IntKind.i64.wrap nb).tmod 6), I m, I 0, I rw, I st], [⟨(0 : Nat), (0 : Nat)⟩, ⟨m, m⟩, ⟨m, m⟩, ⟨(0 : Nat) + m, (0 : Nat) + m⟩, ⟨(0 : Nat), cw⟩, ⟨(0 : Nat), cv⟩, ⟨m, cu⟩]⟩, [tb, [], [], huL m u, huL m u, ints m L, [] ++ (List.take (m * (1 : Nat)) (List.drop (0 : Nat) (ints m L)))], []⟩ (.exit 4) T9cz (h9cz (rw : Int) st ((IntKind.i64.wrap nb).tmod 6) cw cv m cu tb (spL (0 : Nat) w) (spL (0 : Nat) v) (huL m u) (ints m L2) (ints m L) m) <|
(CN 21 (C21s rw st 0 cw cv m cu ((IntKind.i64.wrap nb).tmod 6) tb (spL 0 w) (spL 0 v) (huL m u) (ints m L) m q) ⟨⟨[I rw, I st, I ((IntKind.i64.wrap nb).tmod 6)], [⟨(0 : Nat), cw⟩, ⟨(0 : Nat), cv⟩, ⟨m, cu⟩]⟩, [tb, [], [], huL m u]⟩ <|
(CA 30 (C30 m m m L) ⟨⟨[], [⟨m, m⟩, ⟨m, m⟩]⟩, [ints m L, ints m L]⟩ <|
(LW p9e T9ez ⟨⟨[I m, I 0, I rw, I st], [⟨m, m⟩, ⟨(0 : Nat), cw⟩, ⟨(0 : Nat), cv⟩, ⟨m, cu⟩]⟩, [tb, [], [], huL m u, huL m u], []⟩ (.exit 8) T9ez (h9ez (rw : Int) st cw cv m cu tb (spL (0 : Nat) w) (spL (0 : Nat) v) (huL m u) m) <|
(CA 11 (C11t tb) ⟨⟨[], []⟩, [tb]⟩ <|
R (.ret (.bool true)))))))))))))) ∧
(b2 = false → ((GN m (0 + m) 1 8 (ints m L)) ∧
(LW p9c T9cz ⟨⟨[I ((IntKind.i64.wrap nb).tmod 6), I m, I 0, I rw, I st], [⟨(0 : Nat), (0 : Nat)⟩, ⟨m, m⟩, ⟨m, m⟩, ⟨(0 : Nat) + m, (0 : Nat) + m⟩, ⟨(0 : Nat), cw⟩, ⟨(0 : Nat), cv⟩, ⟨m, cu⟩]⟩, [tb, [], [], huL m u, huL m u, ints m L, [] ++ (List.take (m * (1 : Nat)) (List.drop (0 : Nat) (ints m L)))], []⟩ (.exit 4) T9cz (h9cz (rw : Int) st ((IntKind.i64.wrap nb).tmod 6) cw cv m cu tb (spL (0 : Nat) w) (spL (0 : Nat) v) (huL m u) (ints m L2) (ints m L) m) <|
(CN 21 (C21s rw st 0 cw cv m cu ((IntKind.i64.wrap nb).tmod 6) tb (spL 0 w) (spL 0 v) (huL m u) (ints m L) m q) ⟨⟨[I rw, I st, I ((IntKind.i64.wrap nb).tmod 6)], [⟨(0 : Nat), cw⟩, ⟨(0 : Nat), cv⟩, ⟨m, cu⟩]⟩, [tb, [], [], huL m u]⟩ <|
(CA 30 (C30 m m m L) ⟨⟨[], [⟨m, m⟩, ⟨m, m⟩]⟩, [ints m L, ints m L]⟩ <|
(LW p9e T9ez ⟨⟨[I m, I 0, I rw, I st], [⟨m, m⟩, ⟨(0 : Nat), cw⟩, ⟨(0 : Nat), cv⟩, ⟨m, cu⟩]⟩, [tb, [], [], huL m u, huL m u], []⟩ (.exit 8) T9ez (h9ez (rw : Int) st cw cv m cu tb (spL (0 : Nat) w) (spL (0 : Nat) v) (huL m u) m) <|
(CA 11 (C11t tb) ⟨⟨[], []⟩, [tb]⟩ <|
R (.ret (.bool true)))))))))))))))))))))))))))))) := by kernel_rfl
theorem f9ng (rw : Nat) (st wh nb : Int) (c1 m cu hut q q2 : Nat) (u x u2 : Nat → Hut) (L K L2 : Nat → Int) (tb : List Value) (b2 : Bool) (R : ARes → Prop) : (vx.call 9 [su_n rw st c1 m cu, .int .u8 wh, .int .u8 nb] (retK R) (mQH tb (huL m u)) ((21, .val (.bool false)) :: (4, .con (C20n rw st c1 m cu (huL m u) true)) :: (21, .loopW T9nn (.exit 0) T9ln fun _ => h9ln (rw : Int) st wh ((IntKind.i64.wrap nb).tmod 6) c1 m cu m m tb (huL m u) (huL m x)) :: (5, .again) :: (0, .growN) :: (4, .conN (C21n rw st c1 m cu (huL m u) ((IntKind.i64.wrap nb).tmod 6) (ints m L) q)) :: (9, .conN (C21n rw st c1 m m (huL m x) ((IntKind.i64.wrap nb).tmod 6) (ints m K) q2)) :: (25, .con (C27 q)) :: (2, .con (C27 q2)) :: (0, .val (.bool false)) :: (6, .loopW T9bn (.exit 2) T9bn fun _ => h9bn (rw : Int) st wh ((IntKind.i64.wrap nb).tmod 6) c1 m cu tb (huL m u) (huL m x) (ints m L) m) :: (1, .val (.bool true)) :: (4, .val (I hut)) :: (7, .growN) :: (5, .val (.pointer (some ⟨17, 0 + hut * 3, none⟩))) :: (1, .val (I (u hut).row)) :: (1, .val (.pointer (some ⟨17, 0 + hut * 3, none⟩))) :: (1, .put (huL m u2)) :: (18, .val (.bool false)) :: (4, .con (C20n rw st c1 (0 + m) (0 + m) (huL m u2) b2)) :: [(0, .split ((4, .con (CSn rw st c1 m cu (huL m u) hut (.tuple ⟨[I 0, I 0]⟩))) :: (7, .con (CSn rw st c1 (0 + m) (0 + m) (huL m u2) hut (.tuple ⟨[I 0, I 0]⟩))) :: (7, .con (CSn rw st c1 m cu (huL m u) hut (.tuple ⟨[I 0, I 4]⟩))) :: (7, .con (CSn rw st c1 (0 + m) (0 + m) (huL m u2) hut (.tuple ⟨[I 0, I 4]⟩))) :: (25, .growN) :: (4, .loopW T9cn (.exit 4) T9cn fun _ => h9cn (rw : Int) st ((IntKind.i64.wrap nb).tmod 6) c1 m cu tb (huL m u) (ints m L2) (ints m L) m) :: (2, .conN (C21n rw st c1 m cu (huL m u) ((IntKind.i64.wrap nb).tmod 6) (ints m L) q)) :: (12, .con (C30 m m m L)) :: (12, .loopW T9en (.exit 8) T9en fun _ => h9en (rw : Int) st c1 m cu tb (huL m u) m) :: (0, .con (C11t tb)) :: []) ((4, .growN) :: (4, .loopW T9cn (.exit 4) T9cn fun _ => h9cn (rw : Int) st ((IntKind.i64.wrap nb).tmod 6) c1 m cu tb (huL m u) (ints m L2) (ints m L) m) :: (2, .conN (C21n rw st c1 m cu (huL m u) ((IntKind.i64.wrap nb).tmod 6) (ints m L) q)) :: (12, .con (C30 m m m L)) :: (12, .loopW T9en (.exit 8) T9en fun _ => h9en (rw : Int) st c1 m cu tb (huL m u) m) :: (0, .con (C11t tb)) :: []))])) =
((OT (farB m 0 0) false) ∧
(CA 20 (C20n rw st c1 m cu (huL m u) true) ⟨⟨[I rw, I st], [⟨m, cu⟩]⟩, [huL m u]⟩ <|
(LW p9a T9nn ⟨⟨[.int IntKind.u8 wh, I m, I ((IntKind.i64.wrap nb).tmod 6), I m, I 0, I rw, I st, I rw, I st], [⟨m, cu⟩]⟩, [tb, huL m u], []⟩ (.exit 0) T9ln (h9ln (rw : Int) st wh ((IntKind.i64.wrap nb).tmod 6) c1 m cu m m tb (huL m u) (huL m x)) <|
((((((.slice (.some ⟨(11 : Nat), (0 : Nat), .none⟩) (0 : Nat) (0 : Nat)) : Value) = (.slice (.some ⟨(11 : Nat), (0 : Nat), .none⟩) (0 : Nat) (0 : Nat))) ∧ ((some (.cells [] (36 : Nat) .row) : Option ABlk) = some (.cells [] (36 : Nat) .row))) ∧ (SV 4 m cu)) ∧
((GN m (0 + m) 3 24 (huL m u)) ∧
(CN 21 (C21n rw st c1 m cu (huL m u) ((IntKind.i64.wrap nb).tmod 6) (ints m L) q) ⟨⟨[I rw, I st, I ((IntKind.i64.wrap nb).tmod 6)], [⟨m, cu⟩]⟩, [huL m u]⟩ <|
(CN 21 (C21n rw st c1 m m (huL m x) ((IntKind.i64.wrap nb).tmod 6) (ints m K) q2) ⟨⟨[I rw, I st, I ((IntKind.i64.wrap nb).tmod 6)], [⟨m, m⟩]⟩, [huL m x]⟩ <|
(CA 27 (C27 q) ⟨⟨[I q], []⟩, []⟩ <|
(CA 27 (C27 q2) ⟨⟨[I q2], []⟩, []⟩ <|
((OT ((↑(popN q) : Int) != (↑(popN q2) : Int)) false) ∧
(LW p9b T9bn ⟨⟨[.int IntKind.u8 wh, I m, I ((IntKind.i64.wrap nb).tmod 6), I m, I 0, I rw, I st, I rw, I st], [⟨(0 : Nat), (0 : Nat)⟩, ⟨(0 : Nat) + m, (0 : Nat) + m⟩, ⟨m, m⟩, ⟨m, cu⟩, ⟨m, m⟩]⟩, [tb, huL m u, huL m x, [] ++ (List.take (m * (3 : Nat)) (List.drop (0 : Nat) (huL m u))), ints m L], []⟩ (.exit 2) T9bn (h9bn (rw : Int) st wh ((IntKind.i64.wrap nb).tmod 6) c1 m cu tb (huL m u) (huL m x) (ints m L) m) <|
((OT (decide ((m : Int) > 0)) true) ∧
(((((m : Int) ≠ (0 : Int)) ∧ (IntKind.i64 = IntKind.i64)) ∧ (((I hut) : Value) = (I ((IntKind.i64.wrap wh).tmod (m : Int))))) ∧
((GN m (0 + m) 3 24 (huL m u)) ∧
(((((0 : Int) ≤ hut) ∧ ((hut : Int) < (↑((0 : Nat) + m) : Int))) ∧ (VR (.pointer (some ⟨17, 0 + hut * 3, none⟩)))) ∧
(((List.take (0 : Nat) [] ++ List.take (m * (3 : Nat)) (List.drop (0 : Nat) (huL m u)))[(0 : Nat) + hut * (3 : Nat) + (2 : Nat)]? = some (I (u hut).row)) ∧
(((((0 : Int) ≤ hut) ∧ ((hut : Int) < (↑((0 : Nat) + m) : Int))) ∧ (VR (.pointer (some ⟨17, 0 + hut * 3, none⟩)))) ∧
((((0 : Nat) + hut * (3 : Nat) + (2 : Nat) + (1 : Nat) ≤ (List.take (0 : Nat) [] ++ List.take (m * (3 : Nat)) (List.drop (0 : Nat) (huL m u))).length) ∧ (List.take ((0 : Nat) + hut * (3 : Nat) + (2 : Nat)) (List.take (0 : Nat) [] ++ List.take (m * (3 : Nat)) (List.drop (0 : Nat) (huL m u))) ++ [Value.int .i64 (IntKind.i64.wrap ((↑(u hut).row : Int) + (1 : Int)))] ++ List.drop ((0 : Nat) + hut * (3 : Nat) + (2 : Nat) + (1 : Nat)) (List.take (0 : Nat) [] ++ List.take (m * (3 : Nat)) (List.drop (0 : Nat) (huL m u))) = huL m u2)) ∧
(((some (.bool (decide ((if (↑((0 : Nat) + m) : Int) > if (↑(0 : Nat) : Int) > (↑(0 : Nat) : Int) then (↑(0 : Nat) : Int) else (↑(0 : Nat) : Int) then (↑((0 : Nat) + m) : Int) else if (↑(0 : Nat) : Int) > (↑(0 : Nat) : Int) then (↑(0 : Nat) : Int) else (↑(0 : Nat) : Int)) > (40 : Int)))) : Option Value) = some (.bool false)) ∧
(CA 20 (C20n rw st c1 (0 + m) (0 + m) (huL m u2) b2) ⟨⟨[I rw, I st], [⟨(0 : Nat) + m, (0 : Nat) + m⟩]⟩, [huL m u2]⟩ <|
((b2 = true → (CA 15 (CSn rw st c1 m cu (huL m u) hut (.tuple ⟨[I 0, I 0]⟩)) ⟨⟨[I rw, I st, I hut], [⟨m, cu⟩]⟩, [huL m u]⟩ <|
(CA 15 (CSn rw st c1 (0 + m) (0 + m) (huL m u2) hut (.tuple ⟨[I 0, I 0]⟩)) ⟨⟨[I rw, I st, I hut], [⟨(0 : Nat) + m, (0 : Nat) + m⟩]⟩, [huL m u2]⟩ <|
(CA 16 (CSn rw st c1 m cu (huL m u) hut (.tuple ⟨[I 0, I 4]⟩)) ⟨⟨[I rw, I st, I hut], [⟨m, cu⟩]⟩, [huL m u]⟩ <|
(CA 16 (CSn rw st c1 (0 + m) (0 + m) (huL m u2) hut (.tuple ⟨[I 0, I 4]⟩)) ⟨⟨[I rw, I st, I hut], [⟨(0 : Nat) + m, (0 : Nat) + m⟩]⟩, [huL m u2]⟩ <|
((GN m (0 + m) 1 8 (ints m L)) ∧
(LW p9c T9cn ⟨⟨[I ((IntKind.i64.wrap nb).tmod 6), I m, I 0, I rw, I st], [⟨(0 : Nat), (0 : Nat)⟩, ⟨m, m⟩, ⟨m, m⟩, ⟨(0 : Nat) + m, (0 : Nat) + m⟩, ⟨m, cu⟩]⟩, [tb, huL m u, huL m u, ints m L, [] ++ (List.take (m * (1 : Nat)) (List.drop (0 : Nat) (ints m L)))], []⟩ (.exit 4) T9cn (h9cn (rw : Int) st ((IntKind.i64.wrap nb).tmod 6) c1 m cu tb (huL m u) (ints m L2) (ints m L) m) <|
(CN 21 (C21n rw st c1 m cu (huL m u) ((IntKind.i64.wrap nb).tmod 6) (ints m L) q) ⟨⟨[I rw, I st, I ((IntKind.i64.wrap nb).tmod 6)], [⟨m, cu⟩]⟩, [huL m u]⟩ <|
(CA 30 (C30 m m m L) ⟨⟨[], [⟨m, m⟩, ⟨m, m⟩]⟩, [ints m L, ints m L]⟩ <|
(LW p9e T9en ⟨⟨[I m, I 0, I rw, I st], [⟨m, m⟩, ⟨m, cu⟩]⟩, [tb, huL m u, huL m u], []⟩ (.exit 8) T9en (h9en (rw : Int) st c1 m cu tb (huL m u) m) <|
(CA 11 (C11t tb) ⟨⟨[], []⟩, [tb]⟩ <|
R (.ret (.bool true))))))))))))) ∧
(b2 = false → ((GN m (0 + m) 1 8 (ints m L)) ∧
(LW p9c T9cn ⟨⟨[I ((IntKind.i64.wrap nb).tmod 6), I m, I 0, I rw, I st], [⟨(0 : Nat), (0 : Nat)⟩, ⟨m, m⟩, ⟨m, m⟩, ⟨(0 : Nat) + m, (0 : Nat) + m⟩, ⟨m, cu⟩]⟩, [tb, huL m u, huL m u, ints m L, [] ++ (List.take (m * (1 : Nat)) (List.drop (0 : Nat) (ints m L)))], []⟩ (.exit 4) T9cn (h9cn (rw : Int) st ((IntKind.i64.wrap nb).tmod 6) c1 m cu tb (huL m u) (ints m L2) (ints m L) m) <|
(CN 21 (C21n rw st c1 m cu (huL m u) ((IntKind.i64.wrap nb).tmod 6) (ints m L) q) ⟨⟨[I rw, I st, I ((IntKind.i64.wrap nb).tmod 6)], [⟨m, cu⟩]⟩, [huL m u]⟩ <|
(CA 30 (C30 m m m L) ⟨⟨[], [⟨m, m⟩, ⟨m, m⟩]⟩, [ints m L, ints m L]⟩ <|
(LW p9e T9en ⟨⟨[I m, I 0, I rw, I st], [⟨m, m⟩, ⟨m, cu⟩]⟩, [tb, huL m u, huL m u], []⟩ (.exit 8) T9en (h9en (rw : Int) st c1 m cu tb (huL m u) m) <|
(CA 11 (C11t tb) ⟨⟨[], []⟩, [tb]⟩ <|
R (.ret (.bool true)))))))))))))))))))))))))))))) := by kernel_rfl
theorem f9vg (rw : Nat) (st wh nb : Int) (c1 m cu hut q q2 : Nat) (u x u2 : Nat → Hut) (L K L2 : Nat → Int) (tb : List Value) (b2 : Bool) (R : ARes → Prop) : (vx.call 9 [su_v rw st c1 m cu, .int .u8 wh, .int .u8 nb] (retK R) (mQH tb (huL m u)) ((21, .val (.bool false)) :: (4, .con (C20v rw st c1 m cu (huL m u) true)) :: (21, .loopW T9nv (.exit 0) T9lv fun _ => h9lv (rw : Int) st wh ((IntKind.i64.wrap nb).tmod 6) c1 m cu m m tb (huL m u) (huL m x)) :: (5, .again) :: (0, .growN) :: (4, .conN (C21v rw st c1 m cu (huL m u) ((IntKind.i64.wrap nb).tmod 6) (ints m L) q)) :: (9, .conN (C21v rw st c1 m m (huL m x) ((IntKind.i64.wrap nb).tmod 6) (ints m K) q2)) :: (25, .con (C27 q)) :: (2, .con (C27 q2)) :: (0, .val (.bool false)) :: (6, .loopW T9bv (.exit 2) T9bv fun _ => h9bv (rw : Int) st wh ((IntKind.i64.wrap nb).tmod 6) c1 m cu tb (huL m u) (huL m x) (ints m L) m) :: (1, .val (.bool true)) :: (4, .val (I hut)) :: (7, .growN) :: (5, .val (.pointer (some ⟨17, 0 + hut * 3, none⟩))) :: (1, .val (I (u hut).row)) :: (1, .val (.pointer (some ⟨17, 0 + hut * 3, none⟩))) :: (1, .put (huL m u2)) :: (18, .val (.bool false)) :: (4, .con (C20v rw st c1 (0 + m) (0 + m) (huL m u2) b2)) :: [(0, .split ((4, .con (CSv rw st c1 m cu (huL m u) hut (.tuple ⟨[I 0, I 0]⟩))) :: (7, .con (CSv rw st c1 (0 + m) (0 + m) (huL m u2) hut (.tuple ⟨[I 0, I 0]⟩))) :: (7, .con (CSv rw st c1 m cu (huL m u) hut (.tuple ⟨[I 0, I 4]⟩))) :: (7, .con (CSv rw st c1 (0 + m) (0 + m) (huL m u2) hut (.tuple ⟨[I 0, I 4]⟩))) :: (25, .growN) :: (4, .loopW T9cv (.exit 4) T9cv fun _ => h9cv (rw : Int) st ((IntKind.i64.wrap nb).tmod 6) c1 m cu tb (huL m u) (ints m L2) (ints m L) m) :: (2, .conN (C21v rw st c1 m cu (huL m u) ((IntKind.i64.wrap nb).tmod 6) (ints m L) q)) :: (12, .con (C30 m m m L)) :: (12, .loopW T9ev (.exit 8) T9ev fun _ => h9ev (rw : Int) st c1 m cu tb (huL m u) m) :: (0, .con (C11t tb)) :: []) ((4, .growN) :: (4, .loopW T9cv (.exit 4) T9cv fun _ => h9cv (rw : Int) st ((IntKind.i64.wrap nb).tmod 6) c1 m cu tb (huL m u) (ints m L2) (ints m L) m) :: (2, .conN (C21v rw st c1 m cu (huL m u) ((IntKind.i64.wrap nb).tmod 6) (ints m L) q)) :: (12, .con (C30 m m m L)) :: (12, .loopW T9ev (.exit 8) T9ev fun _ => h9ev (rw : Int) st c1 m cu tb (huL m u) m) :: (0, .con (C11t tb)) :: []))])) =
((OT (farB m 0 0) false) ∧
(CA 20 (C20v rw st c1 m cu (huL m u) true) ⟨⟨[I rw, I st], [⟨(0 : Nat), c1⟩, ⟨m, cu⟩]⟩, [huL m u]⟩ <|
(LW p9a T9nv ⟨⟨[.int IntKind.u8 wh, I m, I ((IntKind.i64.wrap nb).tmod 6), I m, I 0, I rw, I st, I rw, I st], [⟨(0 : Nat), c1⟩, ⟨m, cu⟩, ⟨(0 : Nat), c1⟩]⟩, [tb, huL m u], []⟩ (.exit 0) T9lv (h9lv (rw : Int) st wh ((IntKind.i64.wrap nb).tmod 6) c1 m cu m m tb (huL m u) (huL m x)) <|
((((((.slice (.some ⟨(11 : Nat), (0 : Nat), .none⟩) (0 : Nat) (0 : Nat)) : Value) = (.slice (.some ⟨(11 : Nat), (0 : Nat), .none⟩) (0 : Nat) (0 : Nat))) ∧ ((some (.cells [] (36 : Nat) .row) : Option ABlk) = some (.cells [] (36 : Nat) .row))) ∧ (SV 4 m cu)) ∧
((GN m (0 + m) 3 24 (huL m u)) ∧
(CN 21 (C21v rw st c1 m cu (huL m u) ((IntKind.i64.wrap nb).tmod 6) (ints m L) q) ⟨⟨[I rw, I st, I ((IntKind.i64.wrap nb).tmod 6)], [⟨(0 : Nat), c1⟩, ⟨m, cu⟩]⟩, [huL m u]⟩ <|
(CN 21 (C21v rw st c1 m m (huL m x) ((IntKind.i64.wrap nb).tmod 6) (ints m K) q2) ⟨⟨[I rw, I st, I ((IntKind.i64.wrap nb).tmod 6)], [⟨(0 : Nat), c1⟩, ⟨m, m⟩]⟩, [huL m x]⟩ <|
(CA 27 (C27 q) ⟨⟨[I q], []⟩, []⟩ <|
(CA 27 (C27 q2) ⟨⟨[I q2], []⟩, []⟩ <|
((OT ((↑(popN q) : Int) != (↑(popN q2) : Int)) false) ∧
(LW p9b T9bv ⟨⟨[.int IntKind.u8 wh, I m, I ((IntKind.i64.wrap nb).tmod 6), I m, I 0, I rw, I st, I rw, I st], [⟨(0 : Nat), (0 : Nat)⟩, ⟨(0 : Nat) + m, (0 : Nat) + m⟩, ⟨m, m⟩, ⟨(0 : Nat), c1⟩, ⟨m, cu⟩, ⟨(0 : Nat), c1⟩, ⟨m, m⟩]⟩, [tb, huL m u, huL m x, [] ++ (List.take (m * (3 : Nat)) (List.drop (0 : Nat) (huL m u))), ints m L], []⟩ (.exit 2) T9bv (h9bv (rw : Int) st wh ((IntKind.i64.wrap nb).tmod 6) c1 m cu tb (huL m u) (huL m x) (ints m L) m) <|
((OT (decide ((m : Int) > 0)) true) ∧
(((((m : Int) ≠ (0 : Int)) ∧ (IntKind.i64 = IntKind.i64)) ∧ (((I hut) : Value) = (I ((IntKind.i64.wrap wh).tmod (m : Int))))) ∧
((GN m (0 + m) 3 24 (huL m u)) ∧
(((((0 : Int) ≤ hut) ∧ ((hut : Int) < (↑((0 : Nat) + m) : Int))) ∧ (VR (.pointer (some ⟨17, 0 + hut * 3, none⟩)))) ∧
(((List.take (0 : Nat) [] ++ List.take (m * (3 : Nat)) (List.drop (0 : Nat) (huL m u)))[(0 : Nat) + hut * (3 : Nat) + (2 : Nat)]? = some (I (u hut).row)) ∧
(((((0 : Int) ≤ hut) ∧ ((hut : Int) < (↑((0 : Nat) + m) : Int))) ∧ (VR (.pointer (some ⟨17, 0 + hut * 3, none⟩)))) ∧
((((0 : Nat) + hut * (3 : Nat) + (2 : Nat) + (1 : Nat) ≤ (List.take (0 : Nat) [] ++ List.take (m * (3 : Nat)) (List.drop (0 : Nat) (huL m u))).length) ∧ (List.take ((0 : Nat) + hut * (3 : Nat) + (2 : Nat)) (List.take (0 : Nat) [] ++ List.take (m * (3 : Nat)) (List.drop (0 : Nat) (huL m u))) ++ [Value.int .i64 (IntKind.i64.wrap ((↑(u hut).row : Int) + (1 : Int)))] ++ List.drop ((0 : Nat) + hut * (3 : Nat) + (2 : Nat) + (1 : Nat)) (List.take (0 : Nat) [] ++ List.take (m * (3 : Nat)) (List.drop (0 : Nat) (huL m u))) = huL m u2)) ∧
(((some (.bool (decide ((if (↑((0 : Nat) + m) : Int) > if (↑(0 : Nat) : Int) > (↑(0 : Nat) : Int) then (↑(0 : Nat) : Int) else (↑(0 : Nat) : Int) then (↑((0 : Nat) + m) : Int) else if (↑(0 : Nat) : Int) > (↑(0 : Nat) : Int) then (↑(0 : Nat) : Int) else (↑(0 : Nat) : Int)) > (40 : Int)))) : Option Value) = some (.bool false)) ∧
(CA 20 (C20v rw st c1 (0 + m) (0 + m) (huL m u2) b2) ⟨⟨[I rw, I st], [⟨(0 : Nat), c1⟩, ⟨(0 : Nat) + m, (0 : Nat) + m⟩]⟩, [huL m u2]⟩ <|
((b2 = true → (CA 15 (CSv rw st c1 m cu (huL m u) hut (.tuple ⟨[I 0, I 0]⟩)) ⟨⟨[I rw, I st, I hut], [⟨(0 : Nat), c1⟩, ⟨m, cu⟩]⟩, [huL m u]⟩ <|
(CA 15 (CSv rw st c1 (0 + m) (0 + m) (huL m u2) hut (.tuple ⟨[I 0, I 0]⟩)) ⟨⟨[I rw, I st, I hut], [⟨(0 : Nat), c1⟩, ⟨(0 : Nat) + m, (0 : Nat) + m⟩]⟩, [huL m u2]⟩ <|
(CA 16 (CSv rw st c1 m cu (huL m u) hut (.tuple ⟨[I 0, I 4]⟩)) ⟨⟨[I rw, I st, I hut], [⟨(0 : Nat), c1⟩, ⟨m, cu⟩]⟩, [huL m u]⟩ <|
(CA 16 (CSv rw st c1 (0 + m) (0 + m) (huL m u2) hut (.tuple ⟨[I 0, I 4]⟩)) ⟨⟨[I rw, I st, I hut], [⟨(0 : Nat), c1⟩, ⟨(0 : Nat) + m, (0 : Nat) + m⟩]⟩, [huL m u2]⟩ <|
((GN m (0 + m) 1 8 (ints m L)) ∧
(LW p9c T9cv ⟨⟨[I ((IntKind.i64.wrap nb).tmod 6), I m, I 0, I rw, I st], [⟨(0 : Nat), (0 : Nat)⟩, ⟨m, m⟩, ⟨m, m⟩, ⟨(0 : Nat) + m, (0 : Nat) + m⟩, ⟨(0 : Nat), c1⟩, ⟨m, cu⟩]⟩, [tb, huL m u, huL m u, ints m L, [] ++ (List.take (m * (1 : Nat)) (List.drop (0 : Nat) (ints m L)))], []⟩ (.exit 4) T9cv (h9cv (rw : Int) st ((IntKind.i64.wrap nb).tmod 6) c1 m cu tb (huL m u) (ints m L2) (ints m L) m) <|
(CN 21 (C21v rw st c1 m cu (huL m u) ((IntKind.i64.wrap nb).tmod 6) (ints m L) q) ⟨⟨[I rw, I st, I ((IntKind.i64.wrap nb).tmod 6)], [⟨(0 : Nat), c1⟩, ⟨m, cu⟩]⟩, [huL m u]⟩ <|
(CA 30 (C30 m m m L) ⟨⟨[], [⟨m, m⟩, ⟨m, m⟩]⟩, [ints m L, ints m L]⟩ <|
(LW p9e T9ev ⟨⟨[I m, I 0, I rw, I st], [⟨m, m⟩, ⟨(0 : Nat), c1⟩, ⟨m, cu⟩]⟩, [tb, huL m u, huL m u], []⟩ (.exit 8) T9ev (h9ev (rw : Int) st c1 m cu tb (huL m u) m) <|
(CA 11 (C11t tb) ⟨⟨[], []⟩, [tb]⟩ <|
R (.ret (.bool true))))))))))))) ∧
(b2 = false → ((GN m (0 + m) 1 8 (ints m L)) ∧
(LW p9c T9cv ⟨⟨[I ((IntKind.i64.wrap nb).tmod 6), I m, I 0, I rw, I st], [⟨(0 : Nat), (0 : Nat)⟩, ⟨m, m⟩, ⟨m, m⟩, ⟨(0 : Nat) + m, (0 : Nat) + m⟩, ⟨(0 : Nat), c1⟩, ⟨m, cu⟩]⟩, [tb, huL m u, huL m u, ints m L, [] ++ (List.take (m * (1 : Nat)) (List.drop (0 : Nat) (ints m L)))], []⟩ (.exit 4) T9cv (h9cv (rw : Int) st ((IntKind.i64.wrap nb).tmod 6) c1 m cu tb (huL m u) (ints m L2) (ints m L) m) <|
(CN 21 (C21v rw st c1 m cu (huL m u) ((IntKind.i64.wrap nb).tmod 6) (ints m L) q) ⟨⟨[I rw, I st, I ((IntKind.i64.wrap nb).tmod 6)], [⟨(0 : Nat), c1⟩, ⟨m, cu⟩]⟩, [huL m u]⟩ <|
(CA 30 (C30 m m m L) ⟨⟨[], [⟨m, m⟩, ⟨m, m⟩]⟩, [ints m L, ints m L]⟩ <|
(LW p9e T9ev ⟨⟨[I m, I 0, I rw, I st], [⟨m, m⟩, ⟨(0 : Nat), c1⟩, ⟨m, cu⟩]⟩, [tb, huL m u, huL m u], []⟩ (.exit 8) T9ev (h9ev (rw : Int) st c1 m cu tb (huL m u) m) <|
(CA 11 (C11t tb) ⟨⟨[], []⟩, [tb]⟩ <|
R (.ret (.bool true)))))))))))))))))))))))))))))) := by kernel_rfl
theorem f9wg (rw : Nat) (st wh nb : Int) (c1 m cu hut q q2 : Nat) (u x u2 : Nat → Hut) (L K L2 : Nat → Int) (tb : List Value) (b2 : Bool) (R : ARes → Prop) : (vx.call 9 [su_w rw st c1 m cu, .int .u8 wh, .int .u8 nb] (retK R) (mQH tb (huL m u)) ((21, .val (.bool false)) :: (4, .con (C20w rw st c1 m cu (huL m u) true)) :: (21, .loopW T9nw (.exit 0) T9lw fun _ => h9lw (rw : Int) st wh ((IntKind.i64.wrap nb).tmod 6) c1 m cu m m tb (huL m u) (huL m x)) :: (5, .again) :: (0, .growN) :: (4, .conN (C21w rw st c1 m cu (huL m u) ((IntKind.i64.wrap nb).tmod 6) (ints m L) q)) :: (9, .conN (C21w rw st c1 m m (huL m x) ((IntKind.i64.wrap nb).tmod 6) (ints m K) q2)) :: (25, .con (C27 q)) :: (2, .con (C27 q2)) :: (0, .val (.bool false)) :: (6, .loopW T9bw (.exit 2) T9bw fun _ => h9bw (rw : Int) st wh ((IntKind.i64.wrap nb).tmod 6) c1 m cu tb (huL m u) (huL m x) (ints m L) m) :: (1, .val (.bool true)) :: (4, .val (I hut)) :: (7, .growN) :: (5, .val (.pointer (some ⟨17, 0 + hut * 3, none⟩))) :: (1, .val (I (u hut).row)) :: (1, .val (.pointer (some ⟨17, 0 + hut * 3, none⟩))) :: (1, .put (huL m u2)) :: (18, .val (.bool false)) :: (4, .con (C20w rw st c1 (0 + m) (0 + m) (huL m u2) b2)) :: [(0, .split ((4, .con (CSw rw st c1 m cu (huL m u) hut (.tuple ⟨[I 0, I 0]⟩))) :: (7, .con (CSw rw st c1 (0 + m) (0 + m) (huL m u2) hut (.tuple ⟨[I 0, I 0]⟩))) :: (7, .con (CSw rw st c1 m cu (huL m u) hut (.tuple ⟨[I 0, I 4]⟩))) :: (7, .con (CSw rw st c1 (0 + m) (0 + m) (huL m u2) hut (.tuple ⟨[I 0, I 4]⟩))) :: (25, .growN) :: (4, .loopW T9cw (.exit 4) T9cw fun _ => h9cw (rw : Int) st ((IntKind.i64.wrap nb).tmod 6) c1 m cu tb (huL m u) (ints m L2) (ints m L) m) :: (2, .conN (C21w rw st c1 m cu (huL m u) ((IntKind.i64.wrap nb).tmod 6) (ints m L) q)) :: (12, .con (C30 m m m L)) :: (12, .loopW T9ew (.exit 8) T9ew fun _ => h9ew (rw : Int) st c1 m cu tb (huL m u) m) :: (0, .con (C11t tb)) :: []) ((4, .growN) :: (4, .loopW T9cw (.exit 4) T9cw fun _ => h9cw (rw : Int) st ((IntKind.i64.wrap nb).tmod 6) c1 m cu tb (huL m u) (ints m L2) (ints m L) m) :: (2, .conN (C21w rw st c1 m cu (huL m u) ((IntKind.i64.wrap nb).tmod 6) (ints m L) q)) :: (12, .con (C30 m m m L)) :: (12, .loopW T9ew (.exit 8) T9ew fun _ => h9ew (rw : Int) st c1 m cu tb (huL m u) m) :: (0, .con (C11t tb)) :: []))])) =
((OT (farB m 0 0) false) ∧
(CA 20 (C20w rw st c1 m cu (huL m u) true) ⟨⟨[I rw, I st], [⟨(0 : Nat), c1⟩, ⟨m, cu⟩]⟩, [huL m u]⟩ <|
(LW p9a T9nw ⟨⟨[.int IntKind.u8 wh, I m, I ((IntKind.i64.wrap nb).tmod 6), I m, I 0, I rw, I st, I rw, I st], [⟨(0 : Nat), c1⟩, ⟨m, cu⟩, ⟨(0 : Nat), c1⟩]⟩, [tb, huL m u], []⟩ (.exit 0) T9lw (h9lw (rw : Int) st wh ((IntKind.i64.wrap nb).tmod 6) c1 m cu m m tb (huL m u) (huL m x)) <|
((((((.slice (.some ⟨(11 : Nat), (0 : Nat), .none⟩) (0 : Nat) (0 : Nat)) : Value) = (.slice (.some ⟨(11 : Nat), (0 : Nat), .none⟩) (0 : Nat) (0 : Nat))) ∧ ((some (.cells [] (36 : Nat) .row) : Option ABlk) = some (.cells [] (36 : Nat) .row))) ∧ (SV 4 m cu)) ∧
((GN m (0 + m) 3 24 (huL m u)) ∧
(CN 21 (C21w rw st c1 m cu (huL m u) ((IntKind.i64.wrap nb).tmod 6) (ints m L) q) ⟨⟨[I rw, I st, I ((IntKind.i64.wrap nb).tmod 6)], [⟨(0 : Nat), c1⟩, ⟨m, cu⟩]⟩, [huL m u]⟩ <|
(CN 21 (C21w rw st c1 m m (huL m x) ((IntKind.i64.wrap nb).tmod 6) (ints m K) q2) ⟨⟨[I rw, I st, I ((IntKind.i64.wrap nb).tmod 6)], [⟨(0 : Nat), c1⟩, ⟨m, m⟩]⟩, [huL m x]⟩ <|
(CA 27 (C27 q) ⟨⟨[I q], []⟩, []⟩ <|
(CA 27 (C27 q2) ⟨⟨[I q2], []⟩, []⟩ <|
((OT ((↑(popN q) : Int) != (↑(popN q2) : Int)) false) ∧
(LW p9b T9bw ⟨⟨[.int IntKind.u8 wh, I m, I ((IntKind.i64.wrap nb).tmod 6), I m, I 0, I rw, I st, I rw, I st], [⟨(0 : Nat), (0 : Nat)⟩, ⟨(0 : Nat) + m, (0 : Nat) + m⟩, ⟨m, m⟩, ⟨(0 : Nat), c1⟩, ⟨m, cu⟩, ⟨(0 : Nat), c1⟩, ⟨m, m⟩]⟩, [tb, huL m u, huL m x, [] ++ (List.take (m * (3 : Nat)) (List.drop (0 : Nat) (huL m u))), ints m L], []⟩ (.exit 2) T9bw (h9bw (rw : Int) st wh ((IntKind.i64.wrap nb).tmod 6) c1 m cu tb (huL m u) (huL m x) (ints m L) m) <|
((OT (decide ((m : Int) > 0)) true) ∧
(((((m : Int) ≠ (0 : Int)) ∧ (IntKind.i64 = IntKind.i64)) ∧ (((I hut) : Value) = (I ((IntKind.i64.wrap wh).tmod (m : Int))))) ∧
((GN m (0 + m) 3 24 (huL m u)) ∧
(((((0 : Int) ≤ hut) ∧ ((hut : Int) < (↑((0 : Nat) + m) : Int))) ∧ (VR (.pointer (some ⟨17, 0 + hut * 3, none⟩)))) ∧
(((List.take (0 : Nat) [] ++ List.take (m * (3 : Nat)) (List.drop (0 : Nat) (huL m u)))[(0 : Nat) + hut * (3 : Nat) + (2 : Nat)]? = some (I (u hut).row)) ∧
(((((0 : Int) ≤ hut) ∧ ((hut : Int) < (↑((0 : Nat) + m) : Int))) ∧ (VR (.pointer (some ⟨17, 0 + hut * 3, none⟩)))) ∧
((((0 : Nat) + hut * (3 : Nat) + (2 : Nat) + (1 : Nat) ≤ (List.take (0 : Nat) [] ++ List.take (m * (3 : Nat)) (List.drop (0 : Nat) (huL m u))).length) ∧ (List.take ((0 : Nat) + hut * (3 : Nat) + (2 : Nat)) (List.take (0 : Nat) [] ++ List.take (m * (3 : Nat)) (List.drop (0 : Nat) (huL m u))) ++ [Value.int .i64 (IntKind.i64.wrap ((↑(u hut).row : Int) + (1 : Int)))] ++ List.drop ((0 : Nat) + hut * (3 : Nat) + (2 : Nat) + (1 : Nat)) (List.take (0 : Nat) [] ++ List.take (m * (3 : Nat)) (List.drop (0 : Nat) (huL m u))) = huL m u2)) ∧
(((some (.bool (decide ((if (↑((0 : Nat) + m) : Int) > if (↑(0 : Nat) : Int) > (↑(0 : Nat) : Int) then (↑(0 : Nat) : Int) else (↑(0 : Nat) : Int) then (↑((0 : Nat) + m) : Int) else if (↑(0 : Nat) : Int) > (↑(0 : Nat) : Int) then (↑(0 : Nat) : Int) else (↑(0 : Nat) : Int)) > (40 : Int)))) : Option Value) = some (.bool false)) ∧
(CA 20 (C20w rw st c1 (0 + m) (0 + m) (huL m u2) b2) ⟨⟨[I rw, I st], [⟨(0 : Nat), c1⟩, ⟨(0 : Nat) + m, (0 : Nat) + m⟩]⟩, [huL m u2]⟩ <|
((b2 = true → (CA 15 (CSw rw st c1 m cu (huL m u) hut (.tuple ⟨[I 0, I 0]⟩)) ⟨⟨[I rw, I st, I hut], [⟨(0 : Nat), c1⟩, ⟨m, cu⟩]⟩, [huL m u]⟩ <|
(CA 15 (CSw rw st c1 (0 + m) (0 + m) (huL m u2) hut (.tuple ⟨[I 0, I 0]⟩)) ⟨⟨[I rw, I st, I hut], [⟨(0 : Nat), c1⟩, ⟨(0 : Nat) + m, (0 : Nat) + m⟩]⟩, [huL m u2]⟩ <|
(CA 16 (CSw rw st c1 m cu (huL m u) hut (.tuple ⟨[I 0, I 4]⟩)) ⟨⟨[I rw, I st, I hut], [⟨(0 : Nat), c1⟩, ⟨m, cu⟩]⟩, [huL m u]⟩ <|
(CA 16 (CSw rw st c1 (0 + m) (0 + m) (huL m u2) hut (.tuple ⟨[I 0, I 4]⟩)) ⟨⟨[I rw, I st, I hut], [⟨(0 : Nat), c1⟩, ⟨(0 : Nat) + m, (0 : Nat) + m⟩]⟩, [huL m u2]⟩ <|
((GN m (0 + m) 1 8 (ints m L)) ∧
(LW p9c T9cw ⟨⟨[I ((IntKind.i64.wrap nb).tmod 6), I m, I 0, I rw, I st], [⟨(0 : Nat), (0 : Nat)⟩, ⟨m, m⟩, ⟨m, m⟩, ⟨(0 : Nat) + m, (0 : Nat) + m⟩, ⟨(0 : Nat), c1⟩, ⟨m, cu⟩]⟩, [tb, huL m u, huL m u, ints m L, [] ++ (List.take (m * (1 : Nat)) (List.drop (0 : Nat) (ints m L)))], []⟩ (.exit 4) T9cw (h9cw (rw : Int) st ((IntKind.i64.wrap nb).tmod 6) c1 m cu tb (huL m u) (ints m L2) (ints m L) m) <|
(CN 21 (C21w rw st c1 m cu (huL m u) ((IntKind.i64.wrap nb).tmod 6) (ints m L) q) ⟨⟨[I rw, I st, I ((IntKind.i64.wrap nb).tmod 6)], [⟨(0 : Nat), c1⟩, ⟨m, cu⟩]⟩, [huL m u]⟩ <|
(CA 30 (C30 m m m L) ⟨⟨[], [⟨m, m⟩, ⟨m, m⟩]⟩, [ints m L, ints m L]⟩ <|
(LW p9e T9ew ⟨⟨[I m, I 0, I rw, I st], [⟨m, m⟩, ⟨(0 : Nat), c1⟩, ⟨m, cu⟩]⟩, [tb, huL m u, huL m u], []⟩ (.exit 8) T9ew (h9ew (rw : Int) st c1 m cu tb (huL m u) m) <|
(CA 11 (C11t tb) ⟨⟨[], []⟩, [tb]⟩ <|
R (.ret (.bool true))))))))))))) ∧
(b2 = false → ((GN m (0 + m) 1 8 (ints m L)) ∧
(LW p9c T9cw ⟨⟨[I ((IntKind.i64.wrap nb).tmod 6), I m, I 0, I rw, I st], [⟨(0 : Nat), (0 : Nat)⟩, ⟨m, m⟩, ⟨m, m⟩, ⟨(0 : Nat) + m, (0 : Nat) + m⟩, ⟨(0 : Nat), c1⟩, ⟨m, cu⟩]⟩, [tb, huL m u, huL m u, ints m L, [] ++ (List.take (m * (1 : Nat)) (List.drop (0 : Nat) (ints m L)))], []⟩ (.exit 4) T9cw (h9cw (rw : Int) st ((IntKind.i64.wrap nb).tmod 6) c1 m cu tb (huL m u) (ints m L2) (ints m L) m) <|
(CN 21 (C21w rw st c1 m cu (huL m u) ((IntKind.i64.wrap nb).tmod 6) (ints m L) q) ⟨⟨[I rw, I st, I ((IntKind.i64.wrap nb).tmod 6)], [⟨(0 : Nat), c1⟩, ⟨m, cu⟩]⟩, [huL m u]⟩ <|
(CA 30 (C30 m m m L) ⟨⟨[], [⟨m, m⟩, ⟨m, m⟩]⟩, [ints m L, ints m L]⟩ <|
(LW p9e T9ew ⟨⟨[I m, I 0, I rw, I st], [⟨m, m⟩, ⟨(0 : Nat), c1⟩, ⟨m, cu⟩]⟩, [tb, huL m u, huL m u], []⟩ (.exit 8) T9ew (h9ew (rw : Int) st c1 m cu tb (huL m u) m) <|
(CA 11 (C11t tb) ⟨⟨[], []⟩, [tb]⟩ <|
R (.ret (.bool true)))))))))))))))))))))))))))))) := by kernel_rfl
theorem perH_0 {st : Int} {w v : Nat → Sp} (x : Hut) : perH st w v 0 x = 0 := Nat.eq_of_testBit_eq fun i => by
 rw [perH_bit (by omega), Nat.zero_testBit, decide_eq_false (Nat.not_lt_zero i)]; rfl
theorem okS_0 {rw st : Int} {m : Nat} {w v : Nat → Sp} {u : Nat → Raw} : okSu rw st 0 0 m w v u = okS0 rw st m u := rfl
theorem q32 (y : Nat → Nat) {many m : Nat} (h5 : m ≤ 5) : bestQ y many m < 32 := by
 rw [← (best_right y many m).2]; exact Nat.lt_of_lt_of_le (outR_lt _ _ m) (show 2 ^ m ≤ 2 ^ 5 from Nat.pow_le_pow_right (by omega) h5)
theorem bef_v (p : Nat) : ∃ c e : Int, befV p = .tuple ⟨[I c, I e]⟩ := by
 by_cases h : p = 0
 · exact ⟨0, 4, if_pos h⟩
 · exact ⟨_, 0, if_neg h⟩
theorem bef_le {p q : Nat} {c d e f : Int} (hc : befV p = .tuple ⟨[I c, I e]⟩) (hd : befV q = .tuple ⟨[I d, I f]⟩) (h : q ≠ 0 → p ≠ 0 ∧ tzN p ≤ tzN q) (hf : (f == (0 : Int)) = true) : (e != (0 : Int)) = false ∧ decide (d < c) = false := by
 have hf := eq_of_beq hf
 by_cases hq : q = 0
 · rw [show befV q = .tuple ⟨[I 0, I 4]⟩ from if_pos hq] at hd
   cases hd; cases hf
 · obtain ⟨hp, hle⟩ := h hq
   rw [show befV q = .tuple ⟨[I (tzN q : Nat), I 0]⟩ from if_neg hq] at hd
   rw [show befV p = .tuple ⟨[I (tzN p : Nat), I 0]⟩ from if_neg hp] at hc
   cases hd; cases hc
   exact ⟨rfl, decide_eq_false (by omega)⟩
structure Pre9 (rw m wh nb : Nat) (u : Nat → Hut) (hut many : Nat) : Prop where
 mz : (IntKind.i64.wrap ((nb : Nat) : Int)).tmod 6 = ((many : Nat) : Int)
 many5 : many ≤ 5
 hm : hut < m
 r1 : ((((m : Nat) : Int) ≠ 0 ∧ IntKind.i64 = IntKind.i64) ∧ ((Value.int .i64 ((hut : Nat) : Int)) = .int .i64 ((IntKind.i64.wrap ((wh : Nat) : Int)).tmod (m : Int))))
 pos : decide ((m : Int) > 0) = true
 get : (huL m u)[0 + hut * 3 + 2]? = some (I ((u hut).row : Int))
 len : 0 + hut * 3 + 2 + 1 ≤ (huL m u).length
 put : List.take (0 + hut * 3 + 2) (huL m u) ++ [Value.int .i64 (IntKind.i64.wrap (((u hut).row : Int) + 1))] ++ List.drop (0 + hut * 3 + 2 + 1) (huL m u) = huL m (upR u hut)
theorem pre9 {rw m wh nb : Nat} {u : Nat → Hut} (hU : HUK rw m u) (h6 : (rw : Int) ≤ 6) (hm : 0 < m) (hb : wh < 256) (hd : nb < 256) : ∃ hut many, Pre9 rw m wh nb u hut many := by
 have hhm : wh % m < m := Nat.mod_lt _ hm
 have hrow6 := (hU.u _ hhm).2.2.2.2
 have hw : IntKind.i64.wrap (((u (wh % m)).row : Int) + 1) = (((u (wh % m)).row + 1 : Nat) : Int) := wrapI (by omega) (by omega)
 refine ⟨wh % m, nb % 6, mz_eq hd, by have := Nat.mod_lt nb (show 0 < 6 by omega); omega, hhm, rem8 hb hm, decide_eq_true (by omega), ?_, by rw [huL_len]; omega, by rw [hw]; exact putR hhm⟩
 rw [Nat.zero_add]; exact flatC_get (n := m) (k := 3) (g := fun i => huV (u i)) (fun _ _ => rfl) hhm (j := 2) (by omega)
theorem up_ok {rw : Nat} {st : Int} {n m hut : Nat} {w v : Nat → Sp} {u : Nat → Hut} (hS : SOK rw st n w v) (hU : HUK rw m u) (h : hut < m) (hb : okSu rw st n n m w v (rwH (upR u hut)) = true) : Safer rw st n m w v w v u (upR u hut) :=
 safer_r hS hU (Decidable.byContradiction fun hr => by rw [fine_r hS h hr] at hb; cases hb)
section
variable {rw : Nat} {st : Int} {n cw cv c1 m cu wh nb : Nat} {w v : Nat → Sp} {u : Nat → Hut}
theorem law9p_E (hS : SOK rw st n w v) (hU : HUK rw m u) (h0 : 0 < n) (hm : 0 < m) (hb : wh < 256) (hd : nb < 256) :
    ∃ hs, vx.call 9 [suV rw st n cw cv m cu, .int .u8 wh, .int .u8 nb] (retK fun r => r = .ret (.bool true)) (mSu tabC (spL n w) (spL n v) (huL m u)) hs := by
 have h5 := hU.m5
 obtain ⟨hut, many, P⟩ := pre9 hU hS.rw6 hm hb hd
 have hmany := P.many5
 have hhm := P.hm
 have h8 := hS.n8
 have c20 : ConOK Tryd.prog 20 (C20 rw st n cw n cv m cu (spL n w) (spL n v) (huL m u) true) := c20_8 hS hU
 have c20x : ConOK Tryd.prog 20 (C20 rw st n cw n cv m m (spL n w) (spL n v) (huL m (upR u hut)) (okSu rw st n n m w v (rwH (upR u hut)))) := C20_ok (u := rwH (upR u hut))
 have c21 : ConNOK Tryd.prog 21 (C21s rw st n cw cv m cu many tabC (spL n w) (spL n v) (huL m u) (ints m (bestL (perY st w v n u) many m)) m (bestQ (perY st w v n u) many m : Nat)) := C21d_ok hS hU hmany
 have x21 : ConNOK Tryd.prog 21 (C21s rw st n cw cv m m many tabC (spL n w) (spL n v) (huL m (revH m u)) (ints m (bestL (perY st w v n (revH m u)) many m)) m (bestQ (perY st w v n (revH m u)) many m : Nat)) := C21d_ok hS (rev_ok hU) hmany
 have pf : (((popN (bestQ (perY st w v n u) many m) : Nat) : Int) != ((popN (bestQ (perY st w v n (revH m u)) many m) : Nat) : Int)) = false := by rw [rev_best hU many]; exact bne_self_eq_false _
 have c15 := C15_ok (cw := cw) (cv := cv) (cu := cu) hS hU hhm
 have c16 := C16_ok (cw := cw) (cv := cv) (cu := cu) hS hU hhm
 have c27 := C27_ok (q32 (perY st w v n u) (many := many) h5)
 have x27 := C27_ok (q32 (perY st w v n (revH m u)) (many := many) h5)
 have c30 := C30_ok (n := m) m m (bestL (perY st w v n u) many m) (by omega)
 obtain ⟨c, e, hce⟩ := bef_v (perH st w v n (u hut))
 obtain ⟨d, f, hdf⟩ := bef_v (perH st w v n (upR u hut hut))
 rw [hce] at c16
 refine ⟨_, (f9pg rw st wh nb n cw cv m cu hut (bestQ (perY st w v n u) many m) (bestQ (perY st w v n (revH m u)) many m) (losN (crH st w v (u hut) n)) (losN (crH st w v (upR u hut hut) n)) w v u (revH m u) (upR u hut) (bestL (perY st w v n u) many m) (bestL (perY st w v n (revH m u)) many m) (negL (bestL (perY st w v n u) many m) m) tabC c d e f (okSu rw st n n m w v (rwH (upR u hut))) _).mpr ?_⟩
 rw [P.mz, copyA n w, copyC m u, copyD m u, copyI m (bestL (perY st w v n u) many m), Nat.zero_add n, Nat.zero_add m]
 refine ⟨tf (decide_eq_false (by repeat' split <;> omega)), c20, rfl, cl9n (n := n) (w := w) (v := v), loop9ap (n := n) (w := w) (v := v) hm h5, grow8s w h0 h8, (by repeat' (first | rfl | trivial | apply And.intro)), grow8h u hm h5, c21, rfl, x21, rfl, c27, rfl, x27, rfl, tf pf, cl9b, loop9b hS hU, tt P.pos, P.r1, grow8h u hm h5, ⟨⟨by omega, by omega⟩, rfl⟩, P.get, ⟨⟨by omega, by omega⟩, rfl⟩, ⟨P.len, P.put⟩, tf (decide_eq_false (by repeat' split <;> omega)), c20x, rfl, fun hok => ?_, fun _ => ⟨grow9i _ hm h5, cl9c, loop9c h5, c21, rfl, c30, rfl, cl9d, loop9d h8, cl9e, loop9e h5, C11t_ok, rfl, rfl⟩⟩
 have hX := up_ok hS hU hhm hok
 obtain ⟨hH, hrow⟩ := hX.hut hut hhm
 have hr6 : (upR u hut hut).row < 6 := by have := (hX.h.u hut hhm).2.2.2.2; have := hS.rw6; omega
 have hl : losN (crH st w v (upR u hut hut) n) ≤ losN (crH st w v (u hut) n) := lost_le hS hX.s hH hX.low hrow hr6
 have hbef := bef_le hce hdf (first_le (x := u hut) (x' := upR u hut hut) hS hX.s hH hrow hr6)
 have x16 := C16_ok (cw := cw) (cv := cv) (cu := m) hX.s hX.h hhm
 rw [hdf] at x16
 exact ⟨c15, rfl, C15_ok (cw := cw) (cv := cv) (cu := m) hX.s hX.h hhm, rfl, c16, rfl, x16, rfl, tf (decide_eq_false (by omega)), fun hf => ⟨fun h => absurd ((hbef hf).1.symm.trans h) (by simp), fun _ => ⟨fun h => absurd ((hbef hf).2.symm.trans h) (by simp), fun _ => ⟨grow9i _ hm h5, cl9c, loop9c h5, c21, rfl, c30, rfl, cl9d, loop9d h8, cl9e, loop9e h5, C11t_ok, rfl, rfl⟩⟩⟩, fun _ => ⟨grow9i _ hm h5, cl9c, loop9c h5, c21, rfl, c30, rfl, cl9d, loop9d h8, cl9e, loop9e h5, C11t_ok, rfl, rfl⟩⟩
theorem law9z_E (hS : SOK rw st 0 w v) (hU : HUK rw m u) (hm : 0 < m) (hb : wh < 256) (hd : nb < 256) :
    ∃ hs, vx.call 9 [suV rw st 0 cw cv m cu, .int .u8 wh, .int .u8 nb] (retK fun r => r = .ret (.bool true)) (mSu tabC (spL 0 w) (spL 0 v) (huL m u)) hs := by
 have h5 := hU.m5
 obtain ⟨hut, many, P⟩ := pre9 hU hS.rw6 hm hb hd
 have hmany := P.many5
 have hhm := P.hm
 have h8 := hS.n8
 have c20 : ConOK Tryd.prog 20 (C20 rw st 0 cw 0 cv m cu (spL 0 w) (spL 0 v) (huL m u) true) := c20_8 hS hU
 have c20x : ConOK Tryd.prog 20 (C20 rw st 0 cw 0 cv m m (spL 0 w) (spL 0 v) (huL m (upR u hut)) (okSu rw st 0 0 m w v (rwH (upR u hut)))) := C20_ok (u := rwH (upR u hut))
 have c21 : ConNOK Tryd.prog 21 (C21s rw st 0 cw cv m cu many tabC (spL 0 w) (spL 0 v) (huL m u) (ints m (bestL (perY st w v 0 u) many m)) m (bestQ (perY st w v 0 u) many m : Nat)) := C21d_ok hS hU hmany
 have x21 : ConNOK Tryd.prog 21 (C21s rw st 0 cw cv m m many tabC (spL 0 w) (spL 0 v) (huL m (revH m u)) (ints m (bestL (perY st w v 0 (revH m u)) many m)) m (bestQ (perY st w v 0 (revH m u)) many m : Nat)) := C21d_ok hS (rev_ok hU) hmany
 have pf : (((popN (bestQ (perY st w v 0 u) many m) : Nat) : Int) != ((popN (bestQ (perY st w v 0 (revH m u)) many m) : Nat) : Int)) = false := by rw [rev_best hU many]; exact bne_self_eq_false _
 have c15 := C15_ok (cw := cw) (cv := cv) (cu := cu) hS hU hhm
 have c16 := C16_ok (cw := cw) (cv := cv) (cu := cu) hS hU hhm
 have c27 := C27_ok (q32 (perY st w v 0 u) (many := many) h5)
 have x27 := C27_ok (q32 (perY st w v 0 (revH m u)) (many := many) h5)
 have c30 := C30_ok (n := m) m m (bestL (perY st w v 0 u) many m) (by omega)
 rw [perH_0, show befV 0 = .tuple ⟨[I 0, I 4]⟩ from rfl] at c16
 refine ⟨_, (f9zg rw st wh nb cw cv m cu hut (bestQ (perY st w v 0 u) many m) (bestQ (perY st w v 0 (revH m u)) many m) (losN (crH st w v (u hut) 0)) (losN (crH st w v (upR u hut hut) 0)) w v u (revH m u) (upR u hut) (bestL (perY st w v 0 u) many m) (bestL (perY st w v 0 (revH m u)) many m) (negL (bestL (perY st w v 0 u) many m) m) tabC (okSu rw st 0 0 m w v (rwH (upR u hut))) _).mpr ?_⟩
 rw [P.mz, copyC m u, copyD m u, copyI m (bestL (perY st w v 0 u) many m), Nat.zero_add m]
 refine ⟨tf (decide_eq_false (by repeat' split <;> omega)), c20, rfl, cl9n (n := 0) (w := w) (v := v), loop9ap (n := 0) (w := w) (v := v) hm h5, (by repeat' (first | rfl | trivial | apply And.intro)), grow8h u hm h5, c21, rfl, x21, rfl, c27, rfl, x27, rfl, tf pf, cl9bz (w := w) (v := v), loop9bz hS hU, tt P.pos, P.r1, grow8h u hm h5, ⟨⟨by omega, by omega⟩, rfl⟩, P.get, ⟨⟨by omega, by omega⟩, rfl⟩, ⟨P.len, P.put⟩, tf (decide_eq_false (by repeat' split <;> omega)), c20x, rfl, fun hok => ?_, fun _ => ⟨grow9i _ hm h5, cl9cz (w := w) (v := v), loop9cz (w := w) (v := v) h5, c21, rfl, c30, rfl, cl9ez (w := w) (v := v), loop9ez (w := w) (v := v) h5, C11t_ok, rfl, rfl⟩⟩
 have hX := up_ok hS hU hhm hok
 obtain ⟨hH, hrow⟩ := hX.hut hut hhm
 have hr6 : (upR u hut hut).row < 6 := by have := (hX.h.u hut hhm).2.2.2.2; have := hS.rw6; omega
 have hl : losN (crH st w v (upR u hut hut) 0) ≤ losN (crH st w v (u hut) 0) := lost_le hS hX.s hH hX.low hrow hr6
 have x16 := C16_ok (cw := cw) (cv := cv) (cu := m) hX.s hX.h hhm
 rw [perH_0, show befV 0 = .tuple ⟨[I 0, I 4]⟩ from rfl] at x16
 exact ⟨c15, rfl, C15_ok (cw := cw) (cv := cv) (cu := m) hX.s hX.h hhm, rfl, c16, rfl, x16, rfl, tf (decide_eq_false (by omega)), ⟨grow9i _ hm h5, cl9cz (w := w) (v := v), loop9cz (w := w) (v := v) h5, c21, rfl, c30, rfl, cl9ez (w := w) (v := v), loop9ez (w := w) (v := v) h5, C11t_ok, rfl, rfl⟩⟩
theorem law9n_E (hrw : 1 ≤ (rw : Int) ∧ (rw : Int) ≤ 6) (hst : 0 ≤ st ∧ st ≤ 4) (hU : HUK rw m u) (hm : 0 < m) (hb : wh < 256) (hd : nb < 256) :
    ∃ hs, vx.call 9 [su_n rw st c1 m cu, .int .u8 wh, .int .u8 nb] (retK fun r => r = .ret (.bool true)) (mQH tabC (huL m u)) hs := by
 have h5 := hU.m5
 obtain ⟨hut, many, P⟩ := pre9 hU hrw.2 hm hb hd
 have hmany := P.many5
 have hhm := P.hm
 have hS : SOK rw st 0 (fun _ => ⟨0, 0⟩) (fun _ => ⟨0, 0⟩) := ⟨hrw.1, hrw.2, hst.1, hst.2, by omega, fun i hi => absurd hi (Nat.not_lt_zero i), fun i hi => absurd hi (Nat.not_lt_zero i)⟩
 have c20 : ConOK Tryd.prog 20 (C20n rw st c1 m cu (huL m u) true) := by
  have h := C20n_ok (rw := rw) (st := st) (c1 := c1) (m := m) (cu := cu) (u := rwH u)
  rw [← okS_0 (w := fun _ => ⟨0, 0⟩) (v := fun _ => ⟨0, 0⟩), okSu_of hS hU] at h
  exact h
 have c20x : ConOK Tryd.prog 20 (C20n rw st c1 m m (huL m (upR u hut)) (okS0 rw st m (rwH (upR u hut)))) := C20n_ok (u := rwH (upR u hut))
 have c21 : ConNOK Tryd.prog 21 (C21n rw st c1 m cu (huL m u) many (ints m (bestL (fun _ => 0) many m)) (bestQ (fun _ => 0) many m : Nat)) := C21n_ok hrw hst hU hmany
 have x21 : ConNOK Tryd.prog 21 (C21n rw st c1 m m (huL m (revH m u)) many (ints m (bestL (fun _ => 0) many m)) (bestQ (fun _ => 0) many m : Nat)) := C21n_ok hrw hst (rev_ok hU) hmany
 have pf : (((popN (bestQ (fun _ => 0) many m) : Nat) : Int) != ((popN (bestQ (fun _ => 0) many m) : Nat) : Int)) = false := bne_self_eq_false _
 have c15 := C15n_ok (c1 := c1) (cu := cu) hrw hst hU hhm
 have c16 := C16n_ok (c1 := c1) (cu := cu) hrw hst hU hhm
 have c27 := C27_ok (q32 (fun _ => 0) (many := many) h5)
 have x27 := C27_ok (q32 (fun _ => 0) (many := many) h5)
 have c30 := C30_ok (n := m) m m (bestL (fun _ => 0) many m) (by omega)
 refine ⟨_, (f9ng rw st wh nb c1 m cu hut (bestQ (fun _ => 0) many m) (bestQ (fun _ => 0) many m) u (revH m u) (upR u hut) (bestL (fun _ => 0) many m) (bestL (fun _ => 0) many m) (negL (bestL (fun _ => 0) many m) m) tabC (okS0 rw st m (rwH (upR u hut))) _).mpr ?_⟩
 rw [P.mz, copyC m u, copyD m u, copyI m (bestL (fun _ => 0) many m), Nat.zero_add m]
 refine ⟨tf (decide_eq_false (by repeat' split <;> omega)), c20, rfl, cl9nz, loop9an (c1 := c1) hm h5, (by repeat' (first | rfl | trivial | apply And.intro)), grow8h u hm h5, c21, rfl, x21, rfl, c27, rfl, x27, rfl, tf pf, cl9bn, loop9bn (c1 := c1) hrw hst hU, tt P.pos, P.r1, grow8h u hm h5, ⟨⟨by omega, by omega⟩, rfl⟩, P.get, ⟨⟨by omega, by omega⟩, rfl⟩, ⟨P.len, P.put⟩, tf (decide_eq_false (by repeat' split <;> omega)), c20x, rfl, fun hok => ?_, fun _ => ⟨grow9i _ hm h5, cl9cn, loop9cn (c1 := c1) h5, c21, rfl, c30, rfl, cl9en, loop9en (c1 := c1) h5, C11t_ok, rfl, rfl⟩⟩
 have hX := up_ok (w := fun _ => ⟨0, 0⟩) (v := fun _ => ⟨0, 0⟩) hS hU hhm hok
 exact ⟨c15, rfl, C15n_ok (c1 := c1) (cu := m) hrw hst hX.h hhm, rfl, c16, rfl, C16n_ok (c1 := c1) (cu := m) hrw hst hX.h hhm, rfl, ⟨grow9i _ hm h5, cl9cn, loop9cn (c1 := c1) h5, c21, rfl, c30, rfl, cl9en, loop9en (c1 := c1) h5, C11t_ok, rfl, rfl⟩⟩
theorem law9v_E (hrw : 1 ≤ (rw : Int) ∧ (rw : Int) ≤ 6) (hst : 0 ≤ st ∧ st ≤ 4) (hU : HUK rw m u) (hm : 0 < m) (hb : wh < 256) (hd : nb < 256) :
    ∃ hs, vx.call 9 [su_v rw st c1 m cu, .int .u8 wh, .int .u8 nb] (retK fun r => r = .ret (.bool true)) (mQH tabC (huL m u)) hs := by
 have h5 := hU.m5
 obtain ⟨hut, many, P⟩ := pre9 hU hrw.2 hm hb hd
 have hmany := P.many5
 have hhm := P.hm
 have hS : SOK rw st 0 (fun _ => ⟨0, 0⟩) (fun _ => ⟨0, 0⟩) := ⟨hrw.1, hrw.2, hst.1, hst.2, by omega, fun i hi => absurd hi (Nat.not_lt_zero i), fun i hi => absurd hi (Nat.not_lt_zero i)⟩
 have c20 : ConOK Tryd.prog 20 (C20v rw st c1 m cu (huL m u) true) := by
  have h := C20v_ok (rw := rw) (st := st) (c1 := c1) (m := m) (cu := cu) (u := rwH u)
  rw [← okS_0 (w := fun _ => ⟨0, 0⟩) (v := fun _ => ⟨0, 0⟩), okSu_of hS hU] at h
  exact h
 have c20x : ConOK Tryd.prog 20 (C20v rw st c1 m m (huL m (upR u hut)) (okS0 rw st m (rwH (upR u hut)))) := C20v_ok (u := rwH (upR u hut))
 have c21 : ConNOK Tryd.prog 21 (C21v rw st c1 m cu (huL m u) many (ints m (bestL (fun _ => 0) many m)) (bestQ (fun _ => 0) many m : Nat)) := C21v_ok hrw hst hU hmany
 have x21 : ConNOK Tryd.prog 21 (C21v rw st c1 m m (huL m (revH m u)) many (ints m (bestL (fun _ => 0) many m)) (bestQ (fun _ => 0) many m : Nat)) := C21v_ok hrw hst (rev_ok hU) hmany
 have pf : (((popN (bestQ (fun _ => 0) many m) : Nat) : Int) != ((popN (bestQ (fun _ => 0) many m) : Nat) : Int)) = false := bne_self_eq_false _
 have c15 := C15v_ok (c1 := c1) (cu := cu) hrw hst hU hhm
 have c16 := C16v_ok (c1 := c1) (cu := cu) hrw hst hU hhm
 have c27 := C27_ok (q32 (fun _ => 0) (many := many) h5)
 have x27 := C27_ok (q32 (fun _ => 0) (many := many) h5)
 have c30 := C30_ok (n := m) m m (bestL (fun _ => 0) many m) (by omega)
 refine ⟨_, (f9vg rw st wh nb c1 m cu hut (bestQ (fun _ => 0) many m) (bestQ (fun _ => 0) many m) u (revH m u) (upR u hut) (bestL (fun _ => 0) many m) (bestL (fun _ => 0) many m) (negL (bestL (fun _ => 0) many m) m) tabC (okS0 rw st m (rwH (upR u hut))) _).mpr ?_⟩
 rw [P.mz, copyC m u, copyD m u, copyI m (bestL (fun _ => 0) many m), Nat.zero_add m]
 refine ⟨tf (decide_eq_false (by repeat' split <;> omega)), c20, rfl, cl9nz, loop9av (c1 := c1) hm h5, (by repeat' (first | rfl | trivial | apply And.intro)), grow8h u hm h5, c21, rfl, x21, rfl, c27, rfl, x27, rfl, tf pf, cl9bv, loop9bv (c1 := c1) hrw hst hU, tt P.pos, P.r1, grow8h u hm h5, ⟨⟨by omega, by omega⟩, rfl⟩, P.get, ⟨⟨by omega, by omega⟩, rfl⟩, ⟨P.len, P.put⟩, tf (decide_eq_false (by repeat' split <;> omega)), c20x, rfl, fun hok => ?_, fun _ => ⟨grow9i _ hm h5, cl9cv, loop9cv (c1 := c1) h5, c21, rfl, c30, rfl, cl9ev, loop9ev (c1 := c1) h5, C11t_ok, rfl, rfl⟩⟩
 have hX := up_ok (w := fun _ => ⟨0, 0⟩) (v := fun _ => ⟨0, 0⟩) hS hU hhm hok
 exact ⟨c15, rfl, C15v_ok (c1 := c1) (cu := m) hrw hst hX.h hhm, rfl, c16, rfl, C16v_ok (c1 := c1) (cu := m) hrw hst hX.h hhm, rfl, ⟨grow9i _ hm h5, cl9cv, loop9cv (c1 := c1) h5, c21, rfl, c30, rfl, cl9ev, loop9ev (c1 := c1) h5, C11t_ok, rfl, rfl⟩⟩
theorem law9w_E (hrw : 1 ≤ (rw : Int) ∧ (rw : Int) ≤ 6) (hst : 0 ≤ st ∧ st ≤ 4) (hU : HUK rw m u) (hm : 0 < m) (hb : wh < 256) (hd : nb < 256) :
    ∃ hs, vx.call 9 [su_w rw st c1 m cu, .int .u8 wh, .int .u8 nb] (retK fun r => r = .ret (.bool true)) (mQH tabC (huL m u)) hs := by
 have h5 := hU.m5
 obtain ⟨hut, many, P⟩ := pre9 hU hrw.2 hm hb hd
 have hmany := P.many5
 have hhm := P.hm
 have hS : SOK rw st 0 (fun _ => ⟨0, 0⟩) (fun _ => ⟨0, 0⟩) := ⟨hrw.1, hrw.2, hst.1, hst.2, by omega, fun i hi => absurd hi (Nat.not_lt_zero i), fun i hi => absurd hi (Nat.not_lt_zero i)⟩
 have c20 : ConOK Tryd.prog 20 (C20w rw st c1 m cu (huL m u) true) := by
  have h := C20w_ok (rw := rw) (st := st) (c1 := c1) (m := m) (cu := cu) (u := rwH u)
  rw [← okS_0 (w := fun _ => ⟨0, 0⟩) (v := fun _ => ⟨0, 0⟩), okSu_of hS hU] at h
  exact h
 have c20x : ConOK Tryd.prog 20 (C20w rw st c1 m m (huL m (upR u hut)) (okS0 rw st m (rwH (upR u hut)))) := C20w_ok (u := rwH (upR u hut))
 have c21 : ConNOK Tryd.prog 21 (C21w rw st c1 m cu (huL m u) many (ints m (bestL (fun _ => 0) many m)) (bestQ (fun _ => 0) many m : Nat)) := C21w_ok hrw hst hU hmany
 have x21 : ConNOK Tryd.prog 21 (C21w rw st c1 m m (huL m (revH m u)) many (ints m (bestL (fun _ => 0) many m)) (bestQ (fun _ => 0) many m : Nat)) := C21w_ok hrw hst (rev_ok hU) hmany
 have pf : (((popN (bestQ (fun _ => 0) many m) : Nat) : Int) != ((popN (bestQ (fun _ => 0) many m) : Nat) : Int)) = false := bne_self_eq_false _
 have c15 := C15w_ok (c1 := c1) (cu := cu) hrw hst hU hhm
 have c16 := C16w_ok (c1 := c1) (cu := cu) hrw hst hU hhm
 have c27 := C27_ok (q32 (fun _ => 0) (many := many) h5)
 have x27 := C27_ok (q32 (fun _ => 0) (many := many) h5)
 have c30 := C30_ok (n := m) m m (bestL (fun _ => 0) many m) (by omega)
 refine ⟨_, (f9wg rw st wh nb c1 m cu hut (bestQ (fun _ => 0) many m) (bestQ (fun _ => 0) many m) u (revH m u) (upR u hut) (bestL (fun _ => 0) many m) (bestL (fun _ => 0) many m) (negL (bestL (fun _ => 0) many m) m) tabC (okS0 rw st m (rwH (upR u hut))) _).mpr ?_⟩
 rw [P.mz, copyC m u, copyD m u, copyI m (bestL (fun _ => 0) many m), Nat.zero_add m]
 refine ⟨tf (decide_eq_false (by repeat' split <;> omega)), c20, rfl, cl9nz, loop9aw (c1 := c1) hm h5, (by repeat' (first | rfl | trivial | apply And.intro)), grow8h u hm h5, c21, rfl, x21, rfl, c27, rfl, x27, rfl, tf pf, cl9bw, loop9bw (c1 := c1) hrw hst hU, tt P.pos, P.r1, grow8h u hm h5, ⟨⟨by omega, by omega⟩, rfl⟩, P.get, ⟨⟨by omega, by omega⟩, rfl⟩, ⟨P.len, P.put⟩, tf (decide_eq_false (by repeat' split <;> omega)), c20x, rfl, fun hok => ?_, fun _ => ⟨grow9i _ hm h5, cl9cw, loop9cw (c1 := c1) h5, c21, rfl, c30, rfl, cl9ew, loop9ew (c1 := c1) h5, C11t_ok, rfl, rfl⟩⟩
 have hX := up_ok (w := fun _ => ⟨0, 0⟩) (v := fun _ => ⟨0, 0⟩) hS hU hhm hok
 exact ⟨c15, rfl, C15w_ok (c1 := c1) (cu := m) hrw hst hX.h hhm, rfl, c16, rfl, C16w_ok (c1 := c1) (cu := m) hrw hst hX.h hhm, rfl, ⟨grow9i _ hm h5, cl9cw, loop9cw (c1 := c1) h5, c21, rfl, c30, rfl, cl9ew, loop9ew (c1 := c1) h5, C11t_ok, rfl, rfl⟩⟩
end
end Go.Ab
set_option maxRecDepth 100000
namespace Go.Ab
open Go Go.RowKit Go.Proofs
noncomputable def T9do : Tw := ⟨347, mkS 347 [(3, .ptr 5 0 .nil), (11, .slice 11 0 .nil), (12, .slice 10 0 .nil), (315, .hole .nil), (316, .hole .nil)], 16, [.dead, .list 1 .ro, .list 1 .ro, .list 1 .ro, .list 1 .ro, .cells SuL 25 .var, .dead, .dead, .dead, .dead, .dead, .list 45 .row, .dead, .dead, .dead, .dead]⟩
noncomputable def h9do (rw st : Int) (n cw cv cu : Nat) (tb ws vs us : List Value) (i : Nat) : Hw := ⟨⟨[I n, I i, I rw, I st], [(n, n), (0, 0), (n, cw), (n, cv), (0, cu)]⟩, [tb, ws, vs, us, ws], []⟩
noncomputable def T9dN : Tw := ⟨347, mkS 347 [(3, .ptr 5 0 .nil), (11, .slice 11 0 .nil), (12, .slice 10 0 .nil), (315, .hole .nil), (316, .hole .nil)], 16, [.dead, .list 1 .ro, .list 1 .ro, .list 1 .ro, .dead, .cells (.hole (.hole (.slice 2 0 (.slice 3 0 (.val (.slice none 0 0) .nil))))) 25 .var, .dead, .dead, .dead, .dead, .dead, .list 45 .row, .dead, .dead, .dead, .dead]⟩
noncomputable def h9dN (rw st : Int) (n cw cv : Nat) (tb ws vs : List Value) (i : Nat) : Hw := ⟨⟨[I n, I i, I rw, I st], [(n, n), (0, 0), (n, cw), (n, cv)]⟩, [tb, ws, vs, ws], []⟩
end Go.Ab
