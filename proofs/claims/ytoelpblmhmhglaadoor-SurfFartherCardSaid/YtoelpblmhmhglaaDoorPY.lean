/- package surf: SurfFarther, of all surfs. -/
import Derived.Test.YtoelpblmhmhglaaDoorPX
import Derived.Test.YtoelpblmhmhglaaDoorPN
import Derived.Test.YtoelpblmhmhglaaDoorPI
import Derived.Test.YtoelpblmhmhglaaDoorOO
import Derived.Lib.LaidTab
set_option maxRecDepth 100000
namespace Go.Ab
open Go Go.RowKit Go.Proofs
theorem f9Mp (rw st wh nb : Int) (n cw cv cu : Nat) (w v : Nat → Sp) (tb us : List Value) (R : ARes → Prop) : (vx.call 9 [suV rw st n cw cv 0 cu, .int .u8 wh, .int .u8 nb] (retK R) (mSu tb (spL n w) (spL n v) us) ([(21, .split ((7, .con (C11t tb)) :: []) ((4, .con (C20 rw st n cw n cv 0 cu (spL n w) (spL n v) us true)) :: (28, .growN) :: (0, .again) :: (5, .conN (C21s rw st n cw cv 0 cu ((IntKind.i64.wrap nb).tmod 6) tb (spL n w) (spL n v) us [] 0 0)) :: (9, .conN (C21N rw st n cw n cv (spL n w) (spL n v) ((IntKind.i64.wrap nb).tmod 6) [] 0)) :: (25, .con (C27 0)) :: (2, .con (C27 0)) :: (25, .conN (C21s rw st n cw cv 0 cu ((IntKind.i64.wrap nb).tmod 6) tb (spL n w) (spL n v) us [] 0 0)) :: (34, .loopW T9do (.exit 6) T9do fun _ => h9do rw st n cw cv cu tb (spL n w) (spL n v) us n) :: (6, .con (C11t tb)) :: []))])) =
(((farB 0 n n) = true → (CA 11 (C11t tb) ⟨⟨[], []⟩, [tb]⟩ <|
R (.ret (.bool true)))) ∧
((farB 0 n n) = false → (CA 20 (C20 rw st n cw n cv 0 cu (spL n w) (spL n v) us true) ⟨⟨[I rw, I st], [⟨n, cw⟩, ⟨n, cv⟩, ⟨(0 : Nat), cu⟩]⟩, [spL n w, spL n v, us]⟩ <|
((GN n (0 + n) 2 16 (spL n w)) ∧
((((((.slice (.some ⟨(10 : Nat), (0 : Nat), .none⟩) (0 : Nat) (0 : Nat)) : Value) = (.slice (.some ⟨(10 : Nat), (0 : Nat), .none⟩) (0 : Nat) (0 : Nat))) ∧ ((some (.cells [] (36 : Nat) .row) : Option ABlk) = some (.cells [] (36 : Nat) .row))) ∧ (((some (.slice (.some ⟨(4 : Nat), (0 : Nat), .none⟩) (0 : Nat) cu) : Option Value) = some (.slice (.some ⟨(4 : Nat), (0 : Nat), .none⟩) (0 : Nat) cu)) ∧ True)) ∧
(CN 21 (C21s rw st n cw cv 0 cu ((IntKind.i64.wrap nb).tmod 6) tb (spL n w) (spL n v) us [] 0 0) ⟨⟨[I rw, I st, I ((IntKind.i64.wrap nb).tmod 6)], [⟨n, cw⟩, ⟨n, cv⟩, ⟨(0 : Nat), cu⟩]⟩, [tb, spL n w, spL n v, us]⟩ <|
(CN 21 (C21N rw st n cw n cv (spL n w) (spL n v) ((IntKind.i64.wrap nb).tmod 6) [] 0) ⟨⟨[I rw, I st, I ((IntKind.i64.wrap nb).tmod 6)], [⟨n, cw⟩, ⟨n, cv⟩]⟩, [spL n w, spL n v]⟩ <|
(CA 27 (C27 0) ⟨⟨[I 0], []⟩, []⟩ <|
(CA 27 (C27 0) ⟨⟨[I 0], []⟩, []⟩ <|
(CN 21 (C21s rw st n cw cv 0 cu ((IntKind.i64.wrap nb).tmod 6) tb (spL n w) (spL n v) us [] 0 0) ⟨⟨[I rw, I st, I ((IntKind.i64.wrap nb).tmod 6)], [⟨n, cw⟩, ⟨n, cv⟩, ⟨(0 : Nat), cu⟩]⟩, [tb, spL n w, spL n v, us]⟩ <|
(LW p9d T9do ⟨⟨[I (↑((0 : Nat) + n) : Int), I 0, I rw, I st], [⟨(0 : Nat) + n, (0 : Nat) + n⟩, ⟨(0 : Nat), (0 : Nat)⟩, ⟨n, cw⟩, ⟨n, cv⟩, ⟨(0 : Nat), cu⟩]⟩, [tb, spL n w, spL n v, us, [] ++ (List.take (n * (2 : Nat)) (List.drop (0 : Nat) (spL n w)))], []⟩ (.exit 6) T9do (h9do rw st n cw cv cu tb (spL n w) (spL n v) us n) <|
(CA 11 (C11t tb) ⟨⟨[], []⟩, [tb]⟩ <|
R (.ret (.bool true)))))))))))))) := by kernel_rfl
theorem f9MN (rw st wh nb : Int) (n cw cv : Nat) (w v : Nat → Sp) (tb : List Value) (R : ARes → Prop) : (vx.call 9 [suN rw st n cw n cv, .int .u8 wh, .int .u8 nb] (retK R) (mQN tb (spL n w) (spL n v)) ([(21, .split ((7, .con (C11t tb)) :: []) ((4, .con (C20N rw st n cw n cv (spL n w) (spL n v) true)) :: (28, .growN) :: (6, .conN (C21N rw st n cw n cv (spL n w) (spL n v) ((IntKind.i64.wrap nb).tmod 6) [] 0)) :: (9, .conN (C21N rw st n cw n cv (spL n w) (spL n v) ((IntKind.i64.wrap nb).tmod 6) [] 0)) :: (25, .con (C27 0)) :: (2, .con (C27 0)) :: (25, .conN (C21N rw st n cw n cv (spL n w) (spL n v) ((IntKind.i64.wrap nb).tmod 6) [] 0)) :: (34, .loopW T9dN (.exit 6) T9dN fun _ => h9dN rw st n cw cv tb (spL n w) (spL n v) n) :: (6, .con (C11t tb)) :: []))])) =
(((farB 0 n n) = true → (CA 11 (C11t tb) ⟨⟨[], []⟩, [tb]⟩ <|
R (.ret (.bool true)))) ∧
((farB 0 n n) = false → (CA 20 (C20N rw st n cw n cv (spL n w) (spL n v) true) ⟨⟨[I rw, I st], [⟨n, cw⟩, ⟨n, cv⟩]⟩, [spL n w, spL n v]⟩ <|
((GN n (0 + n) 2 16 (spL n w)) ∧
(CN 21 (C21N rw st n cw n cv (spL n w) (spL n v) ((IntKind.i64.wrap nb).tmod 6) [] 0) ⟨⟨[I rw, I st, I ((IntKind.i64.wrap nb).tmod 6)], [⟨n, cw⟩, ⟨n, cv⟩]⟩, [spL n w, spL n v]⟩ <|
(CN 21 (C21N rw st n cw n cv (spL n w) (spL n v) ((IntKind.i64.wrap nb).tmod 6) [] 0) ⟨⟨[I rw, I st, I ((IntKind.i64.wrap nb).tmod 6)], [⟨n, cw⟩, ⟨n, cv⟩]⟩, [spL n w, spL n v]⟩ <|
(CA 27 (C27 0) ⟨⟨[I 0], []⟩, []⟩ <|
(CA 27 (C27 0) ⟨⟨[I 0], []⟩, []⟩ <|
(CN 21 (C21N rw st n cw n cv (spL n w) (spL n v) ((IntKind.i64.wrap nb).tmod 6) [] 0) ⟨⟨[I rw, I st, I ((IntKind.i64.wrap nb).tmod 6)], [⟨n, cw⟩, ⟨n, cv⟩]⟩, [spL n w, spL n v]⟩ <|
(LW p9d T9dN ⟨⟨[I (↑((0 : Nat) + n) : Int), I 0, I rw, I st], [⟨(0 : Nat) + n, (0 : Nat) + n⟩, ⟨(0 : Nat), (0 : Nat)⟩, ⟨n, cw⟩, ⟨n, cv⟩]⟩, [tb, spL n w, spL n v, [] ++ (List.take (n * (2 : Nat)) (List.drop (0 : Nat) (spL n w)))], []⟩ (.exit 6) T9dN (h9dN rw st n cw cv tb (spL n w) (spL n v) n) <|
(CA 11 (C11t tb) ⟨⟨[], []⟩, [tb]⟩ <|
R (.ret (.bool true))))))))))))) := by kernel_rfl
theorem f9Mz (rw st wh nb : Int) (cw cv cu : Nat) (w v : Nat → Sp) (tb us : List Value) (R : ARes → Prop) : (vx.call 9 [suV rw st 0 cw cv 0 cu, .int .u8 wh, .int .u8 nb] (retK R) (mSu tb (spL 0 w) (spL 0 v) us) ((26, .con (C20 rw st 0 cw 0 cv 0 cu (spL 0 w) (spL 0 v) us true)) :: (29, .again) :: (5, .conN (C21s rw st 0 cw cv 0 cu ((IntKind.i64.wrap nb).tmod 6) tb (spL 0 w) (spL 0 v) us [] 0 0)) :: (9, .conN (C21N rw st 0 cw 0 cv (spL 0 w) (spL 0 v) ((IntKind.i64.wrap nb).tmod 6) [] 0)) :: (25, .con (C27 0)) :: (2, .con (C27 0)) :: (25, .conN (C21s rw st 0 cw cv 0 cu ((IntKind.i64.wrap nb).tmod 6) tb (spL 0 w) (spL 0 v) us [] 0 0)) :: (43, .con (C11t tb)) :: [])) =
(CA 20 (C20 rw st 0 cw 0 cv 0 cu (spL 0 w) (spL 0 v) us true) ⟨⟨[I rw, I st], [⟨(0 : Nat), cw⟩, ⟨(0 : Nat), cv⟩, ⟨(0 : Nat), cu⟩]⟩, [[], [], us]⟩ <|
((((((.slice (.some ⟨(10 : Nat), (0 : Nat), .none⟩) (0 : Nat) (0 : Nat)) : Value) = (.slice (.some ⟨(10 : Nat), (0 : Nat), .none⟩) (0 : Nat) (0 : Nat))) ∧ ((some (.cells [] (36 : Nat) .row) : Option ABlk) = some (.cells [] (36 : Nat) .row))) ∧ (((some (.slice (.some ⟨(4 : Nat), (0 : Nat), .none⟩) (0 : Nat) cu) : Option Value) = some (.slice (.some ⟨(4 : Nat), (0 : Nat), .none⟩) (0 : Nat) cu)) ∧ True)) ∧
(CN 21 (C21s rw st 0 cw cv 0 cu ((IntKind.i64.wrap nb).tmod 6) tb (spL 0 w) (spL 0 v) us [] 0 0) ⟨⟨[I rw, I st, I ((IntKind.i64.wrap nb).tmod 6)], [⟨(0 : Nat), cw⟩, ⟨(0 : Nat), cv⟩, ⟨(0 : Nat), cu⟩]⟩, [tb, [], [], us]⟩ <|
(CN 21 (C21N rw st 0 cw 0 cv (spL 0 w) (spL 0 v) ((IntKind.i64.wrap nb).tmod 6) [] 0) ⟨⟨[I rw, I st, I ((IntKind.i64.wrap nb).tmod 6)], [⟨(0 : Nat), cw⟩, ⟨(0 : Nat), cv⟩]⟩, [[], []]⟩ <|
(CA 27 (C27 0) ⟨⟨[I 0], []⟩, []⟩ <|
(CA 27 (C27 0) ⟨⟨[I 0], []⟩, []⟩ <|
(CN 21 (C21s rw st 0 cw cv 0 cu ((IntKind.i64.wrap nb).tmod 6) tb (spL 0 w) (spL 0 v) us [] 0 0) ⟨⟨[I rw, I st, I ((IntKind.i64.wrap nb).tmod 6)], [⟨(0 : Nat), cw⟩, ⟨(0 : Nat), cv⟩, ⟨(0 : Nat), cu⟩]⟩, [tb, [], [], us]⟩ <|
(CA 11 (C11t tb) ⟨⟨[], []⟩, [tb]⟩ <|
R (.ret (.bool true)))))))))) := by kernel_rfl
theorem f9MZ (rw st wh nb : Int) (cw cv : Nat) (w v : Nat → Sp) (tb : List Value) (R : ARes → Prop) : (vx.call 9 [suN rw st 0 cw 0 cv, .int .u8 wh, .int .u8 nb] (retK R) (mQN tb (spL 0 w) (spL 0 v)) ((26, .con (C20N rw st 0 cw 0 cv (spL 0 w) (spL 0 v) true)) :: (35, .conN (C21N rw st 0 cw 0 cv (spL 0 w) (spL 0 v) ((IntKind.i64.wrap nb).tmod 6) [] 0)) :: (9, .conN (C21N rw st 0 cw 0 cv (spL 0 w) (spL 0 v) ((IntKind.i64.wrap nb).tmod 6) [] 0)) :: (25, .con (C27 0)) :: (2, .con (C27 0)) :: (25, .conN (C21N rw st 0 cw 0 cv (spL 0 w) (spL 0 v) ((IntKind.i64.wrap nb).tmod 6) [] 0)) :: (43, .con (C11t tb)) :: [])) =
(CA 20 (C20N rw st 0 cw 0 cv (spL 0 w) (spL 0 v) true) ⟨⟨[I rw, I st], [⟨(0 : Nat), cw⟩, ⟨(0 : Nat), cv⟩]⟩, [[], []]⟩ <|
(CN 21 (C21N rw st 0 cw 0 cv (spL 0 w) (spL 0 v) ((IntKind.i64.wrap nb).tmod 6) [] 0) ⟨⟨[I rw, I st, I ((IntKind.i64.wrap nb).tmod 6)], [⟨(0 : Nat), cw⟩, ⟨(0 : Nat), cv⟩]⟩, [[], []]⟩ <|
(CN 21 (C21N rw st 0 cw 0 cv (spL 0 w) (spL 0 v) ((IntKind.i64.wrap nb).tmod 6) [] 0) ⟨⟨[I rw, I st, I ((IntKind.i64.wrap nb).tmod 6)], [⟨(0 : Nat), cw⟩, ⟨(0 : Nat), cv⟩]⟩, [[], []]⟩ <|
(CA 27 (C27 0) ⟨⟨[I 0], []⟩, []⟩ <|
(CA 27 (C27 0) ⟨⟨[I 0], []⟩, []⟩ <|
(CN 21 (C21N rw st 0 cw 0 cv (spL 0 w) (spL 0 v) ((IntKind.i64.wrap nb).tmod 6) [] 0) ⟨⟨[I rw, I st, I ((IntKind.i64.wrap nb).tmod 6)], [⟨(0 : Nat), cw⟩, ⟨(0 : Nat), cv⟩]⟩, [[], []]⟩ <|
(CA 11 (C11t tb) ⟨⟨[], []⟩, [tb]⟩ <|
R (.ret (.bool true))))))))) := by kernel_rfl
theorem f9Mn (rw st wh nb : Int) (c1 cu : Nat) (tb us : List Value) (R : ARes → Prop) : (vx.call 9 [su_n rw st c1 0 cu, .int .u8 wh, .int .u8 nb] (retK R) (mQH tb us) ((26, .con (C20n rw st c1 0 cu us true)) :: (29, .again) :: (5, .conN (C21n rw st c1 0 cu us ((IntKind.i64.wrap nb).tmod 6) [] 0)) :: (9, .conN (C21nnN rw st ((IntKind.i64.wrap nb).tmod 6) [] 0)) :: (25, .con (C27 0)) :: (2, .con (C27 0)) :: (25, .conN (C21n rw st c1 0 cu us ((IntKind.i64.wrap nb).tmod 6) [] 0)) :: (43, .con (C11t tb)) :: [])) =
(CA 20 (C20n rw st c1 0 cu us true) ⟨⟨[I rw, I st], [⟨(0 : Nat), cu⟩]⟩, [us]⟩ <|
((((((.slice (.some ⟨(10 : Nat), (0 : Nat), .none⟩) (0 : Nat) (0 : Nat)) : Value) = (.slice (.some ⟨(10 : Nat), (0 : Nat), .none⟩) (0 : Nat) (0 : Nat))) ∧ ((some (.cells [] (36 : Nat) .row) : Option ABlk) = some (.cells [] (36 : Nat) .row))) ∧ (((some (.slice (.some ⟨(4 : Nat), (0 : Nat), .none⟩) (0 : Nat) cu) : Option Value) = some (.slice (.some ⟨(4 : Nat), (0 : Nat), .none⟩) (0 : Nat) cu)) ∧ True)) ∧
(CN 21 (C21n rw st c1 0 cu us ((IntKind.i64.wrap nb).tmod 6) [] 0) ⟨⟨[I rw, I st, I ((IntKind.i64.wrap nb).tmod 6)], [⟨(0 : Nat), cu⟩]⟩, [us]⟩ <|
(CN 21 (C21nnN rw st ((IntKind.i64.wrap nb).tmod 6) [] 0) ⟨⟨[I rw, I st, I ((IntKind.i64.wrap nb).tmod 6)], []⟩, []⟩ <|
(CA 27 (C27 0) ⟨⟨[I 0], []⟩, []⟩ <|
(CA 27 (C27 0) ⟨⟨[I 0], []⟩, []⟩ <|
(CN 21 (C21n rw st c1 0 cu us ((IntKind.i64.wrap nb).tmod 6) [] 0) ⟨⟨[I rw, I st, I ((IntKind.i64.wrap nb).tmod 6)], [⟨(0 : Nat), cu⟩]⟩, [us]⟩ <|
(CA 11 (C11t tb) ⟨⟨[], []⟩, [tb]⟩ <|
R (.ret (.bool true)))))))))) := by kernel_rfl
theorem f9Mv (rw st wh nb : Int) (c1 cu : Nat) (tb us : List Value) (R : ARes → Prop) : (vx.call 9 [su_v rw st c1 0 cu, .int .u8 wh, .int .u8 nb] (retK R) (mQH tb us) ((26, .con (C20v rw st c1 0 cu us true)) :: (29, .again) :: (5, .conN (C21v rw st c1 0 cu us ((IntKind.i64.wrap nb).tmod 6) [] 0)) :: (9, .conN (C21nvN rw st c1 ((IntKind.i64.wrap nb).tmod 6) [] 0)) :: (25, .con (C27 0)) :: (2, .con (C27 0)) :: (25, .conN (C21v rw st c1 0 cu us ((IntKind.i64.wrap nb).tmod 6) [] 0)) :: (43, .con (C11t tb)) :: [])) =
(CA 20 (C20v rw st c1 0 cu us true) ⟨⟨[I rw, I st], [⟨(0 : Nat), c1⟩, ⟨(0 : Nat), cu⟩]⟩, [us]⟩ <|
((((((.slice (.some ⟨(10 : Nat), (0 : Nat), .none⟩) (0 : Nat) (0 : Nat)) : Value) = (.slice (.some ⟨(10 : Nat), (0 : Nat), .none⟩) (0 : Nat) (0 : Nat))) ∧ ((some (.cells [] (36 : Nat) .row) : Option ABlk) = some (.cells [] (36 : Nat) .row))) ∧ (((some (.slice (.some ⟨(4 : Nat), (0 : Nat), .none⟩) (0 : Nat) cu) : Option Value) = some (.slice (.some ⟨(4 : Nat), (0 : Nat), .none⟩) (0 : Nat) cu)) ∧ True)) ∧
(CN 21 (C21v rw st c1 0 cu us ((IntKind.i64.wrap nb).tmod 6) [] 0) ⟨⟨[I rw, I st, I ((IntKind.i64.wrap nb).tmod 6)], [⟨(0 : Nat), c1⟩, ⟨(0 : Nat), cu⟩]⟩, [us]⟩ <|
(CN 21 (C21nvN rw st c1 ((IntKind.i64.wrap nb).tmod 6) [] 0) ⟨⟨[I rw, I st, I ((IntKind.i64.wrap nb).tmod 6)], [⟨(0 : Nat), c1⟩]⟩, []⟩ <|
(CA 27 (C27 0) ⟨⟨[I 0], []⟩, []⟩ <|
(CA 27 (C27 0) ⟨⟨[I 0], []⟩, []⟩ <|
(CN 21 (C21v rw st c1 0 cu us ((IntKind.i64.wrap nb).tmod 6) [] 0) ⟨⟨[I rw, I st, I ((IntKind.i64.wrap nb).tmod 6)], [⟨(0 : Nat), c1⟩, ⟨(0 : Nat), cu⟩]⟩, [us]⟩ <|
(CA 11 (C11t tb) ⟨⟨[], []⟩, [tb]⟩ <|
R (.ret (.bool true)))))))))) := by kernel_rfl
theorem f9Mw (rw st wh nb : Int) (c1 cu : Nat) (tb us : List Value) (R : ARes → Prop) : (vx.call 9 [su_w rw st c1 0 cu, .int .u8 wh, .int .u8 nb] (retK R) (mQH tb us) ((26, .con (C20w rw st c1 0 cu us true)) :: (29, .again) :: (5, .conN (C21w rw st c1 0 cu us ((IntKind.i64.wrap nb).tmod 6) [] 0)) :: (9, .conN (C21wnN rw st c1 ((IntKind.i64.wrap nb).tmod 6) [] 0)) :: (25, .con (C27 0)) :: (2, .con (C27 0)) :: (25, .conN (C21w rw st c1 0 cu us ((IntKind.i64.wrap nb).tmod 6) [] 0)) :: (43, .con (C11t tb)) :: [])) =
(CA 20 (C20w rw st c1 0 cu us true) ⟨⟨[I rw, I st], [⟨(0 : Nat), c1⟩, ⟨(0 : Nat), cu⟩]⟩, [us]⟩ <|
((((((.slice (.some ⟨(10 : Nat), (0 : Nat), .none⟩) (0 : Nat) (0 : Nat)) : Value) = (.slice (.some ⟨(10 : Nat), (0 : Nat), .none⟩) (0 : Nat) (0 : Nat))) ∧ ((some (.cells [] (36 : Nat) .row) : Option ABlk) = some (.cells [] (36 : Nat) .row))) ∧ (((some (.slice (.some ⟨(4 : Nat), (0 : Nat), .none⟩) (0 : Nat) cu) : Option Value) = some (.slice (.some ⟨(4 : Nat), (0 : Nat), .none⟩) (0 : Nat) cu)) ∧ True)) ∧
(CN 21 (C21w rw st c1 0 cu us ((IntKind.i64.wrap nb).tmod 6) [] 0) ⟨⟨[I rw, I st, I ((IntKind.i64.wrap nb).tmod 6)], [⟨(0 : Nat), c1⟩, ⟨(0 : Nat), cu⟩]⟩, [us]⟩ <|
(CN 21 (C21wnN rw st c1 ((IntKind.i64.wrap nb).tmod 6) [] 0) ⟨⟨[I rw, I st, I ((IntKind.i64.wrap nb).tmod 6)], [⟨(0 : Nat), c1⟩]⟩, []⟩ <|
(CA 27 (C27 0) ⟨⟨[I 0], []⟩, []⟩ <|
(CA 27 (C27 0) ⟨⟨[I 0], []⟩, []⟩ <|
(CN 21 (C21w rw st c1 0 cu us ((IntKind.i64.wrap nb).tmod 6) [] 0) ⟨⟨[I rw, I st, I ((IntKind.i64.wrap nb).tmod 6)], [⟨(0 : Nat), c1⟩, ⟨(0 : Nat), cu⟩]⟩, [us]⟩ <|
(CA 11 (C11t tb) ⟨⟨[], []⟩, [tb]⟩ <|
R (.ret (.bool true)))))))))) := by kernel_rfl
theorem f9In (rw st wh nb : Int) (c1 m cu : Nat) (tb us : List Value) (R : ARes → Prop) : (vx.call 9 [su_n rw st c1 m cu, .int .u8 wh, .int .u8 nb] (retK R) (mQH tb us) ([(21, .split ((7, .con (C11t tb)) :: []) ((4, .con (C20n rw st c1 m cu us false)) :: (4, .con (C11t tb)) :: []))])) =
(((farB m 0 0) = true → (CA 11 (C11t tb) ⟨⟨[], []⟩, [tb]⟩ <|
R (.ret (.bool true)))) ∧
((farB m 0 0) = false → (CA 20 (C20n rw st c1 m cu us false) ⟨⟨[I rw, I st], [⟨m, cu⟩]⟩, [us]⟩ <|
(CA 11 (C11t tb) ⟨⟨[], []⟩, [tb]⟩ <|
R (.ret (.bool true)))))) := by kernel_rfl
theorem f9Iv (rw st wh nb : Int) (c1 m cu : Nat) (tb us : List Value) (R : ARes → Prop) : (vx.call 9 [su_v rw st c1 m cu, .int .u8 wh, .int .u8 nb] (retK R) (mQH tb us) ([(21, .split ((7, .con (C11t tb)) :: []) ((4, .con (C20v rw st c1 m cu us false)) :: (4, .con (C11t tb)) :: []))])) =
(((farB m 0 0) = true → (CA 11 (C11t tb) ⟨⟨[], []⟩, [tb]⟩ <|
R (.ret (.bool true)))) ∧
((farB m 0 0) = false → (CA 20 (C20v rw st c1 m cu us false) ⟨⟨[I rw, I st], [⟨(0 : Nat), c1⟩, ⟨m, cu⟩]⟩, [us]⟩ <|
(CA 11 (C11t tb) ⟨⟨[], []⟩, [tb]⟩ <|
R (.ret (.bool true)))))) := by kernel_rfl
theorem f9Iw (rw st wh nb : Int) (c1 m cu : Nat) (tb us : List Value) (R : ARes → Prop) : (vx.call 9 [su_w rw st c1 m cu, .int .u8 wh, .int .u8 nb] (retK R) (mQH tb us) ([(21, .split ((7, .con (C11t tb)) :: []) ((4, .con (C20w rw st c1 m cu us false)) :: (4, .con (C11t tb)) :: []))])) =
(((farB m 0 0) = true → (CA 11 (C11t tb) ⟨⟨[], []⟩, [tb]⟩ <|
R (.ret (.bool true)))) ∧
((farB m 0 0) = false → (CA 20 (C20w rw st c1 m cu us false) ⟨⟨[I rw, I st], [⟨(0 : Nat), c1⟩, ⟨m, cu⟩]⟩, [us]⟩ <|
(CA 11 (C11t tb) ⟨⟨[], []⟩, [tb]⟩ <|
R (.ret (.bool true)))))) := by kernel_rfl
theorem f9Ip (rw st wh nb : Int) (n cw n2 cv m cu : Nat) (tb ws vs us : List Value) (R : ARes → Prop) : (vx.call 9 [suR rw st n cw n2 cv m cu, .int .u8 wh, .int .u8 nb] (retK R) (mSu tb ws vs us) ([(21, .split ((7, .con (C11t tb)) :: []) ((4, .con (C20 rw st n cw n2 cv m cu ws vs us false)) :: (4, .con (C11t tb)) :: []))])) =
(((farB m n2 n) = true → (CA 11 (C11t tb) ⟨⟨[], []⟩, [tb]⟩ <|
R (.ret (.bool true)))) ∧
((farB m n2 n) = false → (CA 20 (C20 rw st n cw n2 cv m cu ws vs us false) ⟨⟨[I rw, I st], [⟨n, cw⟩, ⟨n2, cv⟩, ⟨m, cu⟩]⟩, [ws, vs, us]⟩ <|
(CA 11 (C11t tb) ⟨⟨[], []⟩, [tb]⟩ <|
R (.ret (.bool true)))))) := by kernel_rfl
theorem f9IN (rw st wh nb : Int) (n cw n2 cv : Nat) (tb ws vs : List Value) (R : ARes → Prop) : (vx.call 9 [suN rw st n cw n2 cv, .int .u8 wh, .int .u8 nb] (retK R) (mQN tb ws vs) ([(21, .split ((7, .con (C11t tb)) :: []) ((4, .con (C20N rw st n cw n2 cv ws vs false)) :: (4, .con (C11t tb)) :: []))])) =
(((farB 0 n2 n) = true → (CA 11 (C11t tb) ⟨⟨[], []⟩, [tb]⟩ <|
R (.ret (.bool true)))) ∧
((farB 0 n2 n) = false → (CA 20 (C20N rw st n cw n2 cv ws vs false) ⟨⟨[I rw, I st], [⟨n, cw⟩, ⟨n2, cv⟩]⟩, [ws, vs]⟩ <|
(CA 11 (C11t tb) ⟨⟨[], []⟩, [tb]⟩ <|
R (.ret (.bool true)))))) := by kernel_rfl
theorem f9InnN (rw st wh nb : Int) (tb : List Value) (R : ARes → Prop) : (vx.call 9 [.agg ⟨[I rw, I st, nilS, nilS, nilS]⟩, .int .u8 wh, .int .u8 nb] (retK R) (mQ0 tb) ((26, .con (CX ((TL.val nilS (TL.val nilS (TL.val nilS TL.nil))).hole.hole.agg TL.nil) rw st [] false)) :: (4, .con (C11t tb)) :: [])) =
(CA 20 (CX ((TL.val nilS (TL.val nilS (TL.val nilS TL.nil))).hole.hole.agg TL.nil) rw st [] false) ⟨⟨[I rw, I st], []⟩, []⟩ <|
(CA 11 (C11t tb) ⟨⟨[], []⟩, [tb]⟩ <|
R (.ret (.bool true)))) := by kernel_rfl
theorem f9InvN (rw st wh nb : Int) (c1 : Nat) (tb : List Value) (R : ARes → Prop) : (vx.call 9 [.agg ⟨[I rw, I st, nilS, slV 3 0 c1, nilS]⟩, .int .u8 wh, .int .u8 nb] (retK R) (mQ0 tb) ((26, .con (CX ((TL.val nilS (TL.slice 3 0 (TL.val nilS TL.nil))).hole.hole.agg TL.nil) rw st [(0, c1)] false)) :: (4, .con (C11t tb)) :: [])) =
(CA 20 (CX ((TL.val nilS (TL.slice 3 0 (TL.val nilS TL.nil))).hole.hole.agg TL.nil) rw st [(0, c1)] false) ⟨⟨[I rw, I st], [⟨(0 : Nat), c1⟩]⟩, []⟩ <|
(CA 11 (C11t tb) ⟨⟨[], []⟩, [tb]⟩ <|
R (.ret (.bool true)))) := by kernel_rfl
theorem f9IwnN (rw st wh nb : Int) (c1 : Nat) (tb : List Value) (R : ARes → Prop) : (vx.call 9 [.agg ⟨[I rw, I st, slV 2 0 c1, nilS, nilS]⟩, .int .u8 wh, .int .u8 nb] (retK R) (mQ0 tb) ((26, .con (CX ((TL.slice 2 0 (TL.val nilS (TL.val nilS TL.nil))).hole.hole.agg TL.nil) rw st [(0, c1)] false)) :: (4, .con (C11t tb)) :: [])) =
(CA 20 (CX ((TL.slice 2 0 (TL.val nilS (TL.val nilS TL.nil))).hole.hole.agg TL.nil) rw st [(0, c1)] false) ⟨⟨[I rw, I st], [⟨(0 : Nat), c1⟩]⟩, []⟩ <|
(CA 11 (C11t tb) ⟨⟨[], []⟩, [tb]⟩ <|
R (.ret (.bool true)))) := by kernel_rfl
theorem f9InkP (rw st wh nb : Int) (n cv m cu : Nat) (tb : List Value) (R : ARes → Prop) : (vx.call 9 [.agg ⟨[I rw, I st, nilS, slV 3 n cv, slV 4 m cu]⟩, .int .u8 wh, .int .u8 nb] (retK R) (mQ0 tb) ([(21, .split ((7, .con (C11t tb)) :: []) ((4, .con (CX ((TL.val nilS (TL.slice 3 0 (TL.slice 4 0 TL.nil))).hole.hole.agg TL.nil) rw st [(n, cv), (m, cu)] false)) :: (4, .con (C11t tb)) :: []))])) =
(((farB m n 0) = true → (CA 11 (C11t tb) ⟨⟨[], []⟩, [tb]⟩ <|
R (.ret (.bool true)))) ∧
((farB m n 0) = false → (CA 20 (CX ((TL.val nilS (TL.slice 3 0 (TL.slice 4 0 TL.nil))).hole.hole.agg TL.nil) rw st [(n, cv), (m, cu)] false) ⟨⟨[I rw, I st], [⟨n, cv⟩, ⟨m, cu⟩]⟩, []⟩ <|
(CA 11 (C11t tb) ⟨⟨[], []⟩, [tb]⟩ <|
R (.ret (.bool true)))))) := by kernel_rfl
theorem f9InkN (rw st wh nb : Int) (n cv : Nat) (tb : List Value) (R : ARes → Prop) : (vx.call 9 [.agg ⟨[I rw, I st, nilS, slV 3 n cv, nilS]⟩, .int .u8 wh, .int .u8 nb] (retK R) (mQ0 tb) ([(21, .split ((7, .con (C11t tb)) :: []) ((4, .con (CX ((TL.val nilS (TL.slice 3 0 (TL.val nilS TL.nil))).hole.hole.agg TL.nil) rw st [(n, cv)] false)) :: (4, .con (C11t tb)) :: []))])) =
(((farB 0 n 0) = true → (CA 11 (C11t tb) ⟨⟨[], []⟩, [tb]⟩ <|
R (.ret (.bool true)))) ∧
((farB 0 n 0) = false → (CA 20 (CX ((TL.val nilS (TL.slice 3 0 (TL.val nilS TL.nil))).hole.hole.agg TL.nil) rw st [(n, cv)] false) ⟨⟨[I rw, I st], [⟨n, cv⟩]⟩, []⟩ <|
(CA 11 (C11t tb) ⟨⟨[], []⟩, [tb]⟩ <|
R (.ret (.bool true)))))) := by kernel_rfl
theorem f9IknP (rw st wh nb : Int) (n cw m cu : Nat) (tb : List Value) (R : ARes → Prop) : (vx.call 9 [.agg ⟨[I rw, I st, slV 2 n cw, nilS, slV 4 m cu]⟩, .int .u8 wh, .int .u8 nb] (retK R) (mQ0 tb) ([(21, .split ((7, .con (C11t tb)) :: []) ((4, .con (CX ((TL.slice 2 0 (TL.val nilS (TL.slice 4 0 TL.nil))).hole.hole.agg TL.nil) rw st [(n, cw), (m, cu)] false)) :: (4, .con (C11t tb)) :: []))])) =
(((farB m 0 n) = true → (CA 11 (C11t tb) ⟨⟨[], []⟩, [tb]⟩ <|
R (.ret (.bool true)))) ∧
((farB m 0 n) = false → (CA 20 (CX ((TL.slice 2 0 (TL.val nilS (TL.slice 4 0 TL.nil))).hole.hole.agg TL.nil) rw st [(n, cw), (m, cu)] false) ⟨⟨[I rw, I st], [⟨n, cw⟩, ⟨m, cu⟩]⟩, []⟩ <|
(CA 11 (C11t tb) ⟨⟨[], []⟩, [tb]⟩ <|
R (.ret (.bool true)))))) := by kernel_rfl
theorem f9IknN (rw st wh nb : Int) (n cw : Nat) (tb : List Value) (R : ARes → Prop) : (vx.call 9 [.agg ⟨[I rw, I st, slV 2 n cw, nilS, nilS]⟩, .int .u8 wh, .int .u8 nb] (retK R) (mQ0 tb) ([(21, .split ((7, .con (C11t tb)) :: []) ((4, .con (CX ((TL.slice 2 0 (TL.val nilS (TL.val nilS TL.nil))).hole.hole.agg TL.nil) rw st [(n, cw)] false)) :: (4, .con (C11t tb)) :: []))])) =
(((farB 0 0 n) = true → (CA 11 (C11t tb) ⟨⟨[], []⟩, [tb]⟩ <|
R (.ret (.bool true)))) ∧
((farB 0 0 n) = false → (CA 20 (CX ((TL.slice 2 0 (TL.val nilS (TL.val nilS TL.nil))).hole.hole.agg TL.nil) rw st [(n, cw)] false) ⟨⟨[I rw, I st], [⟨n, cw⟩]⟩, []⟩ <|
(CA 11 (C11t tb) ⟨⟨[], []⟩, [tb]⟩ <|
R (.ret (.bool true)))))) := by kernel_rfl
theorem f9MnnN (rw st wh nb : Int) (tb : List Value) (R : ARes → Prop) : (vx.call 9 [.agg ⟨[I rw, I st, nilS, nilS, nilS]⟩, .int .u8 wh, .int .u8 nb] (retK R) (mQ0 tb) ((26, .con (CX ((TL.val nilS (TL.val nilS (TL.val nilS TL.nil))).hole.hole.agg TL.nil) rw st [] true)) :: (35, .conN (C21nnN rw st ((IntKind.i64.wrap nb).tmod 6) [] 0)) :: (9, .conN (C21nnN rw st ((IntKind.i64.wrap nb).tmod 6) [] 0)) :: (25, .con (C27 0)) :: (2, .con (C27 0)) :: (25, .conN (C21nnN rw st ((IntKind.i64.wrap nb).tmod 6) [] 0)) :: (43, .con (C11t tb)) :: [])) =
(CA 20 (CX ((TL.val nilS (TL.val nilS (TL.val nilS TL.nil))).hole.hole.agg TL.nil) rw st [] true) ⟨⟨[I rw, I st], []⟩, []⟩ <|
(CN 21 (C21nnN rw st ((IntKind.i64.wrap nb).tmod 6) [] 0) ⟨⟨[I rw, I st, I ((IntKind.i64.wrap nb).tmod 6)], []⟩, []⟩ <|
(CN 21 (C21nnN rw st ((IntKind.i64.wrap nb).tmod 6) [] 0) ⟨⟨[I rw, I st, I ((IntKind.i64.wrap nb).tmod 6)], []⟩, []⟩ <|
(CA 27 (C27 0) ⟨⟨[I 0], []⟩, []⟩ <|
(CA 27 (C27 0) ⟨⟨[I 0], []⟩, []⟩ <|
(CN 21 (C21nnN rw st ((IntKind.i64.wrap nb).tmod 6) [] 0) ⟨⟨[I rw, I st, I ((IntKind.i64.wrap nb).tmod 6)], []⟩, []⟩ <|
(CA 11 (C11t tb) ⟨⟨[], []⟩, [tb]⟩ <|
R (.ret (.bool true))))))))) := by kernel_rfl
theorem f9MnvN (rw st wh nb : Int) (c1 : Nat) (tb : List Value) (R : ARes → Prop) : (vx.call 9 [.agg ⟨[I rw, I st, nilS, slV 3 0 c1, nilS]⟩, .int .u8 wh, .int .u8 nb] (retK R) (mQ0 tb) ((26, .con (CX ((TL.val nilS (TL.slice 3 0 (TL.val nilS TL.nil))).hole.hole.agg TL.nil) rw st [(0, c1)] true)) :: (35, .conN (C21nvN rw st c1 ((IntKind.i64.wrap nb).tmod 6) [] 0)) :: (9, .conN (C21nvN rw st c1 ((IntKind.i64.wrap nb).tmod 6) [] 0)) :: (25, .con (C27 0)) :: (2, .con (C27 0)) :: (25, .conN (C21nvN rw st c1 ((IntKind.i64.wrap nb).tmod 6) [] 0)) :: (43, .con (C11t tb)) :: [])) =
(CA 20 (CX ((TL.val nilS (TL.slice 3 0 (TL.val nilS TL.nil))).hole.hole.agg TL.nil) rw st [(0, c1)] true) ⟨⟨[I rw, I st], [⟨(0 : Nat), c1⟩]⟩, []⟩ <|
(CN 21 (C21nvN rw st c1 ((IntKind.i64.wrap nb).tmod 6) [] 0) ⟨⟨[I rw, I st, I ((IntKind.i64.wrap nb).tmod 6)], [⟨(0 : Nat), c1⟩]⟩, []⟩ <|
(CN 21 (C21nvN rw st c1 ((IntKind.i64.wrap nb).tmod 6) [] 0) ⟨⟨[I rw, I st, I ((IntKind.i64.wrap nb).tmod 6)], [⟨(0 : Nat), c1⟩]⟩, []⟩ <|
(CA 27 (C27 0) ⟨⟨[I 0], []⟩, []⟩ <|
(CA 27 (C27 0) ⟨⟨[I 0], []⟩, []⟩ <|
(CN 21 (C21nvN rw st c1 ((IntKind.i64.wrap nb).tmod 6) [] 0) ⟨⟨[I rw, I st, I ((IntKind.i64.wrap nb).tmod 6)], [⟨(0 : Nat), c1⟩]⟩, []⟩ <|
(CA 11 (C11t tb) ⟨⟨[], []⟩, [tb]⟩ <|
R (.ret (.bool true))))))))) := by kernel_rfl
theorem f9MwnN (rw st wh nb : Int) (c1 : Nat) (tb : List Value) (R : ARes → Prop) : (vx.call 9 [.agg ⟨[I rw, I st, slV 2 0 c1, nilS, nilS]⟩, .int .u8 wh, .int .u8 nb] (retK R) (mQ0 tb) ((26, .con (CX ((TL.slice 2 0 (TL.val nilS (TL.val nilS TL.nil))).hole.hole.agg TL.nil) rw st [(0, c1)] true)) :: (35, .conN (C21wnN rw st c1 ((IntKind.i64.wrap nb).tmod 6) [] 0)) :: (9, .conN (C21wnN rw st c1 ((IntKind.i64.wrap nb).tmod 6) [] 0)) :: (25, .con (C27 0)) :: (2, .con (C27 0)) :: (25, .conN (C21wnN rw st c1 ((IntKind.i64.wrap nb).tmod 6) [] 0)) :: (43, .con (C11t tb)) :: [])) =
(CA 20 (CX ((TL.slice 2 0 (TL.val nilS (TL.val nilS TL.nil))).hole.hole.agg TL.nil) rw st [(0, c1)] true) ⟨⟨[I rw, I st], [⟨(0 : Nat), c1⟩]⟩, []⟩ <|
(CN 21 (C21wnN rw st c1 ((IntKind.i64.wrap nb).tmod 6) [] 0) ⟨⟨[I rw, I st, I ((IntKind.i64.wrap nb).tmod 6)], [⟨(0 : Nat), c1⟩]⟩, []⟩ <|
(CN 21 (C21wnN rw st c1 ((IntKind.i64.wrap nb).tmod 6) [] 0) ⟨⟨[I rw, I st, I ((IntKind.i64.wrap nb).tmod 6)], [⟨(0 : Nat), c1⟩]⟩, []⟩ <|
(CA 27 (C27 0) ⟨⟨[I 0], []⟩, []⟩ <|
(CA 27 (C27 0) ⟨⟨[I 0], []⟩, []⟩ <|
(CN 21 (C21wnN rw st c1 ((IntKind.i64.wrap nb).tmod 6) [] 0) ⟨⟨[I rw, I st, I ((IntKind.i64.wrap nb).tmod 6)], [⟨(0 : Nat), c1⟩]⟩, []⟩ <|
(CA 11 (C11t tb) ⟨⟨[], []⟩, [tb]⟩ <|
R (.ret (.bool true))))))))) := by kernel_rfl
theorem b9do (rw st : Int) (n cw cv cu i : Nat) (w v : Nat → Sp) (tb us : List Value) (R : Nat → AExit → Hw → Prop) : (vx.code none (.l p9d) (leafW [T9do] R) (T9do.inst (h9do rw st n cw cv cu tb (spL n w) (spL n v) us i)) ((0, .val (.bool true)) :: (5, .val (.pointer (some ⟨11, 0 + i * 2, none⟩))) :: (0, .val (.agg ⟨[I (w i).lo, I (w i).hi]⟩)) :: (3, .val (.pointer (some ⟨2, 0 + i * 2, none⟩))) :: (0, .val (.agg ⟨[I (w i).lo, I (w i).hi]⟩)) :: [(0, .split ([(2, .tm 0 [])]) ([(3, .tm 0 [])]))])) =
((OT (decide ((i : Int) < n)) true) ∧
(((((0 : Int) ≤ i) ∧ ((i : Int) < n)) ∧ (VR (.pointer (some ⟨11, 0 + i * 2, none⟩)))) ∧
(((0 + i * 2 + 2 ≤ (spL n w).length) ∧ (((.agg ⟨[I (w i).lo, I (w i).hi]⟩) : Value) = (.agg ⟨List.take 2 (List.drop (0 + i * 2) (spL n w))⟩))) ∧
(((((0 : Int) ≤ i) ∧ ((i : Int) < n)) ∧ (VR (.pointer (some ⟨2, 0 + i * 2, none⟩)))) ∧
(((0 + i * 2 + 2 ≤ (spL n w).length) ∧ (((.agg ⟨[I (w i).lo, I (w i).hi]⟩) : Value) = (.agg ⟨List.take 2 (List.drop (0 + i * 2) (spL n w))⟩))) ∧
(((!((w i).lo == (w i).lo && (fun c => (w i).hi == (w i).hi && c) true)) = true → R (0 : Nat) .ret ⟨⟨[I n, I i, I rw, I st], [⟨n, n⟩, ⟨(0 : Nat), (0 : Nat)⟩, ⟨n, cw⟩, ⟨n, cv⟩, ⟨(0 : Nat), cu⟩]⟩, [tb, spL n w, spL n v, us, spL n w], []⟩) ∧
((!((w i).lo == (w i).lo && (fun c => (w i).hi == (w i).hi && c) true)) = false → R (0 : Nat) .normal ⟨⟨[I n, I (IntKind.i64.wrap ((i : Int) + (1 : Int))), I rw, I st], [⟨n, n⟩, ⟨(0 : Nat), (0 : Nat)⟩, ⟨n, cw⟩, ⟨n, cv⟩, ⟨(0 : Nat), cu⟩]⟩, [tb, spL n w, spL n v, us, spL n w], []⟩))))))) := by kernel_rfl
theorem b9dox (rw st : Int) (n cw cv cu i : Nat) (w v : Nat → Sp) (tb us : List Value) (R : Nat → AExit → Hw → Prop) : (vx.code none (.l p9d) (leafW [T9do] R) (T9do.inst (h9do rw st n cw cv cu tb (spL n w) (spL n v) us i)) ((0, .val (.bool false)) :: [(1, .tm 0 [])])) =
((OT (decide ((i : Int) < n)) false) ∧
R (0 : Nat) (.exit 6) ⟨⟨[I n, I i, I rw, I st], [⟨n, n⟩, ⟨(0 : Nat), (0 : Nat)⟩, ⟨n, cw⟩, ⟨n, cv⟩, ⟨(0 : Nat), cu⟩]⟩, [tb, spL n w, spL n v, us, spL n w], []⟩) := by kernel_rfl
theorem b9dN (rw st : Int) (n cw cv i : Nat) (w v : Nat → Sp) (tb : List Value) (R : Nat → AExit → Hw → Prop) : (vx.code none (.l p9d) (leafW [T9dN] R) (T9dN.inst (h9dN rw st n cw cv tb (spL n w) (spL n v) i)) ((0, .val (.bool true)) :: (5, .val (.pointer (some ⟨11, 0 + i * 2, none⟩))) :: (0, .val (.agg ⟨[I (w i).lo, I (w i).hi]⟩)) :: (3, .val (.pointer (some ⟨2, 0 + i * 2, none⟩))) :: (0, .val (.agg ⟨[I (w i).lo, I (w i).hi]⟩)) :: [(0, .split ([(2, .tm 0 [])]) ([(3, .tm 0 [])]))])) =
((OT (decide ((i : Int) < n)) true) ∧
(((((0 : Int) ≤ i) ∧ ((i : Int) < n)) ∧ (VR (.pointer (some ⟨11, 0 + i * 2, none⟩)))) ∧
(((0 + i * 2 + 2 ≤ (spL n w).length) ∧ (((.agg ⟨[I (w i).lo, I (w i).hi]⟩) : Value) = (.agg ⟨List.take 2 (List.drop (0 + i * 2) (spL n w))⟩))) ∧
(((((0 : Int) ≤ i) ∧ ((i : Int) < n)) ∧ (VR (.pointer (some ⟨2, 0 + i * 2, none⟩)))) ∧
(((0 + i * 2 + 2 ≤ (spL n w).length) ∧ (((.agg ⟨[I (w i).lo, I (w i).hi]⟩) : Value) = (.agg ⟨List.take 2 (List.drop (0 + i * 2) (spL n w))⟩))) ∧
(((!((w i).lo == (w i).lo && (fun c => (w i).hi == (w i).hi && c) true)) = true → R (0 : Nat) .ret ⟨⟨[I n, I i, I rw, I st], [⟨n, n⟩, ⟨(0 : Nat), (0 : Nat)⟩, ⟨n, cw⟩, ⟨n, cv⟩]⟩, [tb, spL n w, spL n v, spL n w], []⟩) ∧
((!((w i).lo == (w i).lo && (fun c => (w i).hi == (w i).hi && c) true)) = false → R (0 : Nat) .normal ⟨⟨[I n, I (IntKind.i64.wrap ((i : Int) + (1 : Int))), I rw, I st], [⟨n, n⟩, ⟨(0 : Nat), (0 : Nat)⟩, ⟨n, cw⟩, ⟨n, cv⟩]⟩, [tb, spL n w, spL n v, spL n w], []⟩))))))) := by kernel_rfl
theorem b9dNx (rw st : Int) (n cw cv i : Nat) (w v : Nat → Sp) (tb : List Value) (R : Nat → AExit → Hw → Prop) : (vx.code none (.l p9d) (leafW [T9dN] R) (T9dN.inst (h9dN rw st n cw cv tb (spL n w) (spL n v) i)) ((0, .val (.bool false)) :: [(1, .tm 0 [])])) =
((OT (decide ((i : Int) < n)) false) ∧
R (0 : Nat) (.exit 6) ⟨⟨[I n, I i, I rw, I st], [⟨n, n⟩, ⟨(0 : Nat), (0 : Nat)⟩, ⟨n, cw⟩, ⟨n, cv⟩]⟩, [tb, spL n w, spL n v, spL n w], []⟩) := by kernel_rfl
section
variable {rw st : Int} {n cw cv cu : Nat} {us : List Value} {w v : Nat → Sp}
theorem cl9do (hus : ∀ v ∈ us, atomic v = true) {a : List Value} {b : List (Nat × Nat)} : ClW ⟨⟨a, b⟩, [tabC, spL n w, spL n v, us, spL n w], []⟩ := by
 refine ⟨fun cs hc => ?_, fun e hc => (by cases hc)⟩
 simp only [List.mem_cons, List.not_mem_nil, or_false] at hc
 rcases hc with rfl | rfl | rfl | rfl | rfl
 · exact tabC_at
 · exact spL_at _ _
 · exact spL_at _ _
 · exact hus
 · exact spL_at _ _
theorem loop9do (hus : ∀ v ∈ us, atomic v = true) (h8 : n ≤ 8) :
    LoopOW Tryd.prog none p9d T9do (h9do rw st n cw cv cu tabC (spL n w) (spL n v) us 0) (.exit 6) T9do (h9do rw st n cw cv cu tabC (spL n w) (spL n v) us n) := by
 refine loop_forW (Ts := [T9do]) (k := 16) (n := n) (e := .exit 6) (st := fun i => (0, h9do rw st n cw cv cu tabC (spL n w) (spL n v) us i)) rfl vx_sound ?_ (by rw [nglob]; omega) ⟨by simp, trivial⟩ (fun i _ => cl9do hus) (fun i hi R hR => ?_) (fun R hR => ?_) rfl (Nat.le_of_ble_eq_true rfl) (by decide) rfl
 · intro T hT; simp only [List.mem_singleton] at hT; subst hT; rfl
 · have hw := wrS (i := i) (by omega)
   have hR : R 0 .normal (h9do rw st n cw cv cu tabC (spL n w) (spL n v) us (i + 1)) := hR
   unfold h9do at hR
   rw [← hw] at hR
   have lc : 0 + i * 2 + 2 ≤ (spL n w).length := by rw [spL_len]; omega
   exact ⟨T9do, _, rfl, (b9do rw st n cw cv cu i w v tabC us R).mpr ⟨tt (decide_eq_true (by omega)), ⟨⟨by omega, by omega⟩, rfl⟩, ⟨lc, cellS hi⟩, ⟨⟨by omega, by omega⟩, rfl⟩, ⟨lc, cellS hi⟩, fun h => absurd (h.symm.trans (same2 _ _)) (by decide), fun _ => hR⟩⟩
 · exact ⟨T9do, _, rfl, (b9dox rw st n cw cv cu n w v tabC us R).mpr ⟨tf (decide_eq_false (by omega)), hR⟩⟩
end
section
variable {rw st : Int} {n cw cv : Nat} {w v : Nat → Sp}
theorem cl9dN {a : List Value} {b : List (Nat × Nat)} : ClW ⟨⟨a, b⟩, [tabC, spL n w, spL n v, spL n w], []⟩ := by
 refine ⟨fun cs hc => ?_, fun e hc => (by cases hc)⟩
 simp only [List.mem_cons, List.not_mem_nil, or_false] at hc
 rcases hc with rfl | rfl | rfl | rfl
 · exact tabC_at
 · exact spL_at _ _
 · exact spL_at _ _
 · exact spL_at _ _
theorem loop9dN (h8 : n ≤ 8) :
    LoopOW Tryd.prog none p9d T9dN (h9dN rw st n cw cv tabC (spL n w) (spL n v) 0) (.exit 6) T9dN (h9dN rw st n cw cv tabC (spL n w) (spL n v) n) := by
 refine loop_forW (Ts := [T9dN]) (k := 16) (n := n) (e := .exit 6) (st := fun i => (0, h9dN rw st n cw cv tabC (spL n w) (spL n v) i)) rfl vx_sound ?_ (by rw [nglob]; omega) ⟨by simp, trivial⟩ (fun i _ => cl9dN) (fun i hi R hR => ?_) (fun R hR => ?_) rfl (Nat.le_of_ble_eq_true rfl) (by decide) rfl
 · intro T hT; simp only [List.mem_singleton] at hT; subst hT; rfl
 · have hw := wrS (i := i) (by omega)
   have hR : R 0 .normal (h9dN rw st n cw cv tabC (spL n w) (spL n v) (i + 1)) := hR
   unfold h9dN at hR
   rw [← hw] at hR
   have lc : 0 + i * 2 + 2 ≤ (spL n w).length := by rw [spL_len]; omega
   exact ⟨T9dN, _, rfl, (b9dN rw st n cw cv i w v tabC R).mpr ⟨tt (decide_eq_true (by omega)), ⟨⟨by omega, by omega⟩, rfl⟩, ⟨lc, cellS hi⟩, ⟨⟨by omega, by omega⟩, rfl⟩, ⟨lc, cellS hi⟩, fun h => absurd (h.symm.trans (same2 _ _)) (by decide), fun _ => hR⟩⟩
 · exact ⟨T9dN, _, rfl, (b9dNx rw st n cw cv n w v tabC R).mpr ⟨tf (decide_eq_false (by omega)), hR⟩⟩
end
theorem raL_0at {u : Nat → Raw} : ∀ v ∈ raL 0 u, atomic v = true := fun v hv => by cases hv
theorem okS0_in {rw st : Int} {m : Nat} {u : Nat → Raw} (h : okS0 rw st m u = true) : (inB rw 1 6 && inB st 0 4) = true := by
 simp only [okS0, Bool.and_eq_true] at h
 rw [h.1, h.2.1]; rfl
theorem okSN_n {rw st : Int} {n n2 : Nat} {w v : Nat → Sp} (h : okSN rw st n n2 w v = true) : n2 = n ∧ n ≤ 8 := by
 simp only [okSN, Bool.and_eq_true, Bool.not_eq_true'] at h
 have a := of_decide_eq_false h.2.2.1
 have b := h.2.2.2.1
 simp only [bne_eq_false_iff_eq] at b
 omega
section
variable {rw st : Int} {c1 m cu a b : Nat} {u : Nat → Raw}
theorem law9n (ha : a < 256) (hb : b < 256) : ∃ hs, vx.call 9 [su_n rw st c1 m cu, .int .u8 a, .int .u8 b] (retK fun r => r = .ret (.bool true)) (mQH tabC (raL m u)) hs := by
 have c20 := C20n_ok (rw := rw) (st := st) (c1 := c1) (m := m) (cu := cu) (u := u)
 cases hok : okS0 rw st m u with
 | false =>
  rw [hok] at c20
  exact ⟨_, (f9In rw st a b c1 m cu tabC (raL m u) _).mpr ⟨fun _ => ⟨C11t_ok, rfl, rfl⟩, fun _ => ⟨c20, rfl, C11t_ok, rfl, rfl⟩⟩⟩
 | true =>
  rw [hok] at c20
  obtain ⟨hrw, hst, h5, hall⟩ := okS0_inv hok
  rcases Nat.eq_zero_or_pos m with h0 | h0
  · subst h0
    have hmz := mz_eq hb
    have hmany : b % 6 ≤ 5 := by have := Nat.mod_lt b (show 0 < 6 by omega); omega
    have c27 := C27_ok (s := 0) (by omega)
    generalize b % 6 = many at hmz hmany
    have c21 := C21n_ok (c1 := c1) (m := 0) (cu := cu) (u := fun i => toH (u i)) hrw hst ⟨by omega, fun i hi => by omega⟩ hmany
    rw [bestQ_no (savF_zero 0)] at c21
    have x21 := C21nnN_ok (okS0_in hok) hmany
    refine ⟨_, (f9Mn rw st a b c1 cu tabC (raL 0 u) _).mpr ?_⟩
    rw [hmz]
    exact ⟨c20, rfl, (by repeat' (first | rfl | trivial | apply And.intro)), c21, rfl, x21, rfl, c27, rfl, c27, rfl, c21, rfl, C11t_ok, rfl, rfl⟩
  · obtain ⟨hl, hU⟩ := huts_conv hrw.1 hrw.2 h5 hall
    rw [hl]
    obtain ⟨r, rfl⟩ : ∃ r : Nat, rw = (r : Int) := ⟨rw.toNat, (Int.toNat_of_nonneg (by omega)).symm⟩
    exact law9n_E hrw hst hU h0 ha hb
theorem law9v (ha : a < 256) (hb : b < 256) : ∃ hs, vx.call 9 [su_v rw st c1 m cu, .int .u8 a, .int .u8 b] (retK fun r => r = .ret (.bool true)) (mQH tabC (raL m u)) hs := by
 have c20 := C20v_ok (rw := rw) (st := st) (c1 := c1) (m := m) (cu := cu) (u := u)
 cases hok : okS0 rw st m u with
 | false =>
  rw [hok] at c20
  exact ⟨_, (f9Iv rw st a b c1 m cu tabC (raL m u) _).mpr ⟨fun _ => ⟨C11t_ok, rfl, rfl⟩, fun _ => ⟨c20, rfl, C11t_ok, rfl, rfl⟩⟩⟩
 | true =>
  rw [hok] at c20
  obtain ⟨hrw, hst, h5, hall⟩ := okS0_inv hok
  rcases Nat.eq_zero_or_pos m with h0 | h0
  · subst h0
    have hmz := mz_eq hb
    have hmany : b % 6 ≤ 5 := by have := Nat.mod_lt b (show 0 < 6 by omega); omega
    have c27 := C27_ok (s := 0) (by omega)
    generalize b % 6 = many at hmz hmany
    have c21 := C21v_ok (c1 := c1) (m := 0) (cu := cu) (u := fun i => toH (u i)) hrw hst ⟨by omega, fun i hi => by omega⟩ hmany
    rw [bestQ_no (savF_zero 0)] at c21
    have x21 := C21nvN_ok (c1 := c1) (okS0_in hok) hmany
    refine ⟨_, (f9Mv rw st a b c1 cu tabC (raL 0 u) _).mpr ?_⟩
    rw [hmz]
    exact ⟨c20, rfl, (by repeat' (first | rfl | trivial | apply And.intro)), c21, rfl, x21, rfl, c27, rfl, c27, rfl, c21, rfl, C11t_ok, rfl, rfl⟩
  · obtain ⟨hl, hU⟩ := huts_conv hrw.1 hrw.2 h5 hall
    rw [hl]
    obtain ⟨r, rfl⟩ : ∃ r : Nat, rw = (r : Int) := ⟨rw.toNat, (Int.toNat_of_nonneg (by omega)).symm⟩
    exact law9v_E hrw hst hU h0 ha hb
theorem law9w (ha : a < 256) (hb : b < 256) : ∃ hs, vx.call 9 [su_w rw st c1 m cu, .int .u8 a, .int .u8 b] (retK fun r => r = .ret (.bool true)) (mQH tabC (raL m u)) hs := by
 have c20 := C20w_ok (rw := rw) (st := st) (c1 := c1) (m := m) (cu := cu) (u := u)
 cases hok : okS0 rw st m u with
 | false =>
  rw [hok] at c20
  exact ⟨_, (f9Iw rw st a b c1 m cu tabC (raL m u) _).mpr ⟨fun _ => ⟨C11t_ok, rfl, rfl⟩, fun _ => ⟨c20, rfl, C11t_ok, rfl, rfl⟩⟩⟩
 | true =>
  rw [hok] at c20
  obtain ⟨hrw, hst, h5, hall⟩ := okS0_inv hok
  rcases Nat.eq_zero_or_pos m with h0 | h0
  · subst h0
    have hmz := mz_eq hb
    have hmany : b % 6 ≤ 5 := by have := Nat.mod_lt b (show 0 < 6 by omega); omega
    have c27 := C27_ok (s := 0) (by omega)
    generalize b % 6 = many at hmz hmany
    have c21 := C21w_ok (c1 := c1) (m := 0) (cu := cu) (u := fun i => toH (u i)) hrw hst ⟨by omega, fun i hi => by omega⟩ hmany
    rw [bestQ_no (savF_zero 0)] at c21
    have x21 := C21wnN_ok (c1 := c1) (okS0_in hok) hmany
    refine ⟨_, (f9Mw rw st a b c1 cu tabC (raL 0 u) _).mpr ?_⟩
    rw [hmz]
    exact ⟨c20, rfl, (by repeat' (first | rfl | trivial | apply And.intro)), c21, rfl, x21, rfl, c27, rfl, c27, rfl, c21, rfl, C11t_ok, rfl, rfl⟩
  · obtain ⟨hl, hU⟩ := huts_conv hrw.1 hrw.2 h5 hall
    rw [hl]
    obtain ⟨r, rfl⟩ : ∃ r : Nat, rw = (r : Int) := ⟨rw.toNat, (Int.toNat_of_nonneg (by omega)).symm⟩
    exact law9w_E hrw hst hU h0 ha hb
end
section
variable {rw st : Int} {n cw n2 cv m cu a b : Nat} {w v : Nat → Sp} {u : Nat → Raw}
theorem law9R (ha : a < 256) (hb : b < 256) : ∃ hs, vx.call 9 [suR rw st n cw n2 cv m cu, .int .u8 a, .int .u8 b] (retK fun r => r = .ret (.bool true)) (mSu tabC (spL n w) (spL n2 v) (raL m u)) hs := by
 have c20 := C20_ok (rw := rw) (st := st) (n := n) (cw := cw) (n2 := n2) (cv := cv) (m := m) (cu := cu) (w := w) (v := v) (u := u)
 cases hok : okSu rw st n n2 m w v u with
 | false =>
  rw [hok] at c20
  exact ⟨_, (f9Ip rw st a b n cw n2 cv m cu tabC (spL n w) (spL n2 v) (raL m u) _).mpr ⟨fun _ => ⟨C11t_ok, rfl, rfl⟩, fun _ => ⟨c20, rfl, C11t_ok, rfl, rfl⟩⟩⟩
 | true =>
  rw [hok] at c20
  obtain ⟨e, hS, h5, hall⟩ := okSu_inv hok
  subst e
  rcases Nat.eq_zero_or_pos m with h0 | h0
  · subst h0
    have hmz := mz_eq hb
    have hmany : b % 6 ≤ 5 := by have := Nat.mod_lt b (show 0 < 6 by omega); omega
    have c27 := C27_ok (s := 0) (by omega)
    generalize b % 6 = many at hmz hmany
    have c21 := C21d_ok (cw := cw) (cv := cv) (cu := cu) (u := fun i => toH (u i)) hS (m := 0) ⟨by omega, fun i hi => by omega⟩ hmany
    rw [show savQ st w v n2 0 (fun i => toH (u i)) many = 0 from bestQ_no (y := perY st w v n2 fun i => toH (u i)) (many := many) (m := 0) rfl] at c21
    have hN : okSN rw st n2 n2 w v = true := by
     simp only [okSu, Bool.and_eq_true] at hok
     simp only [okSN, Bool.and_eq_true]
     exact ⟨hok.1, hok.2.1, hok.2.2.1, hok.2.2.2.1, hok.2.2.2.2.2.1⟩
    have x21 := C21N_ok (cw := cw) (cv := cv) hN hmany
    rcases Nat.eq_zero_or_pos n2 with hn | hn
    · subst hn
      refine ⟨_, (f9Mz rw st a b cw cv cu w v tabC (raL 0 u) _).mpr ?_⟩
      rw [hmz]
      exact ⟨c20, rfl, (by repeat' (first | rfl | trivial | apply And.intro)), c21, rfl, x21, rfl, c27, rfl, c27, rfl, c21, rfl, C11t_ok, rfl, rfl⟩
    · have h8 := hS.n8
      refine ⟨_, (f9Mp rw st a b n2 cw cv cu w v tabC (raL 0 u) _).mpr ?_⟩
      rw [hmz, copyA n2 w, Nat.zero_add n2]
      exact ⟨fun _ => ⟨C11t_ok, rfl, rfl⟩, fun _ => ⟨c20, rfl, grow8s w hn h8, (by repeat' (first | rfl | trivial | apply And.intro)), c21, rfl, x21, rfl, c27, rfl, c27, rfl, c21, rfl, cl9do raL_0at, loop9do raL_0at h8, C11t_ok, rfl, rfl⟩⟩
  · obtain ⟨hl, hU⟩ := huts_conv hS.rw1 hS.rw6 h5 hall
    rw [hl]
    obtain ⟨r, rfl⟩ : ∃ r : Nat, rw = (r : Int) := ⟨rw.toNat, (Int.toNat_of_nonneg (by have := hS.rw1; omega)).symm⟩
    rcases Nat.eq_zero_or_pos n2 with hn | hn
    · subst hn
      exact law9z_E hS hU h0 ha hb
    · exact law9p_E hS hU hn h0 ha hb
theorem law9N (ha : a < 256) (hb : b < 256) : ∃ hs, vx.call 9 [suN rw st n cw n2 cv, .int .u8 a, .int .u8 b] (retK fun r => r = .ret (.bool true)) (mQN tabC (spL n w) (spL n2 v)) hs := by
 have c20 := C20N_ok (rw := rw) (st := st) (n := n) (cw := cw) (n2 := n2) (cv := cv) (w := w) (v := v)
 cases hok : okSN rw st n n2 w v with
 | false =>
  rw [hok] at c20
  exact ⟨_, (f9IN rw st a b n cw n2 cv tabC (spL n w) (spL n2 v) _).mpr ⟨fun _ => ⟨C11t_ok, rfl, rfl⟩, fun _ => ⟨c20, rfl, C11t_ok, rfl, rfl⟩⟩⟩
 | true =>
  rw [hok] at c20
  obtain ⟨e, h8⟩ := okSN_n hok
  subst e
  have hmz := mz_eq hb
  have hmany : b % 6 ≤ 5 := by have := Nat.mod_lt b (show 0 < 6 by omega); omega
  have c27 := C27_ok (s := 0) (by omega)
  generalize b % 6 = many at hmz hmany
  have c21 := C21N_ok (cw := cw) (cv := cv) hok hmany
  rcases Nat.eq_zero_or_pos n2 with hn | hn
  · subst hn
    refine ⟨_, (f9MZ rw st a b cw cv w v tabC _).mpr ?_⟩
    rw [hmz]
    exact ⟨c20, rfl, c21, rfl, c21, rfl, c27, rfl, c27, rfl, c21, rfl, C11t_ok, rfl, rfl⟩
  · refine ⟨_, (f9MN rw st a b n2 cw cv w v tabC _).mpr ?_⟩
    rw [hmz, copyA n2 w, Nat.zero_add n2]
    exact ⟨fun _ => ⟨C11t_ok, rfl, rfl⟩, fun _ => ⟨c20, rfl, grow8s w hn h8, c21, rfl, c21, rfl, c27, rfl, c27, rfl, c21, rfl, cl9dN, loop9dN h8, C11t_ok, rfl, rfl⟩⟩
theorem l9nnN (ha : a < 256) (hb : b < 256) : ∃ hs, vx.call 9 [.agg ⟨[I rw, I st, nilS, nilS, nilS]⟩, .int .u8 a, .int .u8 b] (retK fun r => r = .ret (.bool true)) (mQ0 tabC) hs := by
 have c20 := C20nnN_ok (rw := rw) (st := st)
 have hmz := mz_eq hb
 have hmany : b % 6 ≤ 5 := by have := Nat.mod_lt b (show 0 < 6 by omega); omega
 have c27 := C27_ok (s := 0) (by omega)
 generalize b % 6 = many at hmz hmany
 cases hok : inB rw 1 6 && inB st 0 4 with
 | false =>
  rw [hok] at c20
  exact ⟨_, (f9InnN rw st a b tabC _).mpr ⟨c20, rfl, C11t_ok, rfl, rfl⟩⟩
 | true =>
  have c21 := C21nnN_ok hok hmany
  rw [hok] at c20
  refine ⟨_, (f9MnnN rw st a b tabC _).mpr ?_⟩
  rw [hmz]
  exact ⟨c20, rfl, c21, rfl, c21, rfl, c27, rfl, c27, rfl, c21, rfl, C11t_ok, rfl, rfl⟩
theorem l9nvN {c1 : Nat} (ha : a < 256) (hb : b < 256) : ∃ hs, vx.call 9 [.agg ⟨[I rw, I st, nilS, slV 3 0 c1, nilS]⟩, .int .u8 a, .int .u8 b] (retK fun r => r = .ret (.bool true)) (mQ0 tabC) hs := by
 have c20 := C20nvN_ok (rw := rw) (st := st) (c1 := c1)
 have hmz := mz_eq hb
 have hmany : b % 6 ≤ 5 := by have := Nat.mod_lt b (show 0 < 6 by omega); omega
 have c27 := C27_ok (s := 0) (by omega)
 generalize b % 6 = many at hmz hmany
 cases hok : inB rw 1 6 && inB st 0 4 with
 | false =>
  rw [hok] at c20
  exact ⟨_, (f9InvN rw st a b c1 tabC _).mpr ⟨c20, rfl, C11t_ok, rfl, rfl⟩⟩
 | true =>
  have c21 := C21nvN_ok (c1 := c1) hok hmany
  rw [hok] at c20
  refine ⟨_, (f9MnvN rw st a b c1 tabC _).mpr ?_⟩
  rw [hmz]
  exact ⟨c20, rfl, c21, rfl, c21, rfl, c27, rfl, c27, rfl, c21, rfl, C11t_ok, rfl, rfl⟩
theorem l9wnN {c1 : Nat} (ha : a < 256) (hb : b < 256) : ∃ hs, vx.call 9 [.agg ⟨[I rw, I st, slV 2 0 c1, nilS, nilS]⟩, .int .u8 a, .int .u8 b] (retK fun r => r = .ret (.bool true)) (mQ0 tabC) hs := by
 have c20 := C20wnN_ok (rw := rw) (st := st) (c1 := c1)
 have hmz := mz_eq hb
 have hmany : b % 6 ≤ 5 := by have := Nat.mod_lt b (show 0 < 6 by omega); omega
 have c27 := C27_ok (s := 0) (by omega)
 generalize b % 6 = many at hmz hmany
 cases hok : inB rw 1 6 && inB st 0 4 with
 | false =>
  rw [hok] at c20
  exact ⟨_, (f9IwnN rw st a b c1 tabC _).mpr ⟨c20, rfl, C11t_ok, rfl, rfl⟩⟩
 | true =>
  have c21 := C21wnN_ok (c1 := c1) hok hmany
  rw [hok] at c20
  refine ⟨_, (f9MwnN rw st a b c1 tabC _).mpr ?_⟩
  rw [hmz]
  exact ⟨c20, rfl, c21, rfl, c21, rfl, c27, rfl, c27, rfl, c21, rfl, C11t_ok, rfl, rfl⟩
theorem l9nkP (h : n ≠ 0) (ha : a < 256) (hb : b < 256) : ∃ hs, vx.call 9 [.agg ⟨[I rw, I st, nilS, slV 3 n cv, slV 4 m cu]⟩, .int .u8 a, .int .u8 b] (retK fun r => r = .ret (.bool true)) (mQ0 tabC) hs := by
 have c20 := C20nkP_ok (rw := rw) (st := st) (n := n) (cv := cv) (m := m) (cu := cu) h
 refine ⟨_, (f9InkP rw st a b n cv m cu tabC _).mpr ?_⟩
 repeat' (first | with_reducible apply And.intro | with_reducible intro)
 all_goals first
  | exact c20
  | exact C11t_ok
  | trivial
  | rfl
theorem l9nkN (h : n ≠ 0) (ha : a < 256) (hb : b < 256) : ∃ hs, vx.call 9 [.agg ⟨[I rw, I st, nilS, slV 3 n cv, nilS]⟩, .int .u8 a, .int .u8 b] (retK fun r => r = .ret (.bool true)) (mQ0 tabC) hs := by
 have c20 := C20nkN_ok (rw := rw) (st := st) (n := n) (cv := cv) h
 refine ⟨_, (f9InkN rw st a b n cv tabC _).mpr ?_⟩
 repeat' (first | with_reducible apply And.intro | with_reducible intro)
 all_goals first
  | exact c20
  | exact C11t_ok
  | trivial
  | rfl
theorem l9knP (h : 0 ≠ n) (ha : a < 256) (hb : b < 256) : ∃ hs, vx.call 9 [.agg ⟨[I rw, I st, slV 2 n cw, nilS, slV 4 m cu]⟩, .int .u8 a, .int .u8 b] (retK fun r => r = .ret (.bool true)) (mQ0 tabC) hs := by
 have c20 := C20knP_ok (rw := rw) (st := st) (n := n) (cw := cw) (m := m) (cu := cu) h
 refine ⟨_, (f9IknP rw st a b n cw m cu tabC _).mpr ?_⟩
 repeat' (first | with_reducible apply And.intro | with_reducible intro)
 all_goals first
  | exact c20
  | exact C11t_ok
  | trivial
  | rfl
theorem l9knN (h : 0 ≠ n) (ha : a < 256) (hb : b < 256) : ∃ hs, vx.call 9 [.agg ⟨[I rw, I st, slV 2 n cw, nilS, nilS]⟩, .int .u8 a, .int .u8 b] (retK fun r => r = .ret (.bool true)) (mQ0 tabC) hs := by
 have c20 := C20knN_ok (rw := rw) (st := st) (n := n) (cw := cw) h
 refine ⟨_, (f9IknN rw st a b n cw tabC _).mpr ?_⟩
 repeat' (first | with_reducible apply And.intro | with_reducible intro)
 all_goals first
  | exact c20
  | exact C11t_ok
  | trivial
  | rfl
end
end Go.Ab
set_option maxRecDepth 100000
namespace Go.Ab
open Go Go.RowKit Go.Proofs
section
variable {W : World}
theorem farther_args {m : NMap} {rw st j1 j2 : Int} {A B C a b c : Value} (ha : VRel m A a) (hb : VRel m B b) (hc : VRel m C c) :
    VsRel m [.agg ⟨[I rw, I st, A, B, C]⟩, .int .u8 j1, .int .u8 j2] [.agg ⟨[I rw, I st, a, b, c]⟩, .int .u8 j1, .int .u8 j2] :=
 .agg (.atom rfl (.atom rfl (VsRel.cons ha (VsRel.cons hb hc)))) (.atom rfl (.atom rfl .nil))
theorem go9 (hT : RcHolds W gl1) {rw st : Int} {j1 j2 : Nat} {A B C a b c : Value} {z2 z3 z4 : RoC} (h2 : RcHolds W z2) (h3 : RcHolds W z3) (h4 : RcHolds W z4)
    (ha : ∀ m : NMap, m 2 = some z2.1 → VRel m A a) (hb : ∀ m : NMap, m 3 = some z3.1 → VRel m B b) (hc : ∀ m : NMap, m 4 = some z4.1 → VRel m C c)
    (hr : ∃ hs, vx.call 9 [.agg ⟨[I rw, I st, A, B, C]⟩, .int .u8 j1, .int .u8 j2] (retK fun r => r = .ret (.bool true)) (wlM [gl0, gl1, z2, z3, z4]) hs) :
    Calls Tryd.prog 9 #[.agg #[I rw, I st, a, b, c], .int .u8 j1, .int .u8 j2] W fun e W' => e = .returned (.bool true) ∧ Below W.heap.size W W' := by
 refine calls_wl (l := [gl0, gl1, z2, z3, z4]) (args' := [.agg ⟨[I rw, I st, a, b, c]⟩, .int .u8 j1, .int .u8 j2]) (Nat.le_of_ble_eq_true rfl) (fun x hx => ?_) gl_ok (farther_args (ha _ rfl) (hb _ rfl) (hc _ rfl)) hr
 simp only [List.mem_cons, List.not_mem_nil, or_false] at hx
 rcases hx with rfl | rfl | rfl | rfl | rfl
 · exact holds_none rfl
 · exact hT
 · exact h2
 · exact h3
 · exact h4
theorem run9 (hT : RcHolds W gl1) {rw st : Int} {j1 j2 : Nat} {a b c : Value} (ha : SpsIn W a) (hb : SpsIn W b) (hc : HutsIn W c) (k1 : j1 < 256) (k2 : j2 < 256) :
    Calls Tryd.prog 9 #[.agg #[I rw, I st, a, b, c], .int .u8 j1, .int .u8 j2] W fun e W' => e = .returned (.bool true) ∧ Below W.heap.size W W' := by
 have h0 : RcHolds W no0 := holds_none rfl
 have hn : ∀ F : BInfo, RcHolds W (F, none) := fun F => holds_none rfl
 rcases ha with rfl | ⟨n, w, F2, cw, hF2, ha⟩
 · rcases hb with rfl | ⟨n2, v, F3, cv, hF3, hb⟩
   · rcases hc with rfl | ⟨m, u, F4, cu, hF4, hc⟩
     · exact go9 hT (z2 := no0) (z3 := no0) (z4 := no0) h0 h0 h0 (fun _ _ => nil_rel) (fun _ _ => nil_rel) (fun _ _ => nil_rel) (l9nnN k1 k2)
     · exact go9 hT (z2 := no0) (z3 := no0) (z4 := (F4, some (raL m u, 1))) h0 h0 hF4 (fun _ _ => nil_rel) (fun _ _ => nil_rel) (hc 4) (law9n (c1 := 0) k1 k2)
   · by_cases e : n2 = 0
     · subst e
       rcases hc with rfl | ⟨m, u, F4, cu, hF4, hc⟩
       · exact go9 hT (z2 := no0) (z3 := (F3, none)) (z4 := no0) h0 (hn _) h0 (fun _ _ => nil_rel) (hb 3) (fun _ _ => nil_rel) (l9nvN k1 k2)
       · exact go9 hT (z2 := no0) (z3 := (F3, none)) (z4 := (F4, some (raL m u, 1))) h0 (hn _) hF4 (fun _ _ => nil_rel) (hb 3) (hc 4) (law9v k1 k2)
     · rcases hc with rfl | ⟨m, u, F4, cu, hF4, hc⟩
       · exact go9 hT (z2 := no0) (z3 := (F3, none)) (z4 := no0) h0 (hn _) h0 (fun _ _ => nil_rel) (hb 3) (fun _ _ => nil_rel) (l9nkN e k1 k2)
       · exact go9 hT (z2 := no0) (z3 := (F3, none)) (z4 := (F4, none)) h0 (hn _) (hn _) (fun _ _ => nil_rel) (hb 3) (hc 4) (l9nkP e k1 k2)
 · rcases hb with rfl | ⟨n2, v, F3, cv, hF3, hb⟩
   · by_cases e : 0 = n
     · subst e
       rcases hc with rfl | ⟨m, u, F4, cu, hF4, hc⟩
       · exact go9 hT (z2 := (F2, none)) (z3 := no0) (z4 := no0) (hn _) h0 h0 (ha 2) (fun _ _ => nil_rel) (fun _ _ => nil_rel) (l9wnN k1 k2)
       · exact go9 hT (z2 := (F2, none)) (z3 := no0) (z4 := (F4, some (raL m u, 1))) (hn _) h0 hF4 (ha 2) (fun _ _ => nil_rel) (hc 4) (law9w k1 k2)
     · rcases hc with rfl | ⟨m, u, F4, cu, hF4, hc⟩
       · exact go9 hT (z2 := (F2, none)) (z3 := no0) (z4 := no0) (hn _) h0 h0 (ha 2) (fun _ _ => nil_rel) (fun _ _ => nil_rel) (l9knN e k1 k2)
       · exact go9 hT (z2 := (F2, none)) (z3 := no0) (z4 := (F4, none)) (hn _) h0 (hn _) (ha 2) (fun _ _ => nil_rel) (hc 4) (l9knP e k1 k2)
   · rcases hc with rfl | ⟨m, u, F4, cu, hF4, hc⟩
     · exact go9 hT (z2 := (F2, some (spL n w, 1))) (z3 := (F3, some (spL n2 v, 1))) (z4 := no0) hF2 hF3 h0 (ha 2) (hb 3) (fun _ _ => nil_rel) (law9N k1 k2)
     · exact go9 hT (z2 := (F2, some (spL n w, 1))) (z3 := (F3, some (spL n2 v, 1))) (z4 := (F4, some (raL m u, 1))) hF2 hF3 hF4 (ha 2) (hb 3) (hc 4) (law9R k1 k2)
end
end Go.Ab
namespace Go.Ab
open Go Go.RowKit Go.Lib
theorem laidMet_tail {P : Program} {x : String × DataW Unit} {rest : List (String × DataW Unit)} {W : World} (h : laidMet P (x :: rest) W) : laidMet P rest W := by
 obtain ⟨ps, ⟨g, t, cs, fuel, p, q, hg, ht, hvar, hd, hrest, rfl⟩, hnd, hall⟩ := h
 refine ⟨q, hrest, (List.nodup_append.1 hnd).2.1, fun b off hm => hall b off (List.mem_append_right _ hm)⟩
end Go.Ab
