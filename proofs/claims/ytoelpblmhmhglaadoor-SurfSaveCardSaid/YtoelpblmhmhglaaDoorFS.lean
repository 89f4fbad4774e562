/- package surf: the law SurfSave, of valid surfs with huts. -/
import Derived.Test.YtoelpblmhmhglaaDoorFM
import Derived.Test.YtoelpblmhmhglaaDoorFR
import Derived.Test.YtoelpblmhmhglaaDoorFK
set_option maxRecDepth 100000
namespace Go.Ab
open Go Go.RowKit Go.Proofs
theorem f70p (rw : Nat) (st nb : Int) (n cw cv m cu k d left _ : Nat) (w v : Nat → Sp) (u : Nat → Hut) (L Q bs : Nat → Int) (tb : List Value) (R : ARes → Prop) : (vx.call 7 [suV rw st n cw cv m cu, .int .u8 nb, slV 5 k d] (retK R) (m7 tb (spL n w) (spL n v) (huL m u) (u8L k bs)) ([(21, .split ((7, .con (C11t tb)) :: []) ((4, .con (C20 rw st n cw n cv m cu (spL n w) (spL n v) (huL m u) true)) :: (11, .conN (C21s rw st n cw cv m cu ((IntKind.i64.wrap nb).tmod 6) tb (spL n w) (spL n v) (huL m u) (ints m L) m left)) :: (15, .val (.bool false)) :: (6, .con (C26 rw st n cw cv m cu tb (spL n w) (spL n v) (huL m u) (ints m L) ((IntKind.i64.wrap nb).tmod 6) m m left true)) :: (10, .val (.bool false)) :: (7, .loopW T7a (.exit 0) T7b fun _ => h7b (rw : Int) st ((IntKind.i64.wrap nb).tmod 6) n cw cv m cu k d tb (spL n w) (spL n v) (huL m u) (u8L k bs) (ints m L) (ints m Q) (left : Int) m) :: (2, .con (C26 rw st n cw cv m cu tb (spL n w) (spL n v) (huL m u) (ints m Q) ((IntKind.i64.wrap nb).tmod 6) m m 0 false)) :: (8, .con (C11t tb)) :: []))])) =
((((farB m n n) = true → (CA 11 (C11t tb) ⟨⟨[], []⟩, [tb]⟩ <|
R (.ret (.bool true)))) ∧
((farB m n n) = false → (CA 20 (C20 rw st n cw n cv m cu (spL n w) (spL n v) (huL m u) true) ⟨⟨[(I rw), (I st)], [⟨n, cw⟩, ⟨n, cv⟩, ⟨m, cu⟩]⟩, [(spL n w), (spL n v), (huL m u)]⟩ <|
(CN 21 (C21s rw st n cw cv m cu ((IntKind.i64.wrap nb).tmod 6) tb (spL n w) (spL n v) (huL m u) (ints m L) m left) ⟨⟨[(I rw), (I st), (I ((IntKind.i64.wrap nb).tmod 6))], [⟨n, cw⟩, ⟨n, cv⟩, ⟨m, cu⟩]⟩, [tb, (spL n w), (spL n v), (huL m u)]⟩ <|
((OT ((m : Int) != m) false) ∧
(CA 26 (C26 rw st n cw cv m cu tb (spL n w) (spL n v) (huL m u) (ints m L) ((IntKind.i64.wrap nb).tmod 6) m m left true) ⟨⟨[(I rw), (I st), (I ((IntKind.i64.wrap nb).tmod 6))], [⟨m, m⟩, ⟨n, cw⟩, ⟨n, cv⟩, ⟨m, cu⟩]⟩, [tb, (spL n w), (spL n v), (huL m u), (ints m L)]⟩ <|
((OT ((left : Int) != left) false) ∧
(LW p7b T7a ⟨⟨[(I left), (I m), (I 0), (I rw), (I st), (I ((IntKind.i64.wrap nb).tmod 6))], [⟨k, d⟩, ⟨m, m⟩, ⟨n, cw⟩, ⟨n, cv⟩, ⟨m, cu⟩]⟩, [tb, (spL n w), (spL n v), (huL m u), (u8L k bs), (ints m L)], []⟩ (.exit 0) T7b ⟨⟨[(I left), (I m), (I m), (I rw), (I st), (I ((IntKind.i64.wrap nb).tmod 6))], [⟨k, d⟩, ⟨m, m⟩, ⟨m, m⟩, ⟨n, cw⟩, ⟨n, cv⟩, ⟨m, cu⟩]⟩, [tb, (spL n w), (spL n v), (huL m u), (u8L k bs), (ints m L), (ints m Q)], []⟩ <|
(CA 26 (C26 rw st n cw cv m cu tb (spL n w) (spL n v) (huL m u) (ints m Q) ((IntKind.i64.wrap nb).tmod 6) m m 0 false) ⟨⟨[(I rw), (I st), (I ((IntKind.i64.wrap nb).tmod 6))], [⟨m, m⟩, ⟨n, cw⟩, ⟨n, cv⟩, ⟨m, cu⟩]⟩, [tb, (spL n w), (spL n v), (huL m u), (ints m Q)]⟩ <|
(CA 11 (C11t tb) ⟨⟨[], []⟩, [tb]⟩ <|
R (.ret (.bool true))))))))))))) := by kernel_rfl
theorem f7xp (rw : Nat) (st nb : Int) (n cw cv m cu k d left o : Nat) (w v : Nat → Sp) (u : Nat → Hut) (L Q bs : Nat → Int) (tb : List Value) (R : ARes → Prop) : (vx.call 7 [suV rw st n cw cv m cu, .int .u8 nb, slV 5 k d] (retK R) (m7 tb (spL n w) (spL n v) (huL m u) (u8L k bs)) ([(21, .split ((7, .con (C11t tb)) :: []) ((4, .con (C20 rw st n cw n cv m cu (spL n w) (spL n v) (huL m u) true)) :: (11, .conN (C21s rw st n cw cv m cu ((IntKind.i64.wrap nb).tmod 6) tb (spL n w) (spL n v) (huL m u) (ints m L) m left)) :: (15, .val (.bool false)) :: (6, .con (C26 rw st n cw cv m cu tb (spL n w) (spL n v) (huL m u) (ints m L) ((IntKind.i64.wrap nb).tmod 6) m m left true)) :: (10, .val (.bool false)) :: (7, .loopW T7a (.exit 0) T7b fun _ => h7b (rw : Int) st ((IntKind.i64.wrap nb).tmod 6) n cw cv m cu k d tb (spL n w) (spL n v) (huL m u) (u8L k bs) (ints m L) (ints m Q) (left : Int) m) :: (2, .con (C26 rw st n cw cv m cu tb (spL n w) (spL n v) (huL m u) (ints m Q) ((IntKind.i64.wrap nb).tmod 6) m m o true)) :: (11, .con (C27 o)) :: (2, .con (C27 left)) :: (0, .val (.bool false)) :: (3, .con (C27 o)) :: (2, .con (C27 left)) :: [(0, .split ((3, .val (.bool false)) :: (6, .loopW T7c (.exit 2) T7c fun _ => h7c m tb (ints m L) (ints m Q) (left : Int) (o : Int) m) :: (0, .con (C11t tb)) :: []) ((7, .loopW T7c (.exit 2) T7c fun _ => h7c m tb (ints m L) (ints m Q) (left : Int) (o : Int) m) :: (0, .con (C11t tb)) :: []))]))])) =
((((farB m n n) = true → (CA 11 (C11t tb) ⟨⟨[], []⟩, [tb]⟩ <|
R (.ret (.bool true)))) ∧
((farB m n n) = false → (CA 20 (C20 rw st n cw n cv m cu (spL n w) (spL n v) (huL m u) true) ⟨⟨[(I rw), (I st)], [⟨n, cw⟩, ⟨n, cv⟩, ⟨m, cu⟩]⟩, [(spL n w), (spL n v), (huL m u)]⟩ <|
(CN 21 (C21s rw st n cw cv m cu ((IntKind.i64.wrap nb).tmod 6) tb (spL n w) (spL n v) (huL m u) (ints m L) m left) ⟨⟨[(I rw), (I st), (I ((IntKind.i64.wrap nb).tmod 6))], [⟨n, cw⟩, ⟨n, cv⟩, ⟨m, cu⟩]⟩, [tb, (spL n w), (spL n v), (huL m u)]⟩ <|
((OT ((m : Int) != m) false) ∧
(CA 26 (C26 rw st n cw cv m cu tb (spL n w) (spL n v) (huL m u) (ints m L) ((IntKind.i64.wrap nb).tmod 6) m m left true) ⟨⟨[(I rw), (I st), (I ((IntKind.i64.wrap nb).tmod 6))], [⟨m, m⟩, ⟨n, cw⟩, ⟨n, cv⟩, ⟨m, cu⟩]⟩, [tb, (spL n w), (spL n v), (huL m u), (ints m L)]⟩ <|
((OT ((left : Int) != left) false) ∧
(LW p7b T7a ⟨⟨[(I left), (I m), (I 0), (I rw), (I st), (I ((IntKind.i64.wrap nb).tmod 6))], [⟨k, d⟩, ⟨m, m⟩, ⟨n, cw⟩, ⟨n, cv⟩, ⟨m, cu⟩]⟩, [tb, (spL n w), (spL n v), (huL m u), (u8L k bs), (ints m L)], []⟩ (.exit 0) T7b ⟨⟨[(I left), (I m), (I m), (I rw), (I st), (I ((IntKind.i64.wrap nb).tmod 6))], [⟨k, d⟩, ⟨m, m⟩, ⟨m, m⟩, ⟨n, cw⟩, ⟨n, cv⟩, ⟨m, cu⟩]⟩, [tb, (spL n w), (spL n v), (huL m u), (u8L k bs), (ints m L), (ints m Q)], []⟩ <|
(CA 26 (C26 rw st n cw cv m cu tb (spL n w) (spL n v) (huL m u) (ints m Q) ((IntKind.i64.wrap nb).tmod 6) m m o true) ⟨⟨[(I rw), (I st), (I ((IntKind.i64.wrap nb).tmod 6))], [⟨m, m⟩, ⟨n, cw⟩, ⟨n, cv⟩, ⟨m, cu⟩]⟩, [tb, (spL n w), (spL n v), (huL m u), (ints m Q)]⟩ <|
(CA 27 (C27 o) ⟨⟨[(I o)], []⟩, []⟩ <|
(CA 27 (C27 left) ⟨⟨[(I left)], []⟩, []⟩ <|
((OT (decide ((↑(popN o) : Int) < (↑(popN left) : Int))) false) ∧
(CA 27 (C27 o) ⟨⟨[(I o)], []⟩, []⟩ <|
(CA 27 (C27 left) ⟨⟨[(I left)], []⟩, []⟩ <|
((((↑(popN o) : Int) == (↑(popN left) : Int)) = true → ((OT (decide ((o : Int) < left)) false) ∧
(LW p7c T7c ⟨⟨[(I left), (I o), (I m), (I 0)], [⟨m, m⟩, ⟨m, m⟩]⟩, [tb, (ints m L), (ints m Q)], []⟩ (.exit 2) T7c ⟨⟨[(I left), (I o), (I m), (I m)], [⟨m, m⟩, ⟨m, m⟩]⟩, [tb, (ints m L), (ints m Q)], []⟩ <|
(CA 11 (C11t tb) ⟨⟨[], []⟩, [tb]⟩ <|
R (.ret (.bool true)))))) ∧
(((↑(popN o) : Int) == (↑(popN left) : Int)) = false → (LW p7c T7c ⟨⟨[(I left), (I o), (I m), (I 0)], [⟨m, m⟩, ⟨m, m⟩]⟩, [tb, (ints m L), (ints m Q)], []⟩ (.exit 2) T7c ⟨⟨[(I left), (I o), (I m), (I m)], [⟨m, m⟩, ⟨m, m⟩]⟩, [tb, (ints m L), (ints m Q)], []⟩ <|
(CA 11 (C11t tb) ⟨⟨[], []⟩, [tb]⟩ <|
R (.ret (.bool true))))))))))))))))))))) := by kernel_rfl
theorem f7rp (rw : Nat) (st nb : Int) (n cw cv m cu k d left o : Nat) (w v : Nat → Sp) (u : Nat → Hut) (L Q bs : Nat → Int) (tb : List Value) (R : ARes → Prop) : (vx.call 7 [suV rw st n cw cv m cu, .int .u8 nb, slV 5 k d] (retK R) (m7 tb (spL n w) (spL n v) (huL m u) (u8L k bs)) ([(21, .split ((7, .con (C11t tb)) :: []) ((4, .con (C20 rw st n cw n cv m cu (spL n w) (spL n v) (huL m u) true)) :: (11, .conN (C21s rw st n cw cv m cu ((IntKind.i64.wrap nb).tmod 6) tb (spL n w) (spL n v) (huL m u) (ints m L) m left)) :: (15, .val (.bool false)) :: (6, .con (C26 rw st n cw cv m cu tb (spL n w) (spL n v) (huL m u) (ints m L) ((IntKind.i64.wrap nb).tmod 6) m m left true)) :: (10, .val (.bool false)) :: (7, .loopW T7a (.exit 0) T7b fun _ => h7b (rw : Int) st ((IntKind.i64.wrap nb).tmod 6) n cw cv m cu k d tb (spL n w) (spL n v) (huL m u) (u8L k bs) (ints m L) (ints m Q) (left : Int) m) :: (2, .con (C26 rw st n cw cv m cu tb (spL n w) (spL n v) (huL m u) (ints m Q) ((IntKind.i64.wrap nb).tmod 6) m m o true)) :: (11, .con (C27 o)) :: (2, .con (C27 left)) :: (0, .val (.bool false)) :: (3, .con (C27 o)) :: (2, .con (C27 left)) :: [(0, .split ((3, .val (.bool false)) :: (6, .loopW T7c AExit.ret R7 fun _ => r7 true) :: []) ((7, .loopW T7c AExit.ret R7 fun _ => r7 true) :: []))]))])) =
((((farB m n n) = true → (CA 11 (C11t tb) ⟨⟨[], []⟩, [tb]⟩ <|
R (.ret (.bool true)))) ∧
((farB m n n) = false → (CA 20 (C20 rw st n cw n cv m cu (spL n w) (spL n v) (huL m u) true) ⟨⟨[(I rw), (I st)], [⟨n, cw⟩, ⟨n, cv⟩, ⟨m, cu⟩]⟩, [(spL n w), (spL n v), (huL m u)]⟩ <|
(CN 21 (C21s rw st n cw cv m cu ((IntKind.i64.wrap nb).tmod 6) tb (spL n w) (spL n v) (huL m u) (ints m L) m left) ⟨⟨[(I rw), (I st), (I ((IntKind.i64.wrap nb).tmod 6))], [⟨n, cw⟩, ⟨n, cv⟩, ⟨m, cu⟩]⟩, [tb, (spL n w), (spL n v), (huL m u)]⟩ <|
((OT ((m : Int) != m) false) ∧
(CA 26 (C26 rw st n cw cv m cu tb (spL n w) (spL n v) (huL m u) (ints m L) ((IntKind.i64.wrap nb).tmod 6) m m left true) ⟨⟨[(I rw), (I st), (I ((IntKind.i64.wrap nb).tmod 6))], [⟨m, m⟩, ⟨n, cw⟩, ⟨n, cv⟩, ⟨m, cu⟩]⟩, [tb, (spL n w), (spL n v), (huL m u), (ints m L)]⟩ <|
((OT ((left : Int) != left) false) ∧
(LW p7b T7a ⟨⟨[(I left), (I m), (I 0), (I rw), (I st), (I ((IntKind.i64.wrap nb).tmod 6))], [⟨k, d⟩, ⟨m, m⟩, ⟨n, cw⟩, ⟨n, cv⟩, ⟨m, cu⟩]⟩, [tb, (spL n w), (spL n v), (huL m u), (u8L k bs), (ints m L)], []⟩ (.exit 0) T7b ⟨⟨[(I left), (I m), (I m), (I rw), (I st), (I ((IntKind.i64.wrap nb).tmod 6))], [⟨k, d⟩, ⟨m, m⟩, ⟨m, m⟩, ⟨n, cw⟩, ⟨n, cv⟩, ⟨m, cu⟩]⟩, [tb, (spL n w), (spL n v), (huL m u), (u8L k bs), (ints m L), (ints m Q)], []⟩ <|
(CA 26 (C26 rw st n cw cv m cu tb (spL n w) (spL n v) (huL m u) (ints m Q) ((IntKind.i64.wrap nb).tmod 6) m m o true) ⟨⟨[(I rw), (I st), (I ((IntKind.i64.wrap nb).tmod 6))], [⟨m, m⟩, ⟨n, cw⟩, ⟨n, cv⟩, ⟨m, cu⟩]⟩, [tb, (spL n w), (spL n v), (huL m u), (ints m Q)]⟩ <|
(CA 27 (C27 o) ⟨⟨[(I o)], []⟩, []⟩ <|
(CA 27 (C27 left) ⟨⟨[(I left)], []⟩, []⟩ <|
((OT (decide ((↑(popN o) : Int) < (↑(popN left) : Int))) false) ∧
(CA 27 (C27 o) ⟨⟨[(I o)], []⟩, []⟩ <|
(CA 27 (C27 left) ⟨⟨[(I left)], []⟩, []⟩ <|
((((↑(popN o) : Int) == (↑(popN left) : Int)) = true → ((OT (decide ((o : Int) < left)) false) ∧
(LW p7c T7c ⟨⟨[(I left), (I o), (I m), (I 0)], [⟨m, m⟩, ⟨m, m⟩]⟩, [tb, (ints m L), (ints m Q)], []⟩ .ret R7 ⟨⟨[(.bool true)], []⟩, [], []⟩ <|
R (.ret (.bool true))))) ∧
(((↑(popN o) : Int) == (↑(popN left) : Int)) = false → (LW p7c T7c ⟨⟨[(I left), (I o), (I m), (I 0)], [⟨m, m⟩, ⟨m, m⟩]⟩, [tb, (ints m L), (ints m Q)], []⟩ .ret R7 ⟨⟨[(.bool true)], []⟩, [], []⟩ <|
R (.ret (.bool true)))))))))))))))))))) := by kernel_rfl
theorem f70n (rw : Nat) (st nb : Int) (n cw cv m cu _ _ left _ : Nat) (w v : Nat → Sp) (u : Nat → Hut) (L Q _ : Nat → Int) (tb : List Value) (R : ARes → Prop) : (vx.call 7 [suV rw st n cw cv m cu, .int .u8 nb, nilS] (retK R) (m7n tb (spL n w) (spL n v) (huL m u)) ([(21, .split ((7, .con (C11t tb)) :: []) ((4, .con (C20 rw st n cw n cv m cu (spL n w) (spL n v) (huL m u) true)) :: (11, .conN (C21s rw st n cw cv m cu ((IntKind.i64.wrap nb).tmod 6) tb (spL n w) (spL n v) (huL m u) (ints m L) m left)) :: (15, .val (.bool false)) :: (6, .con (C26 rw st n cw cv m cu tb (spL n w) (spL n v) (huL m u) (ints m L) ((IntKind.i64.wrap nb).tmod 6) m m left true)) :: (10, .val (.bool false)) :: (7, .loopW T7an (.exit 0) T7bn fun _ => h7bn (rw : Int) st ((IntKind.i64.wrap nb).tmod 6) n cw cv m cu tb (spL n w) (spL n v) (huL m u) (ints m L) (ints m Q) (left : Int) m) :: (2, .con (C26 rw st n cw cv m cu tb (spL n w) (spL n v) (huL m u) (ints m Q) ((IntKind.i64.wrap nb).tmod 6) m m 0 false)) :: (8, .con (C11t tb)) :: []))])) =
((((farB m n n) = true → (CA 11 (C11t tb) ⟨⟨[], []⟩, [tb]⟩ <|
R (.ret (.bool true)))) ∧
((farB m n n) = false → (CA 20 (C20 rw st n cw n cv m cu (spL n w) (spL n v) (huL m u) true) ⟨⟨[(I rw), (I st)], [⟨n, cw⟩, ⟨n, cv⟩, ⟨m, cu⟩]⟩, [(spL n w), (spL n v), (huL m u)]⟩ <|
(CN 21 (C21s rw st n cw cv m cu ((IntKind.i64.wrap nb).tmod 6) tb (spL n w) (spL n v) (huL m u) (ints m L) m left) ⟨⟨[(I rw), (I st), (I ((IntKind.i64.wrap nb).tmod 6))], [⟨n, cw⟩, ⟨n, cv⟩, ⟨m, cu⟩]⟩, [tb, (spL n w), (spL n v), (huL m u)]⟩ <|
((OT ((m : Int) != m) false) ∧
(CA 26 (C26 rw st n cw cv m cu tb (spL n w) (spL n v) (huL m u) (ints m L) ((IntKind.i64.wrap nb).tmod 6) m m left true) ⟨⟨[(I rw), (I st), (I ((IntKind.i64.wrap nb).tmod 6))], [⟨m, m⟩, ⟨n, cw⟩, ⟨n, cv⟩, ⟨m, cu⟩]⟩, [tb, (spL n w), (spL n v), (huL m u), (ints m L)]⟩ <|
((OT ((left : Int) != left) false) ∧
(LW p7b T7an ⟨⟨[(I left), (I m), (I 0), (I rw), (I st), (I ((IntKind.i64.wrap nb).tmod 6))], [⟨m, m⟩, ⟨n, cw⟩, ⟨n, cv⟩, ⟨m, cu⟩]⟩, [tb, (spL n w), (spL n v), (huL m u), (ints m L)], []⟩ (.exit 0) T7bn ⟨⟨[(I left), (I m), (I m), (I rw), (I st), (I ((IntKind.i64.wrap nb).tmod 6))], [⟨m, m⟩, ⟨m, m⟩, ⟨n, cw⟩, ⟨n, cv⟩, ⟨m, cu⟩]⟩, [tb, (spL n w), (spL n v), (huL m u), (ints m L), (ints m Q)], []⟩ <|
(CA 26 (C26 rw st n cw cv m cu tb (spL n w) (spL n v) (huL m u) (ints m Q) ((IntKind.i64.wrap nb).tmod 6) m m 0 false) ⟨⟨[(I rw), (I st), (I ((IntKind.i64.wrap nb).tmod 6))], [⟨m, m⟩, ⟨n, cw⟩, ⟨n, cv⟩, ⟨m, cu⟩]⟩, [tb, (spL n w), (spL n v), (huL m u), (ints m Q)]⟩ <|
(CA 11 (C11t tb) ⟨⟨[], []⟩, [tb]⟩ <|
R (.ret (.bool true))))))))))))) := by kernel_rfl
theorem f7xn (rw : Nat) (st nb : Int) (n cw cv m cu _ _ left o : Nat) (w v : Nat → Sp) (u : Nat → Hut) (L Q _ : Nat → Int) (tb : List Value) (R : ARes → Prop) : (vx.call 7 [suV rw st n cw cv m cu, .int .u8 nb, nilS] (retK R) (m7n tb (spL n w) (spL n v) (huL m u)) ([(21, .split ((7, .con (C11t tb)) :: []) ((4, .con (C20 rw st n cw n cv m cu (spL n w) (spL n v) (huL m u) true)) :: (11, .conN (C21s rw st n cw cv m cu ((IntKind.i64.wrap nb).tmod 6) tb (spL n w) (spL n v) (huL m u) (ints m L) m left)) :: (15, .val (.bool false)) :: (6, .con (C26 rw st n cw cv m cu tb (spL n w) (spL n v) (huL m u) (ints m L) ((IntKind.i64.wrap nb).tmod 6) m m left true)) :: (10, .val (.bool false)) :: (7, .loopW T7an (.exit 0) T7bn fun _ => h7bn (rw : Int) st ((IntKind.i64.wrap nb).tmod 6) n cw cv m cu tb (spL n w) (spL n v) (huL m u) (ints m L) (ints m Q) (left : Int) m) :: (2, .con (C26 rw st n cw cv m cu tb (spL n w) (spL n v) (huL m u) (ints m Q) ((IntKind.i64.wrap nb).tmod 6) m m o true)) :: (11, .con (C27 o)) :: (2, .con (C27 left)) :: (0, .val (.bool false)) :: (3, .con (C27 o)) :: (2, .con (C27 left)) :: [(0, .split ((3, .val (.bool false)) :: (6, .loopW T7c (.exit 2) T7c fun _ => h7c m tb (ints m L) (ints m Q) (left : Int) (o : Int) m) :: (0, .con (C11t tb)) :: []) ((7, .loopW T7c (.exit 2) T7c fun _ => h7c m tb (ints m L) (ints m Q) (left : Int) (o : Int) m) :: (0, .con (C11t tb)) :: []))]))])) =
((((farB m n n) = true → (CA 11 (C11t tb) ⟨⟨[], []⟩, [tb]⟩ <|
R (.ret (.bool true)))) ∧
((farB m n n) = false → (CA 20 (C20 rw st n cw n cv m cu (spL n w) (spL n v) (huL m u) true) ⟨⟨[(I rw), (I st)], [⟨n, cw⟩, ⟨n, cv⟩, ⟨m, cu⟩]⟩, [(spL n w), (spL n v), (huL m u)]⟩ <|
(CN 21 (C21s rw st n cw cv m cu ((IntKind.i64.wrap nb).tmod 6) tb (spL n w) (spL n v) (huL m u) (ints m L) m left) ⟨⟨[(I rw), (I st), (I ((IntKind.i64.wrap nb).tmod 6))], [⟨n, cw⟩, ⟨n, cv⟩, ⟨m, cu⟩]⟩, [tb, (spL n w), (spL n v), (huL m u)]⟩ <|
((OT ((m : Int) != m) false) ∧
(CA 26 (C26 rw st n cw cv m cu tb (spL n w) (spL n v) (huL m u) (ints m L) ((IntKind.i64.wrap nb).tmod 6) m m left true) ⟨⟨[(I rw), (I st), (I ((IntKind.i64.wrap nb).tmod 6))], [⟨m, m⟩, ⟨n, cw⟩, ⟨n, cv⟩, ⟨m, cu⟩]⟩, [tb, (spL n w), (spL n v), (huL m u), (ints m L)]⟩ <|
((OT ((left : Int) != left) false) ∧
(LW p7b T7an ⟨⟨[(I left), (I m), (I 0), (I rw), (I st), (I ((IntKind.i64.wrap nb).tmod 6))], [⟨m, m⟩, ⟨n, cw⟩, ⟨n, cv⟩, ⟨m, cu⟩]⟩, [tb, (spL n w), (spL n v), (huL m u), (ints m L)], []⟩ (.exit 0) T7bn ⟨⟨[(I left), (I m), (I m), (I rw), (I st), (I ((IntKind.i64.wrap nb).tmod 6))], [⟨m, m⟩, ⟨m, m⟩, ⟨n, cw⟩, ⟨n, cv⟩, ⟨m, cu⟩]⟩, [tb, (spL n w), (spL n v), (huL m u), (ints m L), (ints m Q)], []⟩ <|
(CA 26 (C26 rw st n cw cv m cu tb (spL n w) (spL n v) (huL m u) (ints m Q) ((IntKind.i64.wrap nb).tmod 6) m m o true) ⟨⟨[(I rw), (I st), (I ((IntKind.i64.wrap nb).tmod 6))], [⟨m, m⟩, ⟨n, cw⟩, ⟨n, cv⟩, ⟨m, cu⟩]⟩, [tb, (spL n w), (spL n v), (huL m u), (ints m Q)]⟩ <|
(CA 27 (C27 o) ⟨⟨[(I o)], []⟩, []⟩ <|
(CA 27 (C27 left) ⟨⟨[(I left)], []⟩, []⟩ <|
((OT (decide ((↑(popN o) : Int) < (↑(popN left) : Int))) false) ∧
(CA 27 (C27 o) ⟨⟨[(I o)], []⟩, []⟩ <|
(CA 27 (C27 left) ⟨⟨[(I left)], []⟩, []⟩ <|
((((↑(popN o) : Int) == (↑(popN left) : Int)) = true → ((OT (decide ((o : Int) < left)) false) ∧
(LW p7c T7c ⟨⟨[(I left), (I o), (I m), (I 0)], [⟨m, m⟩, ⟨m, m⟩]⟩, [tb, (ints m L), (ints m Q)], []⟩ (.exit 2) T7c ⟨⟨[(I left), (I o), (I m), (I m)], [⟨m, m⟩, ⟨m, m⟩]⟩, [tb, (ints m L), (ints m Q)], []⟩ <|
(CA 11 (C11t tb) ⟨⟨[], []⟩, [tb]⟩ <|
R (.ret (.bool true)))))) ∧
(((↑(popN o) : Int) == (↑(popN left) : Int)) = false → (LW p7c T7c ⟨⟨[(I left), (I o), (I m), (I 0)], [⟨m, m⟩, ⟨m, m⟩]⟩, [tb, (ints m L), (ints m Q)], []⟩ (.exit 2) T7c ⟨⟨[(I left), (I o), (I m), (I m)], [⟨m, m⟩, ⟨m, m⟩]⟩, [tb, (ints m L), (ints m Q)], []⟩ <|
(CA 11 (C11t tb) ⟨⟨[], []⟩, [tb]⟩ <|
R (.ret (.bool true))))))))))))))))))))) := by kernel_rfl
theorem f7rn (rw : Nat) (st nb : Int) (n cw cv m cu _ _ left o : Nat) (w v : Nat → Sp) (u : Nat → Hut) (L Q _ : Nat → Int) (tb : List Value) (R : ARes → Prop) : (vx.call 7 [suV rw st n cw cv m cu, .int .u8 nb, nilS] (retK R) (m7n tb (spL n w) (spL n v) (huL m u)) ([(21, .split ((7, .con (C11t tb)) :: []) ((4, .con (C20 rw st n cw n cv m cu (spL n w) (spL n v) (huL m u) true)) :: (11, .conN (C21s rw st n cw cv m cu ((IntKind.i64.wrap nb).tmod 6) tb (spL n w) (spL n v) (huL m u) (ints m L) m left)) :: (15, .val (.bool false)) :: (6, .con (C26 rw st n cw cv m cu tb (spL n w) (spL n v) (huL m u) (ints m L) ((IntKind.i64.wrap nb).tmod 6) m m left true)) :: (10, .val (.bool false)) :: (7, .loopW T7an (.exit 0) T7bn fun _ => h7bn (rw : Int) st ((IntKind.i64.wrap nb).tmod 6) n cw cv m cu tb (spL n w) (spL n v) (huL m u) (ints m L) (ints m Q) (left : Int) m) :: (2, .con (C26 rw st n cw cv m cu tb (spL n w) (spL n v) (huL m u) (ints m Q) ((IntKind.i64.wrap nb).tmod 6) m m o true)) :: (11, .con (C27 o)) :: (2, .con (C27 left)) :: (0, .val (.bool false)) :: (3, .con (C27 o)) :: (2, .con (C27 left)) :: [(0, .split ((3, .val (.bool false)) :: (6, .loopW T7c AExit.ret R7 fun _ => r7 true) :: []) ((7, .loopW T7c AExit.ret R7 fun _ => r7 true) :: []))]))])) =
((((farB m n n) = true → (CA 11 (C11t tb) ⟨⟨[], []⟩, [tb]⟩ <|
R (.ret (.bool true)))) ∧
((farB m n n) = false → (CA 20 (C20 rw st n cw n cv m cu (spL n w) (spL n v) (huL m u) true) ⟨⟨[(I rw), (I st)], [⟨n, cw⟩, ⟨n, cv⟩, ⟨m, cu⟩]⟩, [(spL n w), (spL n v), (huL m u)]⟩ <|
(CN 21 (C21s rw st n cw cv m cu ((IntKind.i64.wrap nb).tmod 6) tb (spL n w) (spL n v) (huL m u) (ints m L) m left) ⟨⟨[(I rw), (I st), (I ((IntKind.i64.wrap nb).tmod 6))], [⟨n, cw⟩, ⟨n, cv⟩, ⟨m, cu⟩]⟩, [tb, (spL n w), (spL n v), (huL m u)]⟩ <|
((OT ((m : Int) != m) false) ∧
(CA 26 (C26 rw st n cw cv m cu tb (spL n w) (spL n v) (huL m u) (ints m L) ((IntKind.i64.wrap nb).tmod 6) m m left true) ⟨⟨[(I rw), (I st), (I ((IntKind.i64.wrap nb).tmod 6))], [⟨m, m⟩, ⟨n, cw⟩, ⟨n, cv⟩, ⟨m, cu⟩]⟩, [tb, (spL n w), (spL n v), (huL m u), (ints m L)]⟩ <|
((OT ((left : Int) != left) false) ∧
(LW p7b T7an ⟨⟨[(I left), (I m), (I 0), (I rw), (I st), (I ((IntKind.i64.wrap nb).tmod 6))], [⟨m, m⟩, ⟨n, cw⟩, ⟨n, cv⟩, ⟨m, cu⟩]⟩, [tb, (spL n w), (spL n v), (huL m u), (ints m L)], []⟩ (.exit 0) T7bn ⟨⟨[(I left), (I m), (I m), (I rw), (I st), (I ((IntKind.i64.wrap nb).tmod 6))], [⟨m, m⟩, ⟨m, m⟩, ⟨n, cw⟩, ⟨n, cv⟩, ⟨m, cu⟩]⟩, [tb, (spL n w), (spL n v), (huL m u), (ints m L), (ints m Q)], []⟩ <|
(CA 26 (C26 rw st n cw cv m cu tb (spL n w) (spL n v) (huL m u) (ints m Q) ((IntKind.i64.wrap nb).tmod 6) m m o true) ⟨⟨[(I rw), (I st), (I ((IntKind.i64.wrap nb).tmod 6))], [⟨m, m⟩, ⟨n, cw⟩, ⟨n, cv⟩, ⟨m, cu⟩]⟩, [tb, (spL n w), (spL n v), (huL m u), (ints m Q)]⟩ <|
(CA 27 (C27 o) ⟨⟨[(I o)], []⟩, []⟩ <|
(CA 27 (C27 left) ⟨⟨[(I left)], []⟩, []⟩ <|
((OT (decide ((↑(popN o) : Int) < (↑(popN left) : Int))) false) ∧
(CA 27 (C27 o) ⟨⟨[(I o)], []⟩, []⟩ <|
(CA 27 (C27 left) ⟨⟨[(I left)], []⟩, []⟩ <|
((((↑(popN o) : Int) == (↑(popN left) : Int)) = true → ((OT (decide ((o : Int) < left)) false) ∧
(LW p7c T7c ⟨⟨[(I left), (I o), (I m), (I 0)], [⟨m, m⟩, ⟨m, m⟩]⟩, [tb, (ints m L), (ints m Q)], []⟩ .ret R7 ⟨⟨[(.bool true)], []⟩, [], []⟩ <|
R (.ret (.bool true))))) ∧
(((↑(popN o) : Int) == (↑(popN left) : Int)) = false → (LW p7c T7c ⟨⟨[(I left), (I o), (I m), (I 0)], [⟨m, m⟩, ⟨m, m⟩]⟩, [tb, (ints m L), (ints m Q)], []⟩ .ret R7 ⟨⟨[(.bool true)], []⟩, [], []⟩ <|
R (.ret (.bool true)))))))))))))))))))) := by kernel_rfl
theorem mz_eq {j : Nat} (hj : j < 256) : (IntKind.i64.wrap ((j : Nat) : Int)).tmod 6 = ((j % 6 : Nat) : Int) := by
 rw [wrapI (by omega) (by omega)]; rfl
section
variable {rw : Nat} {st : Int} {n cw cv m cu k d j : Nat} {w v : Nat → Sp} {u : Nat → Hut} {bs : Nat → Int}
theorem law7_E (hS : SOK rw st n w v) (hU : HUK rw m u) (hm : 0 < m) (hj : j < 256) :
    ∃ hs, vx.call 7 [suV rw st n cw cv m cu, .int .u8 j, slV 5 k d] (retK fun r => r = .ret (.bool true)) (m7 tabC (spL n w) (spL n v) (huL m u) (u8L k bs)) hs := by
 have h8 := hS.n8
 have h5 := hU.m5
 have hmz := mz_eq hj
 have hmany : j % 6 ≤ 5 := by have := Nat.mod_lt j (show 0 < 6 by omega); omega
 generalize j % 6 = many at hmz hmany
 have c20 : ConOK Tryd.prog 20 (C20 rw st n cw n cv m cu (spL n w) (spL n v) (huL m u) true) := by
  have h := C20_ok (rw := rw) (st := st) (n := n) (cw := cw) (n2 := n) (cv := cv) (m := m) (cu := cu) (w := w) (v := v) (u := rwH u)
  rw [okSu_of hS hU] at h
  exact h
 obtain ⟨hokL, houtL⟩ := best_right (perY st w v n u) many m
 have hq32 : bestQ (perY st w v n u) many m < 32 := by rw [← houtL]; exact Nat.lt_of_lt_of_le (outR_lt _ _ m) (show 2 ^ m ≤ 2 ^ 5 from Nat.pow_le_pow_right (by omega) h5)
 have c21 : ConNOK Tryd.prog 21 (C21s rw st n cw cv m cu many tabC (spL n w) (spL n v) (huL m u) (ints m (bestL (perY st w v n u) many m)) m (bestQ (perY st w v n u) many m : Nat)) := C21d_ok hS hU hmany
 have c26 := C26_ok (cw := cw) (cv := cv) (cu := cu) (kc := m) (L := bestL (perY st w v n u) many m) hS hU hmany
 rw [hokL, if_pos rfl, houtL] at c26
 have c26q := C26_ok (cw := cw) (cv := cv) (cu := cu) (kc := m) (L := ow k bs) hS hU hmany
 have lb := loop7b (rw := (rw : Int)) (st := st) (mz := (many : Nat)) (n := n) (cw := cw) (cv := cv) (cu := cu) (k := k) (d := d) (w := w) (v := v) (u := u) (L := bestL (perY st w v n u) many m) (bs := bs) (a := (bestQ (perY st w v n u) many m : Nat)) hm h5
 have mm : ((m : Int) != (m : Int)) = false := by simp
 have ll : (((bestQ (perY st w v n u) many m : Nat) : Int) != ((bestQ (perY st w v n u) many m : Nat) : Int)) = false := by simp
 cases hok : okA (perY st w v n u) many (ow k bs) m with
 | false =>
  rw [hok, if_neg (by simp)] at c26q
  refine ⟨_, (f70p rw st j n cw cv m cu k d (bestQ (perY st w v n u) many m) 0 w v u (bestL (perY st w v n u) many m) (ow k bs) bs tabC _).mpr ?_⟩
  rw [hmz]
  exact ⟨fun _ => ⟨C11t_ok, rfl, rfl⟩, fun _ => ⟨c20, rfl, c21, rfl, tf mm, c26, rfl, tf ll, cl7a, lb, c26q, rfl, C11t_ok, rfl, rfl⟩⟩
 | true =>
  rw [hok, if_pos rfl] at c26q
  have ho32 : outR (perY st w v n u) (ow k bs) m < 32 := Nat.lt_of_lt_of_le (outR_lt _ _ m) (show 2 ^ m ≤ 2 ^ 5 from Nat.pow_le_pow_right (by omega) h5)
  have hle := best_least hok
  have hbe := best_first hok
  have c27o := C27_ok ho32
  have c27l := C27_ok hq32
  have t1 : decide (((popN (outR (perY st w v n u) (ow k bs) m) : Nat) : Int) < ((popN (bestQ (perY st w v n u) many m) : Nat) : Int)) = false := decide_eq_false (by omega)
  have t2 : (((popN (outR (perY st w v n u) (ow k bs) m) : Nat) : Int) == ((popN (bestQ (perY st w v n u) many m) : Nat) : Int)) = true → decide (((outR (perY st w v n u) (ow k bs) m : Nat) : Int) < ((bestQ (perY st w v n u) many m : Nat) : Int)) = false := fun h => by
   have h := beq_iff_eq.1 h
   exact decide_eq_false (by omega)
  by_cases hc : bestQ (perY st w v n u) many m = outR (perY st w v n u) (ow k bs) m → ∀ i, i < m → bestL (perY st w v n u) many m i = ow k bs i
  · have lc := loop7cx h5 hc
    refine ⟨_, (f7xp rw st j n cw cv m cu k d (bestQ (perY st w v n u) many m) (outR (perY st w v n u) (ow k bs) m) w v u (bestL (perY st w v n u) many m) (ow k bs) bs tabC _).mpr ?_⟩
    rw [hmz]
    exact ⟨fun _ => ⟨C11t_ok, rfl, rfl⟩, fun _ => ⟨c20, rfl, c21, rfl, tf mm, c26, rfl, tf ll, cl7a, lb, c26q, rfl, c27o, rfl, c27l, rfl, tf t1, c27o, rfl, c27l, rfl, fun h => ⟨tf (t2 h), cl7c, lc, C11t_ok, rfl, rfl⟩, fun _ => ⟨cl7c, lc, C11t_ok, rfl, rfl⟩⟩⟩
  · obtain ⟨he, hd⟩ : bestQ (perY st w v n u) many m = outR (perY st w v n u) (ow k bs) m ∧ ∃ i, i < m ∧ bestL (perY st w v n u) many m i ≠ ow k bs i := by
     apply Classical.byContradiction
     intro hno
     refine hc fun he i hi => Classical.byContradiction fun hne => hno ⟨he, i, hi, hne⟩
    have lc := loop7cr (p := bestQ (perY st w v n u) many m) h5 (hbe he) hd
    rw [← he] at c26q c27o t1 t2
    refine ⟨_, (f7rp rw st j n cw cv m cu k d (bestQ (perY st w v n u) many m) (bestQ (perY st w v n u) many m) w v u (bestL (perY st w v n u) many m) (ow k bs) bs tabC _).mpr ?_⟩
    rw [hmz]
    exact ⟨fun _ => ⟨C11t_ok, rfl, rfl⟩, fun _ => ⟨c20, rfl, c21, rfl, tf mm, c26, rfl, tf ll, cl7a, lb, c26q, rfl, c27o, rfl, c27l, rfl, tf t1, c27o, rfl, c27l, rfl, fun h => ⟨tf (t2 h), cl7c, lc, rfl⟩, fun _ => ⟨cl7c, lc, rfl⟩⟩⟩
theorem law7_En (hS : SOK rw st n w v) (hU : HUK rw m u) (hm : 0 < m) (hj : j < 256) :
    ∃ hs, vx.call 7 [suV rw st n cw cv m cu, .int .u8 j, nilS] (retK fun r => r = .ret (.bool true)) (m7n tabC (spL n w) (spL n v) (huL m u)) hs := by
 have h8 := hS.n8
 have h5 := hU.m5
 have hmz := mz_eq hj
 have hmany : j % 6 ≤ 5 := by have := Nat.mod_lt j (show 0 < 6 by omega); omega
 generalize j % 6 = many at hmz hmany
 have c20 : ConOK Tryd.prog 20 (C20 rw st n cw n cv m cu (spL n w) (spL n v) (huL m u) true) := by
  have h := C20_ok (rw := rw) (st := st) (n := n) (cw := cw) (n2 := n) (cv := cv) (m := m) (cu := cu) (w := w) (v := v) (u := rwH u)
  rw [okSu_of hS hU] at h
  exact h
 obtain ⟨hokL, houtL⟩ := best_right (perY st w v n u) many m
 have hq32 : bestQ (perY st w v n u) many m < 32 := by rw [← houtL]; exact Nat.lt_of_lt_of_le (outR_lt _ _ m) (show 2 ^ m ≤ 2 ^ 5 from Nat.pow_le_pow_right (by omega) h5)
 have c21 : ConNOK Tryd.prog 21 (C21s rw st n cw cv m cu many tabC (spL n w) (spL n v) (huL m u) (ints m (bestL (perY st w v n u) many m)) m (bestQ (perY st w v n u) many m : Nat)) := C21d_ok hS hU hmany
 have c26 := C26_ok (cw := cw) (cv := cv) (cu := cu) (kc := m) (L := bestL (perY st w v n u) many m) hS hU hmany
 rw [hokL, if_pos rfl, houtL] at c26
 have c26q := C26_ok (cw := cw) (cv := cv) (cu := cu) (kc := m) (L := ow 0 fun _ => 0) hS hU hmany
 have lb := loop7bn (rw := (rw : Int)) (st := st) (mz := (many : Nat)) (n := n) (cw := cw) (cv := cv) (cu := cu) (w := w) (v := v) (u := u) (L := bestL (perY st w v n u) many m) (a := (bestQ (perY st w v n u) many m : Nat)) hm h5
 have mm : ((m : Int) != (m : Int)) = false := by simp
 have ll : (((bestQ (perY st w v n u) many m : Nat) : Int) != ((bestQ (perY st w v n u) many m : Nat) : Int)) = false := by simp
 cases hok : okA (perY st w v n u) many (ow 0 fun _ => 0) m with
 | false =>
  rw [hok, if_neg (by simp)] at c26q
  refine ⟨_, (f70n rw st j n cw cv m cu 0 0 (bestQ (perY st w v n u) many m) 0 w v u (bestL (perY st w v n u) many m) (ow 0 fun _ => 0) (fun _ => 0) tabC _).mpr ?_⟩
  rw [hmz]
  exact ⟨fun _ => ⟨C11t_ok, rfl, rfl⟩, fun _ => ⟨c20, rfl, c21, rfl, tf mm, c26, rfl, tf ll, cl7an, lb, c26q, rfl, C11t_ok, rfl, rfl⟩⟩
 | true =>
  rw [hok, if_pos rfl] at c26q
  have ho32 : outR (perY st w v n u) (ow 0 fun _ => 0) m < 32 := Nat.lt_of_lt_of_le (outR_lt _ _ m) (show 2 ^ m ≤ 2 ^ 5 from Nat.pow_le_pow_right (by omega) h5)
  have hle := best_least hok
  have hbe := best_first hok
  have c27o := C27_ok ho32
  have c27l := C27_ok hq32
  have t1 : decide (((popN (outR (perY st w v n u) (ow 0 fun _ => 0) m) : Nat) : Int) < ((popN (bestQ (perY st w v n u) many m) : Nat) : Int)) = false := decide_eq_false (by omega)
  have t2 : (((popN (outR (perY st w v n u) (ow 0 fun _ => 0) m) : Nat) : Int) == ((popN (bestQ (perY st w v n u) many m) : Nat) : Int)) = true → decide (((outR (perY st w v n u) (ow 0 fun _ => 0) m : Nat) : Int) < ((bestQ (perY st w v n u) many m : Nat) : Int)) = false := fun h => by
   have h := beq_iff_eq.1 h
   exact decide_eq_false (by omega)
  by_cases hc : bestQ (perY st w v n u) many m = outR (perY st w v n u) (ow 0 fun _ => 0) m → ∀ i, i < m → bestL (perY st w v n u) many m i = (ow 0 fun _ => 0) i
  · have lc := loop7cx h5 hc
    refine ⟨_, (f7xn rw st j n cw cv m cu 0 0 (bestQ (perY st w v n u) many m) (outR (perY st w v n u) (ow 0 fun _ => 0) m) w v u (bestL (perY st w v n u) many m) (ow 0 fun _ => 0) (fun _ => 0) tabC _).mpr ?_⟩
    rw [hmz]
    exact ⟨fun _ => ⟨C11t_ok, rfl, rfl⟩, fun _ => ⟨c20, rfl, c21, rfl, tf mm, c26, rfl, tf ll, cl7an, lb, c26q, rfl, c27o, rfl, c27l, rfl, tf t1, c27o, rfl, c27l, rfl, fun h => ⟨tf (t2 h), cl7c, lc, C11t_ok, rfl, rfl⟩, fun _ => ⟨cl7c, lc, C11t_ok, rfl, rfl⟩⟩⟩
  · obtain ⟨he, hd⟩ : bestQ (perY st w v n u) many m = outR (perY st w v n u) (ow 0 fun _ => 0) m ∧ ∃ i, i < m ∧ bestL (perY st w v n u) many m i ≠ (ow 0 fun _ => 0) i := by
     apply Classical.byContradiction
     intro hno
     refine hc fun he i hi => Classical.byContradiction fun hne => hno ⟨he, i, hi, hne⟩
    have lc := loop7cr (p := bestQ (perY st w v n u) many m) h5 (hbe he) hd
    rw [← he] at c26q c27o t1 t2
    refine ⟨_, (f7rn rw st j n cw cv m cu 0 0 (bestQ (perY st w v n u) many m) (bestQ (perY st w v n u) many m) w v u (bestL (perY st w v n u) many m) (ow 0 fun _ => 0) (fun _ => 0) tabC _).mpr ?_⟩
    rw [hmz]
    exact ⟨fun _ => ⟨C11t_ok, rfl, rfl⟩, fun _ => ⟨c20, rfl, c21, rfl, tf mm, c26, rfl, tf ll, cl7an, lb, c26q, rfl, c27o, rfl, c27l, rfl, tf t1, c27o, rfl, c27l, rfl, fun h => ⟨tf (t2 h), cl7c, lc, rfl⟩, fun _ => ⟨cl7c, lc, rfl⟩⟩⟩
end
end Go.Ab
set_option maxRecDepth 100000
namespace Go.Ab
open Go Go.RowKit Go.Proofs
noncomputable def m26n (rw st : Int) (c1 m cu : Nat) (us ls : List Value) (mz : Int) : Mem := ⟨fillX [.dead, .dead, .dead, .dead, .cells us 1 .ro, .cells [I rw, I st, nilS, nilS, slV 4 m cu] 25 .ro, .cells [I mz] 3 .ro, .cells ls 3 .ro] 0 .nil, 8⟩
noncomputable def C26n (rw st : Int) (c1 m cu : Nat) (us ls : List Value) (mz : Int) (k kc : Nat) (out : Int) (ok : Bool) : Con where
 A := .slice 7 0 (.ptr 5 0 (.ptr 6 0 .nil))
 bs := [.dead, .dead, .dead, .dead, .list 1 .ro, .cells SuTn 25 .ro, .cells (.hole .nil) 3 .ro, .list 3 .ro]
 pre x := x = ⟨⟨[I rw, I st, I mz], [(k, kc), (m, cu)]⟩, [us, ls]⟩
 res _ := .ret (.tuple ⟨[I out, .bool ok]⟩)
noncomputable def T26n : Tw := ⟨56, mkS 56 [(1, .ptr 5 0 .nil), (2, .ptr 6 0 .nil), (6, .map 8 .nil), (7, .hole .nil), (13, .slice 7 0 .nil), (14, .hole .nil), (15, .hole .nil)], 9, [.dead, .dead, .dead, .dead, .list 1 .ro, .cells SuTn 25 .ro, .cells (.hole .nil) 3 .ro, .list 3 .ro, .map]⟩
noncomputable def h26n (rw st : Int) (c1 m cu : Nat) (us ls : List Value) (mz : Int) (k kc : Nat) (out : Int) (es : List (Value × Value)) (i : Nat) : Hw := ⟨⟨[I out, I k, I i, I rw, I st, I mz], [(k, kc), (m, cu)]⟩, [us, ls], [es]⟩
noncomputable def m7_n (tb us bs : List Value) : Mem := ⟨fillX [.dead, .cells tb 1 .ro, .dead, .dead, .cells us 1 .ro, .cells bs 2 .ro] 0 .nil, 6⟩
noncomputable def B7_n (b5 : TBw) : List TBw := [.dead, .list 1 .ro, .dead, .dead, .list 1 .ro, b5, .cells SuTn 25 .var, .dead, .dead, .cells (.hole .nil) 3 .var, .list 3 .row]
noncomputable def T7a_n : Tw := ⟨146, S7 (.slice 5 0 .nil) (.val nilS .nil), 11, B7_n (.list 2 .ro)⟩
noncomputable def T7b_n : Tw := ⟨146, S7 (.slice 5 0 .nil) (.slice 11 0 .nil), 11, B7_n (.list 2 .ro) ++ [.list 3 .row]⟩
noncomputable def T7a_nn : Tw := ⟨146, S7 (.val nilS .nil) (.val nilS .nil), 11, B7_n .dead⟩
noncomputable def T7b_nn : Tw := ⟨146, S7 (.val nilS .nil) (.slice 11 0 .nil), 11, B7_n .dead ++ [.list 3 .row]⟩
noncomputable def h7a_n (rw st mz : Int) (c1 m cu k d : Nat) (tb us bs ls : List Value) (a : Int) (i : Nat) : Hw := ⟨⟨[I a, I m, I i, I rw, I st, I mz], [(k, d), (m, m), (m, cu)]⟩, [tb, us, bs, ls], []⟩
noncomputable def h7b_n (rw st mz : Int) (c1 m cu k d : Nat) (tb us bs ls os : List Value) (a : Int) (i : Nat) : Hw := ⟨⟨[I a, I m, I i, I rw, I st, I mz], [(k, d), (m, m), (i, i), (m, cu)]⟩, [tb, us, bs, ls, os], []⟩
noncomputable def h7a_nn (rw st mz : Int) (c1 m cu : Nat) (tb us ls : List Value) (a : Int) (i : Nat) : Hw := ⟨⟨[I a, I m, I i, I rw, I st, I mz], [(m, m), (m, cu)]⟩, [tb, us, ls], []⟩
noncomputable def h7b_nn (rw st mz : Int) (c1 m cu : Nat) (tb us ls os : List Value) (a : Int) (i : Nat) : Hw := ⟨⟨[I a, I m, I i, I rw, I st, I mz], [(m, m), (i, i), (m, cu)]⟩, [tb, us, ls, os], []⟩
noncomputable def m26v (rw st : Int) (c1 m cu : Nat) (us ls : List Value) (mz : Int) : Mem := ⟨fillX [.dead, .dead, .dead, .dead, .cells us 1 .ro, .cells [I rw, I st, nilS, slV 3 0 c1, slV 4 m cu] 25 .ro, .cells [I mz] 3 .ro, .cells ls 3 .ro] 0 .nil, 8⟩
noncomputable def C26v (rw st : Int) (c1 m cu : Nat) (us ls : List Value) (mz : Int) (k kc : Nat) (out : Int) (ok : Bool) : Con where
 A := .slice 7 0 (.ptr 5 0 (.ptr 6 0 .nil))
 bs := [.dead, .dead, .dead, .dead, .list 1 .ro, .cells SuTv 25 .ro, .cells (.hole .nil) 3 .ro, .list 3 .ro]
 pre x := x = ⟨⟨[I rw, I st, I mz], [(k, kc), (0, c1), (m, cu)]⟩, [us, ls]⟩
 res _ := .ret (.tuple ⟨[I out, .bool ok]⟩)
noncomputable def T26v : Tw := ⟨56, mkS 56 [(1, .ptr 5 0 .nil), (2, .ptr 6 0 .nil), (6, .map 8 .nil), (7, .hole .nil), (13, .slice 7 0 .nil), (14, .hole .nil), (15, .hole .nil)], 9, [.dead, .dead, .dead, .dead, .list 1 .ro, .cells SuTv 25 .ro, .cells (.hole .nil) 3 .ro, .list 3 .ro, .map]⟩
noncomputable def h26v (rw st : Int) (c1 m cu : Nat) (us ls : List Value) (mz : Int) (k kc : Nat) (out : Int) (es : List (Value × Value)) (i : Nat) : Hw := ⟨⟨[I out, I k, I i, I rw, I st, I mz], [(k, kc), (0, c1), (m, cu)]⟩, [us, ls], [es]⟩
noncomputable def m7_v (tb us bs : List Value) : Mem := ⟨fillX [.dead, .cells tb 1 .ro, .dead, .dead, .cells us 1 .ro, .cells bs 2 .ro] 0 .nil, 6⟩
noncomputable def B7_v (b5 : TBw) : List TBw := [.dead, .list 1 .ro, .dead, .dead, .list 1 .ro, b5, .cells SuTv 25 .var, .dead, .dead, .cells (.hole .nil) 3 .var, .list 3 .row]
noncomputable def T7a_v : Tw := ⟨146, S7 (.slice 5 0 .nil) (.val nilS .nil), 11, B7_v (.list 2 .ro)⟩
noncomputable def T7b_v : Tw := ⟨146, S7 (.slice 5 0 .nil) (.slice 11 0 .nil), 11, B7_v (.list 2 .ro) ++ [.list 3 .row]⟩
noncomputable def T7a_vn : Tw := ⟨146, S7 (.val nilS .nil) (.val nilS .nil), 11, B7_v .dead⟩
noncomputable def T7b_vn : Tw := ⟨146, S7 (.val nilS .nil) (.slice 11 0 .nil), 11, B7_v .dead ++ [.list 3 .row]⟩
noncomputable def h7a_v (rw st mz : Int) (c1 m cu k d : Nat) (tb us bs ls : List Value) (a : Int) (i : Nat) : Hw := ⟨⟨[I a, I m, I i, I rw, I st, I mz], [(k, d), (m, m), (0, c1), (m, cu)]⟩, [tb, us, bs, ls], []⟩
noncomputable def h7b_v (rw st mz : Int) (c1 m cu k d : Nat) (tb us bs ls os : List Value) (a : Int) (i : Nat) : Hw := ⟨⟨[I a, I m, I i, I rw, I st, I mz], [(k, d), (m, m), (i, i), (0, c1), (m, cu)]⟩, [tb, us, bs, ls, os], []⟩
noncomputable def h7a_vn (rw st mz : Int) (c1 m cu : Nat) (tb us ls : List Value) (a : Int) (i : Nat) : Hw := ⟨⟨[I a, I m, I i, I rw, I st, I mz], [(m, m), (0, c1), (m, cu)]⟩, [tb, us, ls], []⟩
noncomputable def h7b_vn (rw st mz : Int) (c1 m cu : Nat) (tb us ls os : List Value) (a : Int) (i : Nat) : Hw := ⟨⟨[I a, I m, I i, I rw, I st, I mz], [(m, m), (i, i), (0, c1), (m, cu)]⟩, [tb, us, ls, os], []⟩
noncomputable def m26w (rw st : Int) (c1 m cu : Nat) (us ls : List Value) (mz : Int) : Mem := ⟨fillX [.dead, .dead, .dead, .dead, .cells us 1 .ro, .cells [I rw, I st, slV 2 0 c1, nilS, slV 4 m cu] 25 .ro, .cells [I mz] 3 .ro, .cells ls 3 .ro] 0 .nil, 8⟩
noncomputable def C26w (rw st : Int) (c1 m cu : Nat) (us ls : List Value) (mz : Int) (k kc : Nat) (out : Int) (ok : Bool) : Con where
 A := .slice 7 0 (.ptr 5 0 (.ptr 6 0 .nil))
 bs := [.dead, .dead, .dead, .dead, .list 1 .ro, .cells SuTw 25 .ro, .cells (.hole .nil) 3 .ro, .list 3 .ro]
 pre x := x = ⟨⟨[I rw, I st, I mz], [(k, kc), (0, c1), (m, cu)]⟩, [us, ls]⟩
 res _ := .ret (.tuple ⟨[I out, .bool ok]⟩)
noncomputable def T26w : Tw := ⟨56, mkS 56 [(1, .ptr 5 0 .nil), (2, .ptr 6 0 .nil), (6, .map 8 .nil), (7, .hole .nil), (13, .slice 7 0 .nil), (14, .hole .nil), (15, .hole .nil)], 9, [.dead, .dead, .dead, .dead, .list 1 .ro, .cells SuTw 25 .ro, .cells (.hole .nil) 3 .ro, .list 3 .ro, .map]⟩
noncomputable def h26w (rw st : Int) (c1 m cu : Nat) (us ls : List Value) (mz : Int) (k kc : Nat) (out : Int) (es : List (Value × Value)) (i : Nat) : Hw := ⟨⟨[I out, I k, I i, I rw, I st, I mz], [(k, kc), (0, c1), (m, cu)]⟩, [us, ls], [es]⟩
noncomputable def m7_w (tb us bs : List Value) : Mem := ⟨fillX [.dead, .cells tb 1 .ro, .dead, .dead, .cells us 1 .ro, .cells bs 2 .ro] 0 .nil, 6⟩
noncomputable def B7_w (b5 : TBw) : List TBw := [.dead, .list 1 .ro, .dead, .dead, .list 1 .ro, b5, .cells SuTw 25 .var, .dead, .dead, .cells (.hole .nil) 3 .var, .list 3 .row]
noncomputable def T7a_w : Tw := ⟨146, S7 (.slice 5 0 .nil) (.val nilS .nil), 11, B7_w (.list 2 .ro)⟩
noncomputable def T7b_w : Tw := ⟨146, S7 (.slice 5 0 .nil) (.slice 11 0 .nil), 11, B7_w (.list 2 .ro) ++ [.list 3 .row]⟩
noncomputable def T7a_wn : Tw := ⟨146, S7 (.val nilS .nil) (.val nilS .nil), 11, B7_w .dead⟩
noncomputable def T7b_wn : Tw := ⟨146, S7 (.val nilS .nil) (.slice 11 0 .nil), 11, B7_w .dead ++ [.list 3 .row]⟩
noncomputable def h7a_w (rw st mz : Int) (c1 m cu k d : Nat) (tb us bs ls : List Value) (a : Int) (i : Nat) : Hw := ⟨⟨[I a, I m, I i, I rw, I st, I mz], [(k, d), (m, m), (0, c1), (m, cu)]⟩, [tb, us, bs, ls], []⟩
noncomputable def h7b_w (rw st mz : Int) (c1 m cu k d : Nat) (tb us bs ls os : List Value) (a : Int) (i : Nat) : Hw := ⟨⟨[I a, I m, I i, I rw, I st, I mz], [(k, d), (m, m), (i, i), (0, c1), (m, cu)]⟩, [tb, us, bs, ls, os], []⟩
noncomputable def h7a_wn (rw st mz : Int) (c1 m cu : Nat) (tb us ls : List Value) (a : Int) (i : Nat) : Hw := ⟨⟨[I a, I m, I i, I rw, I st, I mz], [(m, m), (0, c1), (m, cu)]⟩, [tb, us, ls], []⟩
noncomputable def h7b_wn (rw st mz : Int) (c1 m cu : Nat) (tb us ls os : List Value) (a : Int) (i : Nat) : Hw := ⟨⟨[I a, I m, I i, I rw, I st, I mz], [(m, m), (i, i), (0, c1), (m, cu)]⟩, [tb, us, ls, os], []⟩
end Go.Ab
