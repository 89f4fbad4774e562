/- package surf: SurfSave, of surfs that are not valid, or without huts. -/
import Derived.Test.YtoelpblmhmhglaaDoorFV
import Derived.Test.YtoelpblmhmhglaaDoorFI
import Derived.Test.YtoelpblmhmhglaaDoorSO
import Derived.Lib.LaidTab
set_option maxRecDepth 100000
namespace Go.Ab
open Go Go.RowKit Go.Proofs
theorem f7Ip (rw st : Int) (n cw n2 cv m cu : Nat) (nb : Int) (t : Value) (tb ws vs us : List Value) (R : ARes → Prop) : (vx.call 7 [suR rw st n cw n2 cv m cu, .int .u8 nb, t] (retK R) (mLR tb ws vs us) ([(21, .split ((7, .con (C11t tb)) :: []) ((4, .con (C20 rw st n cw n2 cv m cu ws vs us false)) :: (4, .con (C11t tb)) :: []))])) =
((((farB m n2 n) = true → (CA 11 (C11t tb) ⟨⟨[], []⟩, [tb]⟩ <|
R (.ret (.bool true)))) ∧
((farB m n2 n) = false → (CA 20 (C20 rw st n cw n2 cv m cu ws vs us false) ⟨⟨[(I rw), (I st)], [⟨n, cw⟩, ⟨n2, cv⟩, ⟨m, cu⟩]⟩, [ws, vs, us]⟩ <|
(CA 11 (C11t tb) ⟨⟨[], []⟩, [tb]⟩ <|
R (.ret (.bool true))))))) := by kernel_rfl
theorem f7Mp (rw st : Int) (n cw cv cu : Nat) (nb : Int) (t : Value) (tb ws vs us : List Value) (R : ARes → Prop) : (vx.call 7 [suV rw st n cw cv 0 cu, .int .u8 nb, t] (retK R) (mLR tb ws vs us) ([(21, .split ((7, .con (C11t tb)) :: []) ((4, .con (C20 rw st n cw n cv 0 cu ws vs us true)) :: (11, .conN (C21s rw st n cw cv 0 cu ((IntKind.i64.wrap nb).tmod 6) tb ws vs us [] 0 0)) :: (144, .con (C11t tb)) :: []))])) =
((((farB 0 n n) = true → (CA 11 (C11t tb) ⟨⟨[], []⟩, [tb]⟩ <|
R (.ret (.bool true)))) ∧
((farB 0 n n) = false → (CA 20 (C20 rw st n cw n cv 0 cu ws vs us true) ⟨⟨[(I rw), (I st)], [⟨n, cw⟩, ⟨n, cv⟩, ⟨0, cu⟩]⟩, [ws, vs, us]⟩ <|
(CN 21 (C21s rw st n cw cv 0 cu ((IntKind.i64.wrap nb).tmod 6) tb ws vs us [] 0 0) ⟨⟨[(I rw), (I st), (I ((IntKind.i64.wrap nb).tmod 6))], [⟨n, cw⟩, ⟨n, cv⟩, ⟨0, cu⟩]⟩, [tb, ws, vs, us]⟩ <|
(CA 11 (C11t tb) ⟨⟨[], []⟩, [tb]⟩ <|
R (.ret (.bool true)))))))) := by kernel_rfl
theorem f7IN (rw st : Int) (n cw n2 cv : Nat) (nb : Int) (t : Value) (tb ws vs : List Value) (R : ARes → Prop) : (vx.call 7 [suN rw st n cw n2 cv, .int .u8 nb, t] (retK R) (mLN tb ws vs) ([(21, .split ((7, .con (C11t tb)) :: []) ((4, .con (C20N rw st n cw n2 cv ws vs false)) :: (4, .con (C11t tb)) :: []))])) =
((((farB 0 n2 n) = true → (CA 11 (C11t tb) ⟨⟨[], []⟩, [tb]⟩ <|
R (.ret (.bool true)))) ∧
((farB 0 n2 n) = false → (CA 20 (C20N rw st n cw n2 cv ws vs false) ⟨⟨[(I rw), (I st)], [⟨n, cw⟩, ⟨n2, cv⟩]⟩, [ws, vs]⟩ <|
(CA 11 (C11t tb) ⟨⟨[], []⟩, [tb]⟩ <|
R (.ret (.bool true))))))) := by kernel_rfl
theorem f7MN (rw st : Int) (n cw n2 cv : Nat) (nb : Int) (t : Value) (tb ws vs : List Value) (R : ARes → Prop) : (vx.call 7 [suN rw st n cw n2 cv, .int .u8 nb, t] (retK R) (mLN tb ws vs) ([(21, .split ((7, .con (C11t tb)) :: []) ((4, .con (C20N rw st n cw n2 cv ws vs true)) :: (11, .conN (C21N rw st n cw n2 cv ws vs ((IntKind.i64.wrap nb).tmod 6) [] 0)) :: (144, .con (C11t tb)) :: []))])) =
((((farB 0 n2 n) = true → (CA 11 (C11t tb) ⟨⟨[], []⟩, [tb]⟩ <|
R (.ret (.bool true)))) ∧
((farB 0 n2 n) = false → (CA 20 (C20N rw st n cw n2 cv ws vs true) ⟨⟨[(I rw), (I st)], [⟨n, cw⟩, ⟨n2, cv⟩]⟩, [ws, vs]⟩ <|
(CN 21 (C21N rw st n cw n2 cv ws vs ((IntKind.i64.wrap nb).tmod 6) [] 0) ⟨⟨[(I rw), (I st), (I ((IntKind.i64.wrap nb).tmod 6))], [⟨n, cw⟩, ⟨n2, cv⟩]⟩, [ws, vs]⟩ <|
(CA 11 (C11t tb) ⟨⟨[], []⟩, [tb]⟩ <|
R (.ret (.bool true)))))))) := by kernel_rfl
theorem f7In (rw st : Int) (c1 m cu : Nat) (nb : Int) (t : Value) (tb us : List Value) (R : ARes → Prop) : (vx.call 7 [su_n rw st c1 m cu, .int .u8 nb, t] (retK R) (mLH tb us) ([(21, .split ((7, .con (C11t tb)) :: []) ((4, .con (C20n rw st c1 m cu us false)) :: (4, .con (C11t tb)) :: []))])) =
((((farB m 0 0) = true → (CA 11 (C11t tb) ⟨⟨[], []⟩, [tb]⟩ <|
R (.ret (.bool true)))) ∧
((farB m 0 0) = false → (CA 20 (C20n rw st c1 m cu us false) ⟨⟨[(I rw), (I st)], [⟨m, cu⟩]⟩, [us]⟩ <|
(CA 11 (C11t tb) ⟨⟨[], []⟩, [tb]⟩ <|
R (.ret (.bool true))))))) := by kernel_rfl
theorem f7Mn (rw st : Int) (c1 cu : Nat) (nb : Int) (t : Value) (tb us : List Value) (R : ARes → Prop) : (vx.call 7 [su_n rw st c1 0 cu, .int .u8 nb, t] (retK R) (mLH tb us) ((26, .con (C20n rw st c1 0 cu us true)) :: (11, .conN (C21n rw st c1 0 cu us ((IntKind.i64.wrap nb).tmod 6) [] 0)) :: (144, .con (C11t tb)) :: [])) =
((CA 20 (C20n rw st c1 0 cu us true) ⟨⟨[(I rw), (I st)], [⟨0, cu⟩]⟩, [us]⟩ <|
(CN 21 (C21n rw st c1 0 cu us ((IntKind.i64.wrap nb).tmod 6) [] 0) ⟨⟨[(I rw), (I st), (I ((IntKind.i64.wrap nb).tmod 6))], [⟨0, cu⟩]⟩, [us]⟩ <|
(CA 11 (C11t tb) ⟨⟨[], []⟩, [tb]⟩ <|
R (.ret (.bool true)))))) := by kernel_rfl
theorem f7Iv (rw st : Int) (c1 m cu : Nat) (nb : Int) (t : Value) (tb us : List Value) (R : ARes → Prop) : (vx.call 7 [su_v rw st c1 m cu, .int .u8 nb, t] (retK R) (mLH tb us) ([(21, .split ((7, .con (C11t tb)) :: []) ((4, .con (C20v rw st c1 m cu us false)) :: (4, .con (C11t tb)) :: []))])) =
((((farB m 0 0) = true → (CA 11 (C11t tb) ⟨⟨[], []⟩, [tb]⟩ <|
R (.ret (.bool true)))) ∧
((farB m 0 0) = false → (CA 20 (C20v rw st c1 m cu us false) ⟨⟨[(I rw), (I st)], [⟨0, c1⟩, ⟨m, cu⟩]⟩, [us]⟩ <|
(CA 11 (C11t tb) ⟨⟨[], []⟩, [tb]⟩ <|
R (.ret (.bool true))))))) := by kernel_rfl
theorem f7Mv (rw st : Int) (c1 cu : Nat) (nb : Int) (t : Value) (tb us : List Value) (R : ARes → Prop) : (vx.call 7 [su_v rw st c1 0 cu, .int .u8 nb, t] (retK R) (mLH tb us) ((26, .con (C20v rw st c1 0 cu us true)) :: (11, .conN (C21v rw st c1 0 cu us ((IntKind.i64.wrap nb).tmod 6) [] 0)) :: (144, .con (C11t tb)) :: [])) =
((CA 20 (C20v rw st c1 0 cu us true) ⟨⟨[(I rw), (I st)], [⟨0, c1⟩, ⟨0, cu⟩]⟩, [us]⟩ <|
(CN 21 (C21v rw st c1 0 cu us ((IntKind.i64.wrap nb).tmod 6) [] 0) ⟨⟨[(I rw), (I st), (I ((IntKind.i64.wrap nb).tmod 6))], [⟨0, c1⟩, ⟨0, cu⟩]⟩, [us]⟩ <|
(CA 11 (C11t tb) ⟨⟨[], []⟩, [tb]⟩ <|
R (.ret (.bool true)))))) := by kernel_rfl
theorem f7Iw (rw st : Int) (c1 m cu : Nat) (nb : Int) (t : Value) (tb us : List Value) (R : ARes → Prop) : (vx.call 7 [su_w rw st c1 m cu, .int .u8 nb, t] (retK R) (mLH tb us) ([(21, .split ((7, .con (C11t tb)) :: []) ((4, .con (C20w rw st c1 m cu us false)) :: (4, .con (C11t tb)) :: []))])) =
((((farB m 0 0) = true → (CA 11 (C11t tb) ⟨⟨[], []⟩, [tb]⟩ <|
R (.ret (.bool true)))) ∧
((farB m 0 0) = false → (CA 20 (C20w rw st c1 m cu us false) ⟨⟨[(I rw), (I st)], [⟨0, c1⟩, ⟨m, cu⟩]⟩, [us]⟩ <|
(CA 11 (C11t tb) ⟨⟨[], []⟩, [tb]⟩ <|
R (.ret (.bool true))))))) := by kernel_rfl
theorem f7Mw (rw st : Int) (c1 cu : Nat) (nb : Int) (t : Value) (tb us : List Value) (R : ARes → Prop) : (vx.call 7 [su_w rw st c1 0 cu, .int .u8 nb, t] (retK R) (mLH tb us) ((26, .con (C20w rw st c1 0 cu us true)) :: (11, .conN (C21w rw st c1 0 cu us ((IntKind.i64.wrap nb).tmod 6) [] 0)) :: (144, .con (C11t tb)) :: [])) =
((CA 20 (C20w rw st c1 0 cu us true) ⟨⟨[(I rw), (I st)], [⟨0, c1⟩, ⟨0, cu⟩]⟩, [us]⟩ <|
(CN 21 (C21w rw st c1 0 cu us ((IntKind.i64.wrap nb).tmod 6) [] 0) ⟨⟨[(I rw), (I st), (I ((IntKind.i64.wrap nb).tmod 6))], [⟨0, c1⟩, ⟨0, cu⟩]⟩, [us]⟩ <|
(CA 11 (C11t tb) ⟨⟨[], []⟩, [tb]⟩ <|
R (.ret (.bool true)))))) := by kernel_rfl
theorem f7InnN (rw st : Int) (nb : Int) (t : Value) (tb : List Value) (R : ARes → Prop) : (vx.call 7 [.agg ⟨[I rw, I st, nilS, nilS, nilS]⟩, .int .u8 nb, t] (retK R) (mL0 tb) ((26, .con (CX ((TL.val nilS (TL.val nilS (TL.val nilS TL.nil))).hole.hole.agg TL.nil) rw st [] false)) :: (4, .con (C11t tb)) :: [])) =
((CA 20 (CX ((TL.val nilS (TL.val nilS (TL.val nilS TL.nil))).hole.hole.agg TL.nil) rw st [] false) ⟨⟨[(I rw), (I st)], []⟩, []⟩ <|
(CA 11 (C11t tb) ⟨⟨[], []⟩, [tb]⟩ <|
R (.ret (.bool true))))) := by kernel_rfl
theorem f7MnnN (rw st : Int) (nb : Int) (t : Value) (tb : List Value) (R : ARes → Prop) : (vx.call 7 [.agg ⟨[I rw, I st, nilS, nilS, nilS]⟩, .int .u8 nb, t] (retK R) (mL0 tb) ((26, .con (CX ((TL.val nilS (TL.val nilS (TL.val nilS TL.nil))).hole.hole.agg TL.nil) rw st [] true)) :: (11, .conN (C21nnN rw st ((IntKind.i64.wrap nb).tmod 6) [] 0)) :: (144, .con (C11t tb)) :: [])) =
((CA 20 (CX ((TL.val nilS (TL.val nilS (TL.val nilS TL.nil))).hole.hole.agg TL.nil) rw st [] true) ⟨⟨[(I rw), (I st)], []⟩, []⟩ <|
(CN 21 (C21nnN rw st ((IntKind.i64.wrap nb).tmod 6) [] 0) ⟨⟨[(I rw), (I st), (I ((IntKind.i64.wrap nb).tmod 6))], []⟩, []⟩ <|
(CA 11 (C11t tb) ⟨⟨[], []⟩, [tb]⟩ <|
R (.ret (.bool true)))))) := by kernel_rfl
theorem f7InvN (rw st : Int) (c1 : Nat) (nb : Int) (t : Value) (tb : List Value) (R : ARes → Prop) : (vx.call 7 [.agg ⟨[I rw, I st, nilS, slV 3 0 c1, nilS]⟩, .int .u8 nb, t] (retK R) (mL0 tb) ((26, .con (CX ((TL.val nilS (TL.slice 3 0 (TL.val nilS TL.nil))).hole.hole.agg TL.nil) rw st [(0, c1)] false)) :: (4, .con (C11t tb)) :: [])) =
((CA 20 (CX ((TL.val nilS (TL.slice 3 0 (TL.val nilS TL.nil))).hole.hole.agg TL.nil) rw st [(0, c1)] false) ⟨⟨[(I rw), (I st)], [⟨0, c1⟩]⟩, []⟩ <|
(CA 11 (C11t tb) ⟨⟨[], []⟩, [tb]⟩ <|
R (.ret (.bool true))))) := by kernel_rfl
theorem f7MnvN (rw st : Int) (c1 : Nat) (nb : Int) (t : Value) (tb : List Value) (R : ARes → Prop) : (vx.call 7 [.agg ⟨[I rw, I st, nilS, slV 3 0 c1, nilS]⟩, .int .u8 nb, t] (retK R) (mL0 tb) ((26, .con (CX ((TL.val nilS (TL.slice 3 0 (TL.val nilS TL.nil))).hole.hole.agg TL.nil) rw st [(0, c1)] true)) :: (11, .conN (C21nvN rw st c1 ((IntKind.i64.wrap nb).tmod 6) [] 0)) :: (144, .con (C11t tb)) :: [])) =
((CA 20 (CX ((TL.val nilS (TL.slice 3 0 (TL.val nilS TL.nil))).hole.hole.agg TL.nil) rw st [(0, c1)] true) ⟨⟨[(I rw), (I st)], [⟨0, c1⟩]⟩, []⟩ <|
(CN 21 (C21nvN rw st c1 ((IntKind.i64.wrap nb).tmod 6) [] 0) ⟨⟨[(I rw), (I st), (I ((IntKind.i64.wrap nb).tmod 6))], [⟨0, c1⟩]⟩, []⟩ <|
(CA 11 (C11t tb) ⟨⟨[], []⟩, [tb]⟩ <|
R (.ret (.bool true)))))) := by kernel_rfl
theorem f7IwnN (rw st : Int) (c1 : Nat) (nb : Int) (t : Value) (tb : List Value) (R : ARes → Prop) : (vx.call 7 [.agg ⟨[I rw, I st, slV 2 0 c1, nilS, nilS]⟩, .int .u8 nb, t] (retK R) (mL0 tb) ((26, .con (CX ((TL.slice 2 0 (TL.val nilS (TL.val nilS TL.nil))).hole.hole.agg TL.nil) rw st [(0, c1)] false)) :: (4, .con (C11t tb)) :: [])) =
((CA 20 (CX ((TL.slice 2 0 (TL.val nilS (TL.val nilS TL.nil))).hole.hole.agg TL.nil) rw st [(0, c1)] false) ⟨⟨[(I rw), (I st)], [⟨0, c1⟩]⟩, []⟩ <|
(CA 11 (C11t tb) ⟨⟨[], []⟩, [tb]⟩ <|
R (.ret (.bool true))))) := by kernel_rfl
theorem f7MwnN (rw st : Int) (c1 : Nat) (nb : Int) (t : Value) (tb : List Value) (R : ARes → Prop) : (vx.call 7 [.agg ⟨[I rw, I st, slV 2 0 c1, nilS, nilS]⟩, .int .u8 nb, t] (retK R) (mL0 tb) ((26, .con (CX ((TL.slice 2 0 (TL.val nilS (TL.val nilS TL.nil))).hole.hole.agg TL.nil) rw st [(0, c1)] true)) :: (11, .conN (C21wnN rw st c1 ((IntKind.i64.wrap nb).tmod 6) [] 0)) :: (144, .con (C11t tb)) :: [])) =
((CA 20 (CX ((TL.slice 2 0 (TL.val nilS (TL.val nilS TL.nil))).hole.hole.agg TL.nil) rw st [(0, c1)] true) ⟨⟨[(I rw), (I st)], [⟨0, c1⟩]⟩, []⟩ <|
(CN 21 (C21wnN rw st c1 ((IntKind.i64.wrap nb).tmod 6) [] 0) ⟨⟨[(I rw), (I st), (I ((IntKind.i64.wrap nb).tmod 6))], [⟨0, c1⟩]⟩, []⟩ <|
(CA 11 (C11t tb) ⟨⟨[], []⟩, [tb]⟩ <|
R (.ret (.bool true)))))) := by kernel_rfl
theorem f7InkP (rw st : Int) (n cv m cu : Nat) (nb : Int) (t : Value) (tb : List Value) (R : ARes → Prop) : (vx.call 7 [.agg ⟨[I rw, I st, nilS, slV 3 n cv, slV 4 m cu]⟩, .int .u8 nb, t] (retK R) (mL0 tb) ([(21, .split ((7, .con (C11t tb)) :: []) ((4, .con (CX ((TL.val nilS (TL.slice 3 0 (TL.slice 4 0 TL.nil))).hole.hole.agg TL.nil) rw st [(n, cv), (m, cu)] false)) :: (4, .con (C11t tb)) :: []))])) =
((((farB m n 0) = true → (CA 11 (C11t tb) ⟨⟨[], []⟩, [tb]⟩ <|
R (.ret (.bool true)))) ∧
((farB m n 0) = false → (CA 20 (CX ((TL.val nilS (TL.slice 3 0 (TL.slice 4 0 TL.nil))).hole.hole.agg TL.nil) rw st [(n, cv), (m, cu)] false) ⟨⟨[(I rw), (I st)], [⟨n, cv⟩, ⟨m, cu⟩]⟩, []⟩ <|
(CA 11 (C11t tb) ⟨⟨[], []⟩, [tb]⟩ <|
R (.ret (.bool true))))))) := by kernel_rfl
theorem f7InkN (rw st : Int) (n cv : Nat) (nb : Int) (t : Value) (tb : List Value) (R : ARes → Prop) : (vx.call 7 [.agg ⟨[I rw, I st, nilS, slV 3 n cv, nilS]⟩, .int .u8 nb, t] (retK R) (mL0 tb) ([(21, .split ((7, .con (C11t tb)) :: []) ((4, .con (CX ((TL.val nilS (TL.slice 3 0 (TL.val nilS TL.nil))).hole.hole.agg TL.nil) rw st [(n, cv)] false)) :: (4, .con (C11t tb)) :: []))])) =
((((farB 0 n 0) = true → (CA 11 (C11t tb) ⟨⟨[], []⟩, [tb]⟩ <|
R (.ret (.bool true)))) ∧
((farB 0 n 0) = false → (CA 20 (CX ((TL.val nilS (TL.slice 3 0 (TL.val nilS TL.nil))).hole.hole.agg TL.nil) rw st [(n, cv)] false) ⟨⟨[(I rw), (I st)], [⟨n, cv⟩]⟩, []⟩ <|
(CA 11 (C11t tb) ⟨⟨[], []⟩, [tb]⟩ <|
R (.ret (.bool true))))))) := by kernel_rfl
theorem f7IknP (rw st : Int) (n cw m cu : Nat) (nb : Int) (t : Value) (tb : List Value) (R : ARes → Prop) : (vx.call 7 [.agg ⟨[I rw, I st, slV 2 n cw, nilS, slV 4 m cu]⟩, .int .u8 nb, t] (retK R) (mL0 tb) ([(21, .split ((7, .con (C11t tb)) :: []) ((4, .con (CX ((TL.slice 2 0 (TL.val nilS (TL.slice 4 0 TL.nil))).hole.hole.agg TL.nil) rw st [(n, cw), (m, cu)] false)) :: (4, .con (C11t tb)) :: []))])) =
((((farB m 0 n) = true → (CA 11 (C11t tb) ⟨⟨[], []⟩, [tb]⟩ <|
R (.ret (.bool true)))) ∧
((farB m 0 n) = false → (CA 20 (CX ((TL.slice 2 0 (TL.val nilS (TL.slice 4 0 TL.nil))).hole.hole.agg TL.nil) rw st [(n, cw), (m, cu)] false) ⟨⟨[(I rw), (I st)], [⟨n, cw⟩, ⟨m, cu⟩]⟩, []⟩ <|
(CA 11 (C11t tb) ⟨⟨[], []⟩, [tb]⟩ <|
R (.ret (.bool true))))))) := by kernel_rfl
theorem f7IknN (rw st : Int) (n cw : Nat) (nb : Int) (t : Value) (tb : List Value) (R : ARes → Prop) : (vx.call 7 [.agg ⟨[I rw, I st, slV 2 n cw, nilS, nilS]⟩, .int .u8 nb, t] (retK R) (mL0 tb) ([(21, .split ((7, .con (C11t tb)) :: []) ((4, .con (CX ((TL.slice 2 0 (TL.val nilS (TL.val nilS TL.nil))).hole.hole.agg TL.nil) rw st [(n, cw)] false)) :: (4, .con (C11t tb)) :: []))])) =
((((farB 0 0 n) = true → (CA 11 (C11t tb) ⟨⟨[], []⟩, [tb]⟩ <|
R (.ret (.bool true)))) ∧
((farB 0 0 n) = false → (CA 20 (CX ((TL.slice 2 0 (TL.val nilS (TL.val nilS TL.nil))).hole.hole.agg TL.nil) rw st [(n, cw)] false) ⟨⟨[(I rw), (I st)], [⟨n, cw⟩]⟩, []⟩ <|
(CA 11 (C11t tb) ⟨⟨[], []⟩, [tb]⟩ <|
R (.ret (.bool true))))))) := by kernel_rfl
section
variable {rw st : Int} {c1 m cu j : Nat} {u : Nat → Raw}
theorem law7n (hj : j < 256) (t : Value) (hE : okS0 rw st m u = false ∨ m = 0) : ∃ hs, vx.call 7 [su_n rw st c1 m cu, .int .u8 j, t] (retK fun r => r = .ret (.bool true)) (mLH tabC (raL m u)) hs := by
 have hmz := mz_eq hj
 have hmany : j % 6 ≤ 5 := by have := Nat.mod_lt j (show 0 < 6 by omega); omega
 generalize j % 6 = many at hmz hmany
 have c20 := C20n_ok (rw := rw) (st := st) (c1 := c1) (m := m) (cu := cu) (u := u)
 cases hok : okS0 rw st m u with
 | false =>
  rw [hok] at c20
  exact ⟨_, (f7In rw st c1 m cu j t tabC (raL m u) _).mpr ⟨fun _ => ⟨C11t_ok, rfl, rfl⟩, fun _ => ⟨c20, rfl, C11t_ok, rfl, rfl⟩⟩⟩
 | true =>
  rw [hok] at c20
  obtain rfl : m = 0 := by
   rcases hE with h | h
   · rw [hok] at h; cases h
   · exact h
  obtain ⟨hrw, hst, _, _⟩ := okS0_inv hok
  have c21 := C21n_ok (c1 := c1) (cu := cu) (u := fun i => toH (u i)) hrw hst ⟨by omega, fun i hi => by omega⟩ hmany
  rw [bestQ_no (savF_zero 0)] at c21
  refine ⟨_, (f7Mn rw st c1 cu j t tabC (raL 0 u) _).mpr ?_⟩
  rw [hmz]
  exact ⟨c20, rfl, c21, rfl, C11t_ok, rfl, rfl⟩
theorem law7v (hj : j < 256) (t : Value) (hE : okS0 rw st m u = false ∨ m = 0) : ∃ hs, vx.call 7 [su_v rw st c1 m cu, .int .u8 j, t] (retK fun r => r = .ret (.bool true)) (mLH tabC (raL m u)) hs := by
 have hmz := mz_eq hj
 have hmany : j % 6 ≤ 5 := by have := Nat.mod_lt j (show 0 < 6 by omega); omega
 generalize j % 6 = many at hmz hmany
 have c20 := C20v_ok (rw := rw) (st := st) (c1 := c1) (m := m) (cu := cu) (u := u)
 cases hok : okS0 rw st m u with
 | false =>
  rw [hok] at c20
  exact ⟨_, (f7Iv rw st c1 m cu j t tabC (raL m u) _).mpr ⟨fun _ => ⟨C11t_ok, rfl, rfl⟩, fun _ => ⟨c20, rfl, C11t_ok, rfl, rfl⟩⟩⟩
 | true =>
  rw [hok] at c20
  obtain rfl : m = 0 := by
   rcases hE with h | h
   · rw [hok] at h; cases h
   · exact h
  obtain ⟨hrw, hst, _, _⟩ := okS0_inv hok
  have c21 := C21v_ok (c1 := c1) (cu := cu) (u := fun i => toH (u i)) hrw hst ⟨by omega, fun i hi => by omega⟩ hmany
  rw [bestQ_no (savF_zero 0)] at c21
  refine ⟨_, (f7Mv rw st c1 cu j t tabC (raL 0 u) _).mpr ?_⟩
  rw [hmz]
  exact ⟨c20, rfl, c21, rfl, C11t_ok, rfl, rfl⟩
theorem law7w (hj : j < 256) (t : Value) (hE : okS0 rw st m u = false ∨ m = 0) : ∃ hs, vx.call 7 [su_w rw st c1 m cu, .int .u8 j, t] (retK fun r => r = .ret (.bool true)) (mLH tabC (raL m u)) hs := by
 have hmz := mz_eq hj
 have hmany : j % 6 ≤ 5 := by have := Nat.mod_lt j (show 0 < 6 by omega); omega
 generalize j % 6 = many at hmz hmany
 have c20 := C20w_ok (rw := rw) (st := st) (c1 := c1) (m := m) (cu := cu) (u := u)
 cases hok : okS0 rw st m u with
 | false =>
  rw [hok] at c20
  exact ⟨_, (f7Iw rw st c1 m cu j t tabC (raL m u) _).mpr ⟨fun _ => ⟨C11t_ok, rfl, rfl⟩, fun _ => ⟨c20, rfl, C11t_ok, rfl, rfl⟩⟩⟩
 | true =>
  rw [hok] at c20
  obtain rfl : m = 0 := by
   rcases hE with h | h
   · rw [hok] at h; cases h
   · exact h
  obtain ⟨hrw, hst, _, _⟩ := okS0_inv hok
  have c21 := C21w_ok (c1 := c1) (cu := cu) (u := fun i => toH (u i)) hrw hst ⟨by omega, fun i hi => by omega⟩ hmany
  rw [bestQ_no (savF_zero 0)] at c21
  refine ⟨_, (f7Mw rw st c1 cu j t tabC (raL 0 u) _).mpr ?_⟩
  rw [hmz]
  exact ⟨c20, rfl, c21, rfl, C11t_ok, rfl, rfl⟩
end
section
variable {rw st : Int} {n cw n2 cv m cu j : Nat} {w v : Nat → Sp} {u : Nat → Raw}
theorem law7R (hj : j < 256) (t : Value) (hE : okSu rw st n n2 m w v u = false ∨ m = 0) : ∃ hs, vx.call 7 [suR rw st n cw n2 cv m cu, .int .u8 j, t] (retK fun r => r = .ret (.bool true)) (mLR tabC (spL n w) (spL n2 v) (raL m u)) hs := by
 have hmz := mz_eq hj
 have hmany : j % 6 ≤ 5 := by have := Nat.mod_lt j (show 0 < 6 by omega); omega
 generalize j % 6 = many at hmz hmany
 have c20 := C20_ok (rw := rw) (st := st) (n := n) (cw := cw) (n2 := n2) (cv := cv) (m := m) (cu := cu) (w := w) (v := v) (u := u)
 cases hok : okSu rw st n n2 m w v u with
 | false =>
  rw [hok] at c20
  exact ⟨_, (f7Ip rw st n cw n2 cv m cu j t tabC (spL n w) (spL n2 v) (raL m u) _).mpr ⟨fun _ => ⟨C11t_ok, rfl, rfl⟩, fun _ => ⟨c20, rfl, C11t_ok, rfl, rfl⟩⟩⟩
 | true =>
  rw [hok] at c20
  obtain rfl : m = 0 := by
   rcases hE with h | h
   · rw [hok] at h; cases h
   · exact h
  obtain ⟨e, hS, h5, hall⟩ := okSu_inv hok
  subst e
  have c21 := C21d_ok (cw := cw) (cv := cv) (cu := cu) (u := fun i => toH (u i)) hS (m := 0) ⟨by omega, fun i hi => by omega⟩ hmany
  rw [show savQ st w v n2 0 (fun i => toH (u i)) many = 0 from bestQ_no (y := perY st w v n2 fun i => toH (u i)) (many := many) (m := 0) rfl] at c21
  refine ⟨_, (f7Mp rw st n2 cw cv cu j t tabC (spL n2 w) (spL n2 v) (raL 0 u) _).mpr ?_⟩
  rw [hmz]
  exact ⟨fun _ => ⟨C11t_ok, rfl, rfl⟩, fun _ => ⟨c20, rfl, c21, rfl, C11t_ok, rfl, rfl⟩⟩
theorem law7N (hj : j < 256) (t : Value) : ∃ hs, vx.call 7 [suN rw st n cw n2 cv, .int .u8 j, t] (retK fun r => r = .ret (.bool true)) (mLN tabC (spL n w) (spL n2 v)) hs := by
 have hmz := mz_eq hj
 have hmany : j % 6 ≤ 5 := by have := Nat.mod_lt j (show 0 < 6 by omega); omega
 generalize j % 6 = many at hmz hmany
 have c20 := C20N_ok (rw := rw) (st := st) (n := n) (cw := cw) (n2 := n2) (cv := cv) (w := w) (v := v)
 cases hok : okSN rw st n n2 w v with
 | false =>
  rw [hok] at c20
  exact ⟨_, (f7IN rw st n cw n2 cv j t tabC (spL n w) (spL n2 v) _).mpr ⟨fun _ => ⟨C11t_ok, rfl, rfl⟩, fun _ => ⟨c20, rfl, C11t_ok, rfl, rfl⟩⟩⟩
 | true =>
  have c21 := C21N_ok (cw := cw) (cv := cv) hok hmany
  rw [hok] at c20
  refine ⟨_, (f7MN rw st n cw n2 cv j t tabC (spL n w) (spL n2 v) _).mpr ?_⟩
  rw [hmz]
  exact ⟨fun _ => ⟨C11t_ok, rfl, rfl⟩, fun _ => ⟨c20, rfl, c21, rfl, C11t_ok, rfl, rfl⟩⟩
theorem l7nnN (hj : j < 256) (t : Value) : ∃ hs, vx.call 7 [.agg ⟨[I rw, I st, nilS, nilS, nilS]⟩, .int .u8 j, t] (retK fun r => r = .ret (.bool true)) (mL0 tabC) hs := by
 have hmz := mz_eq hj
 have hmany : j % 6 ≤ 5 := by have := Nat.mod_lt j (show 0 < 6 by omega); omega
 generalize j % 6 = many at hmz hmany
 have c20 := C20nnN_ok (rw := rw) (st := st)
 cases hok : inB rw 1 6 && inB st 0 4 with
 | false =>
  rw [hok] at c20
  exact ⟨_, (f7InnN rw st j t tabC _).mpr ⟨c20, rfl, C11t_ok, rfl, rfl⟩⟩
 | true =>
  have c21 := C21nnN_ok hok hmany
  rw [hok] at c20
  refine ⟨_, (f7MnnN rw st j t tabC _).mpr ?_⟩
  rw [hmz]
  exact ⟨c20, rfl, c21, rfl, C11t_ok, rfl, rfl⟩
theorem l7nvN {c1 : Nat} (hj : j < 256) (t : Value) : ∃ hs, vx.call 7 [.agg ⟨[I rw, I st, nilS, slV 3 0 c1, nilS]⟩, .int .u8 j, t] (retK fun r => r = .ret (.bool true)) (mL0 tabC) hs := by
 have hmz := mz_eq hj
 have hmany : j % 6 ≤ 5 := by have := Nat.mod_lt j (show 0 < 6 by omega); omega
 generalize j % 6 = many at hmz hmany
 have c20 := C20nvN_ok (rw := rw) (st := st) (c1 := c1)
 cases hok : inB rw 1 6 && inB st 0 4 with
 | false =>
  rw [hok] at c20
  exact ⟨_, (f7InvN rw st c1 j t tabC _).mpr ⟨c20, rfl, C11t_ok, rfl, rfl⟩⟩
 | true =>
  have c21 := C21nvN_ok (c1 := c1) hok hmany
  rw [hok] at c20
  refine ⟨_, (f7MnvN rw st c1 j t tabC _).mpr ?_⟩
  rw [hmz]
  exact ⟨c20, rfl, c21, rfl, C11t_ok, rfl, rfl⟩
theorem l7wnN {c1 : Nat} (hj : j < 256) (t : Value) : ∃ hs, vx.call 7 [.agg ⟨[I rw, I st, slV 2 0 c1, nilS, nilS]⟩, .int .u8 j, t] (retK fun r => r = .ret (.bool true)) (mL0 tabC) hs := by
 have hmz := mz_eq hj
 have hmany : j % 6 ≤ 5 := by have := Nat.mod_lt j (show 0 < 6 by omega); omega
 generalize j % 6 = many at hmz hmany
 have c20 := C20wnN_ok (rw := rw) (st := st) (c1 := c1)
 cases hok : inB rw 1 6 && inB st 0 4 with
 | false =>
  rw [hok] at c20
  exact ⟨_, (f7IwnN rw st c1 j t tabC _).mpr ⟨c20, rfl, C11t_ok, rfl, rfl⟩⟩
 | true =>
  have c21 := C21wnN_ok (c1 := c1) hok hmany
  rw [hok] at c20
  refine ⟨_, (f7MwnN rw st c1 j t tabC _).mpr ?_⟩
  rw [hmz]
  exact ⟨c20, rfl, c21, rfl, C11t_ok, rfl, rfl⟩
theorem l7nkP (h : n ≠ 0) (t : Value) : ∃ hs, vx.call 7 [.agg ⟨[I rw, I st, nilS, slV 3 n cv, slV 4 m cu]⟩, .int .u8 j, t] (retK fun r => r = .ret (.bool true)) (mL0 tabC) hs := by
 have c20 := C20nkP_ok (rw := rw) (st := st) (n := n) (cv := cv) (m := m) (cu := cu) h
 refine ⟨_, (f7InkP rw st n cv m cu j t tabC _).mpr ?_⟩
 repeat' (first | with_reducible apply And.intro | with_reducible intro)
 all_goals first
  | exact c20
  | exact C11t_ok
  | trivial
  | rfl
theorem l7nkN (h : n ≠ 0) (t : Value) : ∃ hs, vx.call 7 [.agg ⟨[I rw, I st, nilS, slV 3 n cv, nilS]⟩, .int .u8 j, t] (retK fun r => r = .ret (.bool true)) (mL0 tabC) hs := by
 have c20 := C20nkN_ok (rw := rw) (st := st) (n := n) (cv := cv) h
 refine ⟨_, (f7InkN rw st n cv j t tabC _).mpr ?_⟩
 repeat' (first | with_reducible apply And.intro | with_reducible intro)
 all_goals first
  | exact c20
  | exact C11t_ok
  | trivial
  | rfl
theorem l7knP (h : 0 ≠ n) (t : Value) : ∃ hs, vx.call 7 [.agg ⟨[I rw, I st, slV 2 n cw, nilS, slV 4 m cu]⟩, .int .u8 j, t] (retK fun r => r = .ret (.bool true)) (mL0 tabC) hs := by
 have c20 := C20knP_ok (rw := rw) (st := st) (n := n) (cw := cw) (m := m) (cu := cu) h
 refine ⟨_, (f7IknP rw st n cw m cu j t tabC _).mpr ?_⟩
 repeat' (first | with_reducible apply And.intro | with_reducible intro)
 all_goals first
  | exact c20
  | exact C11t_ok
  | trivial
  | rfl
theorem l7knN (h : 0 ≠ n) (t : Value) : ∃ hs, vx.call 7 [.agg ⟨[I rw, I st, slV 2 n cw, nilS, nilS]⟩, .int .u8 j, t] (retK fun r => r = .ret (.bool true)) (mL0 tabC) hs := by
 have c20 := C20knN_ok (rw := rw) (st := st) (n := n) (cw := cw) h
 refine ⟨_, (f7IknN rw st n cw j t tabC _).mpr ?_⟩
 repeat' (first | with_reducible apply And.intro | with_reducible intro)
 all_goals first
  | exact c20
  | exact C11t_ok
  | trivial
  | rfl
end
end Go.Ab
set_option maxRecDepth 100000
namespace Go.Ab
open Go Go.RowKit Go.Proofs
theorem cells_u8 : Tryd.prog.cellsOf 5 = 1 := by kernel_rfl
section
variable {W : World} {H : Type} {enc : TypeId × Value → H}
theorem u8_in {fuel : Nat} {cs : List Value} {x : DataW H × List MemPlace} (h : DataW.trod enc Tryd.prog W 0 (fun _ => true) true fuel 5 cs = some x) : ∃ z : Int, cs = [.int .u8 z] := by
 obtain ⟨z, h1, _, _⟩ := DataW.trod_int Tryd.underlying5 h
 exact ⟨z, h1⟩
def BytsIn (W : World) (v : Value) : Prop := v = .slice none 0 0 ∨ ∃ (n : Nat) (f : Nat → Int), SlIn W v n (u8L n f)
theorem byts_in (hz : ∃ c t fr, W.heap[1]? = some (.cells c t fr)) {fuel : Nat} {v : Value} {x : DataW H × List MemPlace} (h : DataW.trod enc Tryd.prog W 0 (fun _ => true) true fuel 57 [v] = some x) : BytsIn W v := by
 haveI : Inhabited Int := ⟨0⟩
 exact rows_in (k := 1) (gV := fun z : Int => [.int .u8 z]) Tryd.underlying57 cells_u8 (fun _ => rfl) (by omega) (fun z v hv => by simp only [List.mem_singleton] at hv; subst hv; rfl) u8_in hz h
end
section
variable {W : World}
theorem save_args {m : NMap} {rw st j : Int} {A B C T a b c t : Value} (ha : VRel m A a) (hb : VRel m B b) (hc : VRel m C c) (ht : VRel m T t) :
    VsRel m [.agg ⟨[I rw, I st, A, B, C]⟩, .int .u8 j, T] [.agg ⟨[I rw, I st, a, b, c]⟩, .int .u8 j, t] :=
 .agg (.atom rfl (.atom rfl (VsRel.cons ha (VsRel.cons hb hc)))) (.atom rfl ht)
theorem go7 (hT : RcHolds W gl1) {rw st : Int} {j : Nat} {A B C T a b c t : Value} {z2 z3 z4 z5 : RoC} (h2 : RcHolds W z2) (h3 : RcHolds W z3) (h4 : RcHolds W z4) (h5 : RcHolds W z5)
    (ha : ∀ m : NMap, m 2 = some z2.1 → VRel m A a) (hb : ∀ m : NMap, m 3 = some z3.1 → VRel m B b) (hc : ∀ m : NMap, m 4 = some z4.1 → VRel m C c) (ht : ∀ m : NMap, m 5 = some z5.1 → VRel m T t)
    (hr : ∃ hs, vx.call 7 [.agg ⟨[I rw, I st, A, B, C]⟩, .int .u8 j, T] (retK fun r => r = .ret (.bool true)) (wlM [gl0, gl1, z2, z3, z4, z5]) hs) :
    Calls Tryd.prog 7 #[.agg #[I rw, I st, a, b, c], .int .u8 j, t] W fun e W' => e = .returned (.bool true) ∧ Below W.heap.size W W' := by
 refine calls_wl (l := [gl0, gl1, z2, z3, z4, z5]) (args' := [.agg ⟨[I rw, I st, a, b, c]⟩, .int .u8 j, t]) (Nat.le_of_ble_eq_true rfl) (fun x hx => ?_) gl_ok (save_args (ha _ rfl) (hb _ rfl) (hc _ rfl) (ht _ rfl)) hr
 simp only [List.mem_cons, List.not_mem_nil, or_false] at hx
 rcases hx with rfl | rfl | rfl | rfl | rfl | rfl
 · exact holds_none rfl
 · exact hT
 · exact h2
 · exact h3
 · exact h4
 · exact h5
theorem run7 (hT : RcHolds W gl1) {rw st : Int} {j : Nat} {a b c t : Value} (ha : SpsIn W a) (hb : SpsIn W b) (hc : HutsIn W c) (ht : BytsIn W t) (hj : j < 256) :
    Calls Tryd.prog 7 #[.agg #[I rw, I st, a, b, c], .int .u8 j, t] W fun e W' => e = .returned (.bool true) ∧ Below W.heap.size W W' := by
 have h0 : RcHolds W no0 := holds_none rfl
 have hn : ∀ F : BInfo, RcHolds W (F, none) := fun F => holds_none rfl
 obtain ⟨F5, T, hT5⟩ : ∃ (F5 : BInfo) (T : Value), ∀ m : NMap, m 5 = some F5 → VRel m T t := by
  rcases ht with rfl | ⟨k, f, F, d, _, h⟩
  · exact ⟨⟨0, 0, 0⟩, nilS, fun _ _ => nil_rel⟩
  · exact ⟨F, _, fun m hm => h 5 m hm⟩
 rcases ha with rfl | ⟨n, w, F2, cw, hF2, ha⟩
 · rcases hb with rfl | ⟨n2, v, F3, cv, hF3, hb⟩
   · rcases hc with rfl | ⟨m, u, F4, cu, hF4, hc⟩
     · exact go7 hT (z2 := no0) (z3 := no0) (z4 := no0) (z5 := (F5, none)) h0 h0 h0 (hn _) (fun _ _ => nil_rel) (fun _ _ => nil_rel) (fun _ _ => nil_rel) hT5 (l7nnN hj T)
     · by_cases hE : okS0 rw st m u = false ∨ m = 0
       · exact go7 hT (z2 := no0) (z3 := no0) (z4 := (F4, some (raL m u, 1))) (z5 := (F5, none)) h0 h0 hF4 (hn _) (fun _ _ => nil_rel) (fun _ _ => nil_rel) (hc 4) hT5 (law7n (c1 := 0) hj T hE)
       · have hok : okS0 rw st m u = true := by
          cases h : okS0 rw st m u with
          | true => rfl
          | false => exact absurd (.inl h) hE
         have hm : 0 < m := by
          rcases Nat.eq_zero_or_pos m with h | h
          · exact absurd (.inr h) hE
          · exact h
         have c20 := fun x => C20n_ok (rw := rw) (st := st) (c1 := x) (m := m) (cu := cu) (u := u)
         rw [hok] at c20
         obtain ⟨hrw, hst, h5, hall⟩ := okS0_inv hok
         obtain ⟨hl, hU⟩ := huts_conv hrw.1 hrw.2 h5 hall
         rw [hl] at hF4 c20
         rcases ht with rfl | ⟨k, f, F, d, hF, ht⟩
         · exact go7 hT (z2 := no0) (z3 := no0) (z4 := (F4, some (huL m fun i => toH (u i), 1))) (z5 := no0) h0 h0 hF4 h0 (fun _ _ => nil_rel) (fun _ _ => nil_rel) (hc 4) (fun _ _ => nil_rel) (law7n_n (c1 := 0) hrw hst hU hm hj (c20 _))
         · have hF' : RcHolds W (F, some (u8L k f, 2)) := fun q hq => by cases hq; exact hF (u8L k f, 1) rfl
           exact go7 hT (z2 := no0) (z3 := no0) (z4 := (F4, some (huL m fun i => toH (u i), 1))) (z5 := (F, some (u8L k f, 2))) h0 h0 hF4 hF' (fun _ _ => nil_rel) (fun _ _ => nil_rel) (hc 4) (ht 5) (law7n_p (c1 := 0) hrw hst hU hm hj (c20 _))
   · by_cases e : n2 = 0
     · subst e
       rcases hc with rfl | ⟨m, u, F4, cu, hF4, hc⟩
       · exact go7 hT (z2 := no0) (z3 := (F3, none)) (z4 := no0) (z5 := (F5, none)) h0 (hn _) h0 (hn _) (fun _ _ => nil_rel) (hb 3) (fun _ _ => nil_rel) hT5 (l7nvN hj T)
       · by_cases hE : okS0 rw st m u = false ∨ m = 0
         · exact go7 hT (z2 := no0) (z3 := (F3, none)) (z4 := (F4, some (raL m u, 1))) (z5 := (F5, none)) h0 (hn _) hF4 (hn _) (fun _ _ => nil_rel) (hb 3) (hc 4) hT5 (law7v hj T hE)
         · have hok : okS0 rw st m u = true := by
            cases h : okS0 rw st m u with
            | true => rfl
            | false => exact absurd (.inl h) hE
           have hm : 0 < m := by
            rcases Nat.eq_zero_or_pos m with h | h
            · exact absurd (.inr h) hE
            · exact h
           have c20 := fun x => C20v_ok (rw := rw) (st := st) (c1 := x) (m := m) (cu := cu) (u := u)
           rw [hok] at c20
           obtain ⟨hrw, hst, h5, hall⟩ := okS0_inv hok
           obtain ⟨hl, hU⟩ := huts_conv hrw.1 hrw.2 h5 hall
           rw [hl] at hF4 c20
           rcases ht with rfl | ⟨k, f, F, d, hF, ht⟩
           · exact go7 hT (z2 := no0) (z3 := (F3, none)) (z4 := (F4, some (huL m fun i => toH (u i), 1))) (z5 := no0) h0 (hn _) hF4 h0 (fun _ _ => nil_rel) (hb 3) (hc 4) (fun _ _ => nil_rel) (law7v_n hrw hst hU hm hj (c20 _))
           · have hF' : RcHolds W (F, some (u8L k f, 2)) := fun q hq => by cases hq; exact hF (u8L k f, 1) rfl
             exact go7 hT (z2 := no0) (z3 := (F3, none)) (z4 := (F4, some (huL m fun i => toH (u i), 1))) (z5 := (F, some (u8L k f, 2))) h0 (hn _) hF4 hF' (fun _ _ => nil_rel) (hb 3) (hc 4) (ht 5) (law7v_p hrw hst hU hm hj (c20 _))
     · rcases hc with rfl | ⟨m, u, F4, cu, hF4, hc⟩
       · exact go7 hT (z2 := no0) (z3 := (F3, none)) (z4 := no0) (z5 := (F5, none)) h0 (hn _) h0 (hn _) (fun _ _ => nil_rel) (hb 3) (fun _ _ => nil_rel) hT5 (l7nkN e T)
       · exact go7 hT (z2 := no0) (z3 := (F3, none)) (z4 := (F4, none)) (z5 := (F5, none)) h0 (hn _) (hn _) (hn _) (fun _ _ => nil_rel) (hb 3) (hc 4) hT5 (l7nkP e T)
 · rcases hb with rfl | ⟨n2, v, F3, cv, hF3, hb⟩
   · by_cases e : 0 = n
     · subst e
       rcases hc with rfl | ⟨m, u, F4, cu, hF4, hc⟩
       · exact go7 hT (z2 := (F2, none)) (z3 := no0) (z4 := no0) (z5 := (F5, none)) (hn _) h0 h0 (hn _) (ha 2) (fun _ _ => nil_rel) (fun _ _ => nil_rel) hT5 (l7wnN hj T)
       · by_cases hE : okS0 rw st m u = false ∨ m = 0
         · exact go7 hT (z2 := (F2, none)) (z3 := no0) (z4 := (F4, some (raL m u, 1))) (z5 := (F5, none)) (hn _) h0 hF4 (hn _) (ha 2) (fun _ _ => nil_rel) (hc 4) hT5 (law7w hj T hE)
         · have hok : okS0 rw st m u = true := by
            cases h : okS0 rw st m u with
            | true => rfl
            | false => exact absurd (.inl h) hE
           have hm : 0 < m := by
            rcases Nat.eq_zero_or_pos m with h | h
            · exact absurd (.inr h) hE
            · exact h
           have c20 := fun x => C20w_ok (rw := rw) (st := st) (c1 := x) (m := m) (cu := cu) (u := u)
           rw [hok] at c20
           obtain ⟨hrw, hst, h5, hall⟩ := okS0_inv hok
           obtain ⟨hl, hU⟩ := huts_conv hrw.1 hrw.2 h5 hall
           rw [hl] at hF4 c20
           rcases ht with rfl | ⟨k, f, F, d, hF, ht⟩
           · exact go7 hT (z2 := (F2, none)) (z3 := no0) (z4 := (F4, some (huL m fun i => toH (u i), 1))) (z5 := no0) (hn _) h0 hF4 h0 (ha 2) (fun _ _ => nil_rel) (hc 4) (fun _ _ => nil_rel) (law7w_n hrw hst hU hm hj (c20 _))
           · have hF' : RcHolds W (F, some (u8L k f, 2)) := fun q hq => by cases hq; exact hF (u8L k f, 1) rfl
             exact go7 hT (z2 := (F2, none)) (z3 := no0) (z4 := (F4, some (huL m fun i => toH (u i), 1))) (z5 := (F, some (u8L k f, 2))) (hn _) h0 hF4 hF' (ha 2) (fun _ _ => nil_rel) (hc 4) (ht 5) (law7w_p hrw hst hU hm hj (c20 _))
     · rcases hc with rfl | ⟨m, u, F4, cu, hF4, hc⟩
       · exact go7 hT (z2 := (F2, none)) (z3 := no0) (z4 := no0) (z5 := (F5, none)) (hn _) h0 h0 (hn _) (ha 2) (fun _ _ => nil_rel) (fun _ _ => nil_rel) hT5 (l7knN e T)
       · exact go7 hT (z2 := (F2, none)) (z3 := no0) (z4 := (F4, none)) (z5 := (F5, none)) (hn _) h0 (hn _) (hn _) (ha 2) (fun _ _ => nil_rel) (hc 4) hT5 (l7knP e T)
   · rcases hc with rfl | ⟨m, u, F4, cu, hF4, hc⟩
     · exact go7 hT (z2 := (F2, some (spL n w, 1))) (z3 := (F3, some (spL n2 v, 1))) (z4 := no0) (z5 := (F5, none)) hF2 hF3 h0 (hn _) (ha 2) (hb 3) (fun _ _ => nil_rel) hT5 (law7N hj T)
     · by_cases hE : okSu rw st n n2 m w v u = false ∨ m = 0
       · exact go7 hT (z2 := (F2, some (spL n w, 1))) (z3 := (F3, some (spL n2 v, 1))) (z4 := (F4, some (raL m u, 1))) (z5 := (F5, none)) hF2 hF3 hF4 (hn _) (ha 2) (hb 3) (hc 4) hT5 (law7R hj T hE)
       · have hok : okSu rw st n n2 m w v u = true := by
          cases h : okSu rw st n n2 m w v u with
          | true => rfl
          | false => exact absurd (.inl h) hE
         have hm : 0 < m := by
          rcases Nat.eq_zero_or_pos m with h | h
          · exact absurd (.inr h) hE
          · exact h
         obtain ⟨e, hS, h5, hall⟩ := okSu_inv hok
         subst e
         obtain ⟨hl, hU⟩ := huts_conv hS.rw1 hS.rw6 h5 hall
         rw [hl] at hF4
         obtain ⟨r, rfl⟩ : ∃ r : Nat, rw = (r : Int) := ⟨rw.toNat, (Int.toNat_of_nonneg (by have := hS.rw1; omega)).symm⟩
         rcases ht with rfl | ⟨k, f, F, d, hF, ht⟩
         · exact go7 hT (z2 := (F2, some (spL n2 w, 1))) (z3 := (F3, some (spL n2 v, 1))) (z4 := (F4, some (huL m fun i => toH (u i), 1))) (z5 := no0) hF2 hF3 hF4 h0 (ha 2) (hb 3) (hc 4) (fun _ _ => nil_rel) (law7_En hS hU hm hj)
         · have hF' : RcHolds W (F, some (u8L k f, 2)) := fun q hq => by cases hq; exact hF (u8L k f, 1) rfl
           exact go7 hT (z2 := (F2, some (spL n2 w, 1))) (z3 := (F3, some (spL n2 v, 1))) (z4 := (F4, some (huL m fun i => toH (u i), 1))) (z5 := (F, some (u8L k f, 2))) hF2 hF3 hF4 hF' (ha 2) (hb 3) (hc 4) (ht 5) (law7_E hS hU hm hj)
end
end Go.Ab
namespace Go.Ab
open Go Go.RowKit Go.Lib
theorem laidMet_tail {P : Program} {x : String × DataW Unit} {rest : List (String × DataW Unit)} {W : World} (h : laidMet P (x :: rest) W) : laidMet P rest W := by
 obtain ⟨ps, ⟨g, t, cs, fuel, p, q, hg, ht, hvar, hd, hrest, rfl⟩, hnd, hall⟩ := h
 refine ⟨q, hrest, (List.nodup_append.1 hnd).2.1, fun b off hm => hall b off (List.mem_append_right _ hm)⟩
end Go.Ab
