/- package surf: SurfMore, of surfs that are not valid, or without hours or huts. -/
import Derived.Test.YtoelpblmhmhglaaDoorNU
import Derived.Test.YtoelpblmhmhglaaDoorNN
import Derived.Test.YtoelpblmhmhglaaDoorNI
import Derived.Test.YtoelpblmhmhglaaDoorMO
import Derived.Lib.LaidTab
set_option maxRecDepth 100000
namespace Go.Ab
open Go Go.RowKit Go.Proofs
theorem f8Ip (rw st : Int) (n cw n2 cv m cu : Nat) (a b c d : Int) (tb ws vs us : List Value) (R : ARes → Prop) : (vx.call 8 [suR rw st n cw n2 cv m cu, .int .u8 a, .int .u8 b, .int .u8 c, .int .u8 d] (retK R) (mSu tb ws vs us) ([(21, .split ((11, .con (C11t tb)) :: []) ((4, .con (C20 rw st n cw n2 cv m cu ws vs us false)) :: (8, .con (C11t tb)) :: []))])) =
((((farB m n2 n) = true → (CA 11 (C11t tb) ⟨⟨[], []⟩, [tb]⟩ <|
R (.ret (.bool true)))) ∧
((farB m n2 n) = false → (CA 20 (C20 rw st n cw n2 cv m cu ws vs us false) ⟨⟨[(I rw), (I st)], [⟨n, cw⟩, ⟨n2, cv⟩, ⟨m, cu⟩]⟩, [ws, vs, us]⟩ <|
(CA 11 (C11t tb) ⟨⟨[], []⟩, [tb]⟩ <|
R (.ret (.bool true))))))) := by kernel_rfl
theorem f8Mp (rw st : Int) (n cw n2 cv cu : Nat) (a b c d : Int) (tb ws vs us : List Value) (R : ARes → Prop) : (vx.call 8 [suR rw st n cw n2 cv 0 cu, .int .u8 a, .int .u8 b, .int .u8 c, .int .u8 d] (retK R) (mSu tb ws vs us) ([(21, .split ((11, .con (C11t tb)) :: []) ((4, .con (C20 rw st n cw n2 cv 0 cu ws vs us true)) :: (12, .con (C11t tb)) :: []))])) =
((((farB 0 n2 n) = true → (CA 11 (C11t tb) ⟨⟨[], []⟩, [tb]⟩ <|
R (.ret (.bool true)))) ∧
((farB 0 n2 n) = false → (CA 20 (C20 rw st n cw n2 cv 0 cu ws vs us true) ⟨⟨[(I rw), (I st)], [⟨n, cw⟩, ⟨n2, cv⟩, ⟨0, cu⟩]⟩, [ws, vs, us]⟩ <|
(CA 11 (C11t tb) ⟨⟨[], []⟩, [tb]⟩ <|
R (.ret (.bool true))))))) := by kernel_rfl
theorem f8Dp (rw st : Int) (cw n2 cv m cu : Nat) (a b c d : Int) (tb ws vs us : List Value) (R : ARes → Prop) : (vx.call 8 [suR rw st 0 cw n2 cv m cu, .int .u8 a, .int .u8 b, .int .u8 c, .int .u8 d] (retK R) (mSu tb ws vs us) ([(21, .split ((11, .con (C11t tb)) :: []) ((4, .con (C20 rw st 0 cw n2 cv m cu ws vs us true)) :: (7, .val (.bool false)) :: (8, .con (C11t tb)) :: []))])) =
((((farB m n2 0) = true → (CA 11 (C11t tb) ⟨⟨[], []⟩, [tb]⟩ <|
R (.ret (.bool true)))) ∧
((farB m n2 0) = false → (CA 20 (C20 rw st 0 cw n2 cv m cu ws vs us true) ⟨⟨[(I rw), (I st)], [⟨0, cw⟩, ⟨n2, cv⟩, ⟨m, cu⟩]⟩, [ws, vs, us]⟩ <|
((OT ((m : Int) == 0) false) ∧
(CA 11 (C11t tb) ⟨⟨[], []⟩, [tb]⟩ <|
R (.ret (.bool true)))))))) := by kernel_rfl
theorem f8IN (rw st : Int) (n cw n2 cv : Nat) (a b c d : Int) (tb ws vs : List Value) (R : ARes → Prop) : (vx.call 8 [suN rw st n cw n2 cv, .int .u8 a, .int .u8 b, .int .u8 c, .int .u8 d] (retK R) (mQN tb ws vs) ([(21, .split ((11, .con (C11t tb)) :: []) ((4, .con (C20N rw st n cw n2 cv ws vs false)) :: (8, .con (C11t tb)) :: []))])) =
((((farB 0 n2 n) = true → (CA 11 (C11t tb) ⟨⟨[], []⟩, [tb]⟩ <|
R (.ret (.bool true)))) ∧
((farB 0 n2 n) = false → (CA 20 (C20N rw st n cw n2 cv ws vs false) ⟨⟨[(I rw), (I st)], [⟨n, cw⟩, ⟨n2, cv⟩]⟩, [ws, vs]⟩ <|
(CA 11 (C11t tb) ⟨⟨[], []⟩, [tb]⟩ <|
R (.ret (.bool true))))))) := by kernel_rfl
theorem f8MN (rw st : Int) (n cw n2 cv : Nat) (a b c d : Int) (tb ws vs : List Value) (R : ARes → Prop) : (vx.call 8 [suN rw st n cw n2 cv, .int .u8 a, .int .u8 b, .int .u8 c, .int .u8 d] (retK R) (mQN tb ws vs) ([(21, .split ((11, .con (C11t tb)) :: []) ((4, .con (C20N rw st n cw n2 cv ws vs true)) :: (12, .con (C11t tb)) :: []))])) =
((((farB 0 n2 n) = true → (CA 11 (C11t tb) ⟨⟨[], []⟩, [tb]⟩ <|
R (.ret (.bool true)))) ∧
((farB 0 n2 n) = false → (CA 20 (C20N rw st n cw n2 cv ws vs true) ⟨⟨[(I rw), (I st)], [⟨n, cw⟩, ⟨n2, cv⟩]⟩, [ws, vs]⟩ <|
(CA 11 (C11t tb) ⟨⟨[], []⟩, [tb]⟩ <|
R (.ret (.bool true))))))) := by kernel_rfl
theorem f8In (rw st : Int) (c1 m cu : Nat) (a b c d : Int) (tb us : List Value) (R : ARes → Prop) : (vx.call 8 [su_n rw st c1 m cu, .int .u8 a, .int .u8 b, .int .u8 c, .int .u8 d] (retK R) (mQH tb us) ([(21, .split ((11, .con (C11t tb)) :: []) ((4, .con (C20n rw st c1 m cu us false)) :: (8, .con (C11t tb)) :: []))])) =
((((farB m 0 0) = true → (CA 11 (C11t tb) ⟨⟨[], []⟩, [tb]⟩ <|
R (.ret (.bool true)))) ∧
((farB m 0 0) = false → (CA 20 (C20n rw st c1 m cu us false) ⟨⟨[(I rw), (I st)], [⟨m, cu⟩]⟩, [us]⟩ <|
(CA 11 (C11t tb) ⟨⟨[], []⟩, [tb]⟩ <|
R (.ret (.bool true))))))) := by kernel_rfl
theorem f8Mn (rw st : Int) (c1 cu : Nat) (a b c d : Int) (tb us : List Value) (R : ARes → Prop) : (vx.call 8 [su_n rw st c1 0 cu, .int .u8 a, .int .u8 b, .int .u8 c, .int .u8 d] (retK R) (mQH tb us) ((26, .con (C20n rw st c1 0 cu us true)) :: (12, .con (C11t tb)) :: [])) =
((CA 20 (C20n rw st c1 0 cu us true) ⟨⟨[(I rw), (I st)], [⟨0, cu⟩]⟩, [us]⟩ <|
(CA 11 (C11t tb) ⟨⟨[], []⟩, [tb]⟩ <|
R (.ret (.bool true))))) := by kernel_rfl
theorem f8Dn (rw st : Int) (c1 m cu : Nat) (a b c d : Int) (tb us : List Value) (R : ARes → Prop) : (vx.call 8 [su_n rw st c1 m cu, .int .u8 a, .int .u8 b, .int .u8 c, .int .u8 d] (retK R) (mQH tb us) ([(21, .split ((11, .con (C11t tb)) :: []) ((4, .con (C20n rw st c1 m cu us true)) :: (7, .val (.bool false)) :: (8, .con (C11t tb)) :: []))])) =
((((farB m 0 0) = true → (CA 11 (C11t tb) ⟨⟨[], []⟩, [tb]⟩ <|
R (.ret (.bool true)))) ∧
((farB m 0 0) = false → (CA 20 (C20n rw st c1 m cu us true) ⟨⟨[(I rw), (I st)], [⟨m, cu⟩]⟩, [us]⟩ <|
((OT ((m : Int) == 0) false) ∧
(CA 11 (C11t tb) ⟨⟨[], []⟩, [tb]⟩ <|
R (.ret (.bool true)))))))) := by kernel_rfl
theorem f8Iv (rw st : Int) (c1 m cu : Nat) (a b c d : Int) (tb us : List Value) (R : ARes → Prop) : (vx.call 8 [su_v rw st c1 m cu, .int .u8 a, .int .u8 b, .int .u8 c, .int .u8 d] (retK R) (mQH tb us) ([(21, .split ((11, .con (C11t tb)) :: []) ((4, .con (C20v rw st c1 m cu us false)) :: (8, .con (C11t tb)) :: []))])) =
((((farB m 0 0) = true → (CA 11 (C11t tb) ⟨⟨[], []⟩, [tb]⟩ <|
R (.ret (.bool true)))) ∧
((farB m 0 0) = false → (CA 20 (C20v rw st c1 m cu us false) ⟨⟨[(I rw), (I st)], [⟨0, c1⟩, ⟨m, cu⟩]⟩, [us]⟩ <|
(CA 11 (C11t tb) ⟨⟨[], []⟩, [tb]⟩ <|
R (.ret (.bool true))))))) := by kernel_rfl
theorem f8Mv (rw st : Int) (c1 cu : Nat) (a b c d : Int) (tb us : List Value) (R : ARes → Prop) : (vx.call 8 [su_v rw st c1 0 cu, .int .u8 a, .int .u8 b, .int .u8 c, .int .u8 d] (retK R) (mQH tb us) ((26, .con (C20v rw st c1 0 cu us true)) :: (12, .con (C11t tb)) :: [])) =
((CA 20 (C20v rw st c1 0 cu us true) ⟨⟨[(I rw), (I st)], [⟨0, c1⟩, ⟨0, cu⟩]⟩, [us]⟩ <|
(CA 11 (C11t tb) ⟨⟨[], []⟩, [tb]⟩ <|
R (.ret (.bool true))))) := by kernel_rfl
theorem f8Dv (rw st : Int) (c1 m cu : Nat) (a b c d : Int) (tb us : List Value) (R : ARes → Prop) : (vx.call 8 [su_v rw st c1 m cu, .int .u8 a, .int .u8 b, .int .u8 c, .int .u8 d] (retK R) (mQH tb us) ([(21, .split ((11, .con (C11t tb)) :: []) ((4, .con (C20v rw st c1 m cu us true)) :: (7, .val (.bool false)) :: (8, .con (C11t tb)) :: []))])) =
((((farB m 0 0) = true → (CA 11 (C11t tb) ⟨⟨[], []⟩, [tb]⟩ <|
R (.ret (.bool true)))) ∧
((farB m 0 0) = false → (CA 20 (C20v rw st c1 m cu us true) ⟨⟨[(I rw), (I st)], [⟨0, c1⟩, ⟨m, cu⟩]⟩, [us]⟩ <|
((OT ((m : Int) == 0) false) ∧
(CA 11 (C11t tb) ⟨⟨[], []⟩, [tb]⟩ <|
R (.ret (.bool true)))))))) := by kernel_rfl
theorem f8Iw (rw st : Int) (c1 m cu : Nat) (a b c d : Int) (tb us : List Value) (R : ARes → Prop) : (vx.call 8 [su_w rw st c1 m cu, .int .u8 a, .int .u8 b, .int .u8 c, .int .u8 d] (retK R) (mQH tb us) ([(21, .split ((11, .con (C11t tb)) :: []) ((4, .con (C20w rw st c1 m cu us false)) :: (8, .con (C11t tb)) :: []))])) =
((((farB m 0 0) = true → (CA 11 (C11t tb) ⟨⟨[], []⟩, [tb]⟩ <|
R (.ret (.bool true)))) ∧
((farB m 0 0) = false → (CA 20 (C20w rw st c1 m cu us false) ⟨⟨[(I rw), (I st)], [⟨0, c1⟩, ⟨m, cu⟩]⟩, [us]⟩ <|
(CA 11 (C11t tb) ⟨⟨[], []⟩, [tb]⟩ <|
R (.ret (.bool true))))))) := by kernel_rfl
theorem f8Mw (rw st : Int) (c1 cu : Nat) (a b c d : Int) (tb us : List Value) (R : ARes → Prop) : (vx.call 8 [su_w rw st c1 0 cu, .int .u8 a, .int .u8 b, .int .u8 c, .int .u8 d] (retK R) (mQH tb us) ((26, .con (C20w rw st c1 0 cu us true)) :: (12, .con (C11t tb)) :: [])) =
((CA 20 (C20w rw st c1 0 cu us true) ⟨⟨[(I rw), (I st)], [⟨0, c1⟩, ⟨0, cu⟩]⟩, [us]⟩ <|
(CA 11 (C11t tb) ⟨⟨[], []⟩, [tb]⟩ <|
R (.ret (.bool true))))) := by kernel_rfl
theorem f8Dw (rw st : Int) (c1 m cu : Nat) (a b c d : Int) (tb us : List Value) (R : ARes → Prop) : (vx.call 8 [su_w rw st c1 m cu, .int .u8 a, .int .u8 b, .int .u8 c, .int .u8 d] (retK R) (mQH tb us) ([(21, .split ((11, .con (C11t tb)) :: []) ((4, .con (C20w rw st c1 m cu us true)) :: (7, .val (.bool false)) :: (8, .con (C11t tb)) :: []))])) =
((((farB m 0 0) = true → (CA 11 (C11t tb) ⟨⟨[], []⟩, [tb]⟩ <|
R (.ret (.bool true)))) ∧
((farB m 0 0) = false → (CA 20 (C20w rw st c1 m cu us true) ⟨⟨[(I rw), (I st)], [⟨0, c1⟩, ⟨m, cu⟩]⟩, [us]⟩ <|
((OT ((m : Int) == 0) false) ∧
(CA 11 (C11t tb) ⟨⟨[], []⟩, [tb]⟩ <|
R (.ret (.bool true)))))))) := by kernel_rfl
theorem f8nnN (rw st : Int) (a b c d : Int) (tb : List Value) (R : ARes → Prop) : (vx.call 8 [.agg ⟨[I rw, I st, nilS, nilS, nilS]⟩, .int .u8 a, .int .u8 b, .int .u8 c, .int .u8 d] (retK R) (mQ0 tb) ([(35, .split ([(3, .split ([(10, .split ([(3, .split ((55, .con (C11t tb)) :: []) ((20, .con (C11t tb)) :: []))]) ((21, .con (C11t tb)) :: []))]) ((21, .con (C11t tb)) :: []))]) ((22, .con (C11t tb)) :: []))])) =
((((decide ((1 : Int) ≤ rw)) = true → (((decide (rw ≤ (6 : Int))) = true → (((decide ((0 : Int) ≤ st)) = true → (((decide (st ≤ (4 : Int))) = true → (CA 11 (C11t tb) ⟨⟨[], []⟩, [tb]⟩ <|
R (.ret (.bool true)))) ∧
((decide (st ≤ (4 : Int))) = false → (CA 11 (C11t tb) ⟨⟨[], []⟩, [tb]⟩ <|
R (.ret (.bool true)))))) ∧
((decide ((0 : Int) ≤ st)) = false → (CA 11 (C11t tb) ⟨⟨[], []⟩, [tb]⟩ <|
R (.ret (.bool true)))))) ∧
((decide (rw ≤ (6 : Int))) = false → (CA 11 (C11t tb) ⟨⟨[], []⟩, [tb]⟩ <|
R (.ret (.bool true)))))) ∧
((decide ((1 : Int) ≤ rw)) = false → (CA 11 (C11t tb) ⟨⟨[], []⟩, [tb]⟩ <|
R (.ret (.bool true)))))) := by kernel_rfl
theorem f8nvN (rw st : Int) (c1 : Nat) (a b c d : Int) (tb : List Value) (R : ARes → Prop) : (vx.call 8 [.agg ⟨[I rw, I st, nilS, slV 3 0 c1, nilS]⟩, .int .u8 a, .int .u8 b, .int .u8 c, .int .u8 d] (retK R) (mQ0 tb) ([(35, .split ([(3, .split ([(10, .split ([(3, .split ((55, .con (C11t tb)) :: []) ((20, .con (C11t tb)) :: []))]) ((21, .con (C11t tb)) :: []))]) ((21, .con (C11t tb)) :: []))]) ((22, .con (C11t tb)) :: []))])) =
((((decide ((1 : Int) ≤ rw)) = true → (((decide (rw ≤ (6 : Int))) = true → (((decide ((0 : Int) ≤ st)) = true → (((decide (st ≤ (4 : Int))) = true → (CA 11 (C11t tb) ⟨⟨[], []⟩, [tb]⟩ <|
R (.ret (.bool true)))) ∧
((decide (st ≤ (4 : Int))) = false → (CA 11 (C11t tb) ⟨⟨[], []⟩, [tb]⟩ <|
R (.ret (.bool true)))))) ∧
((decide ((0 : Int) ≤ st)) = false → (CA 11 (C11t tb) ⟨⟨[], []⟩, [tb]⟩ <|
R (.ret (.bool true)))))) ∧
((decide (rw ≤ (6 : Int))) = false → (CA 11 (C11t tb) ⟨⟨[], []⟩, [tb]⟩ <|
R (.ret (.bool true)))))) ∧
((decide ((1 : Int) ≤ rw)) = false → (CA 11 (C11t tb) ⟨⟨[], []⟩, [tb]⟩ <|
R (.ret (.bool true)))))) := by kernel_rfl
theorem f8wnN (rw st : Int) (c1 : Nat) (a b c d : Int) (tb : List Value) (R : ARes → Prop) : (vx.call 8 [.agg ⟨[I rw, I st, slV 2 0 c1, nilS, nilS]⟩, .int .u8 a, .int .u8 b, .int .u8 c, .int .u8 d] (retK R) (mQ0 tb) ([(35, .split ([(3, .split ([(10, .split ([(3, .split ((55, .con (C11t tb)) :: []) ((20, .con (C11t tb)) :: []))]) ((21, .con (C11t tb)) :: []))]) ((21, .con (C11t tb)) :: []))]) ((22, .con (C11t tb)) :: []))])) =
((((decide ((1 : Int) ≤ rw)) = true → (((decide (rw ≤ (6 : Int))) = true → (((decide ((0 : Int) ≤ st)) = true → (((decide (st ≤ (4 : Int))) = true → (CA 11 (C11t tb) ⟨⟨[], []⟩, [tb]⟩ <|
R (.ret (.bool true)))) ∧
((decide (st ≤ (4 : Int))) = false → (CA 11 (C11t tb) ⟨⟨[], []⟩, [tb]⟩ <|
R (.ret (.bool true)))))) ∧
((decide ((0 : Int) ≤ st)) = false → (CA 11 (C11t tb) ⟨⟨[], []⟩, [tb]⟩ <|
R (.ret (.bool true)))))) ∧
((decide (rw ≤ (6 : Int))) = false → (CA 11 (C11t tb) ⟨⟨[], []⟩, [tb]⟩ <|
R (.ret (.bool true)))))) ∧
((decide ((1 : Int) ≤ rw)) = false → (CA 11 (C11t tb) ⟨⟨[], []⟩, [tb]⟩ <|
R (.ret (.bool true)))))) := by kernel_rfl
theorem f8nkP (rw st : Int) (n cv m cu : Nat) (a b c d : Int) (tb : List Value) (R : ARes → Prop) : (vx.call 8 [.agg ⟨[I rw, I st, nilS, slV 3 n cv, slV 4 m cu]⟩, .int .u8 a, .int .u8 b, .int .u8 c, .int .u8 d] (retK R) (mQ0 tb) ([(21, .split ((11, .con (C11t tb)) :: []) ([(13, .split ([(3, .split ([(10, .split ([(3, .split ((17, .val (.bool true)) :: (13, .con (C11t tb)) :: []) ((20, .con (C11t tb)) :: []))]) ((21, .con (C11t tb)) :: []))]) ((21, .con (C11t tb)) :: []))]) ((22, .con (C11t tb)) :: []))]))])) =
((((farB m n 0) = true → (CA 11 (C11t tb) ⟨⟨[], []⟩, [tb]⟩ <|
R (.ret (.bool true)))) ∧
((farB m n 0) = false → (((decide ((1 : Int) ≤ rw)) = true → (((decide (rw ≤ (6 : Int))) = true → (((decide ((0 : Int) ≤ st)) = true → (((decide (st ≤ (4 : Int))) = true → ((OT ((n : Int) != (↑(0 : Nat) : Int)) true) ∧
(CA 11 (C11t tb) ⟨⟨[], []⟩, [tb]⟩ <|
R (.ret (.bool true))))) ∧
((decide (st ≤ (4 : Int))) = false → (CA 11 (C11t tb) ⟨⟨[], []⟩, [tb]⟩ <|
R (.ret (.bool true)))))) ∧
((decide ((0 : Int) ≤ st)) = false → (CA 11 (C11t tb) ⟨⟨[], []⟩, [tb]⟩ <|
R (.ret (.bool true)))))) ∧
((decide (rw ≤ (6 : Int))) = false → (CA 11 (C11t tb) ⟨⟨[], []⟩, [tb]⟩ <|
R (.ret (.bool true)))))) ∧
((decide ((1 : Int) ≤ rw)) = false → (CA 11 (C11t tb) ⟨⟨[], []⟩, [tb]⟩ <|
R (.ret (.bool true)))))))) := by kernel_rfl
theorem f8nkN (rw st : Int) (n cv : Nat) (a b c d : Int) (tb : List Value) (R : ARes → Prop) : (vx.call 8 [.agg ⟨[I rw, I st, nilS, slV 3 n cv, nilS]⟩, .int .u8 a, .int .u8 b, .int .u8 c, .int .u8 d] (retK R) (mQ0 tb) ([(21, .split ((11, .con (C11t tb)) :: []) ([(13, .split ([(3, .split ([(10, .split ([(3, .split ((17, .val (.bool true)) :: (13, .con (C11t tb)) :: []) ((20, .con (C11t tb)) :: []))]) ((21, .con (C11t tb)) :: []))]) ((21, .con (C11t tb)) :: []))]) ((22, .con (C11t tb)) :: []))]))])) =
((((farB 0 n 0) = true → (CA 11 (C11t tb) ⟨⟨[], []⟩, [tb]⟩ <|
R (.ret (.bool true)))) ∧
((farB 0 n 0) = false → (((decide ((1 : Int) ≤ rw)) = true → (((decide (rw ≤ (6 : Int))) = true → (((decide ((0 : Int) ≤ st)) = true → (((decide (st ≤ (4 : Int))) = true → ((OT ((n : Int) != (↑(0 : Nat) : Int)) true) ∧
(CA 11 (C11t tb) ⟨⟨[], []⟩, [tb]⟩ <|
R (.ret (.bool true))))) ∧
((decide (st ≤ (4 : Int))) = false → (CA 11 (C11t tb) ⟨⟨[], []⟩, [tb]⟩ <|
R (.ret (.bool true)))))) ∧
((decide ((0 : Int) ≤ st)) = false → (CA 11 (C11t tb) ⟨⟨[], []⟩, [tb]⟩ <|
R (.ret (.bool true)))))) ∧
((decide (rw ≤ (6 : Int))) = false → (CA 11 (C11t tb) ⟨⟨[], []⟩, [tb]⟩ <|
R (.ret (.bool true)))))) ∧
((decide ((1 : Int) ≤ rw)) = false → (CA 11 (C11t tb) ⟨⟨[], []⟩, [tb]⟩ <|
R (.ret (.bool true)))))))) := by kernel_rfl
theorem f8knP (rw st : Int) (n cw m cu : Nat) (a b c d : Int) (tb : List Value) (R : ARes → Prop) : (vx.call 8 [.agg ⟨[I rw, I st, slV 2 n cw, nilS, slV 4 m cu]⟩, .int .u8 a, .int .u8 b, .int .u8 c, .int .u8 d] (retK R) (mQ0 tb) ([(21, .split ((11, .con (C11t tb)) :: []) ([(13, .split ([(3, .split ([(10, .split ([(3, .split ([(8, .split ((15, .con (C11t tb)) :: []) ((8, .val (.bool true)) :: (13, .con (C11t tb)) :: []))]) ((20, .con (C11t tb)) :: []))]) ((21, .con (C11t tb)) :: []))]) ((21, .con (C11t tb)) :: []))]) ((22, .con (C11t tb)) :: []))]))])) =
((((farB m 0 n) = true → (CA 11 (C11t tb) ⟨⟨[], []⟩, [tb]⟩ <|
R (.ret (.bool true)))) ∧
((farB m 0 n) = false → (((decide ((1 : Int) ≤ rw)) = true → (((decide (rw ≤ (6 : Int))) = true → (((decide ((0 : Int) ≤ st)) = true → (((decide (st ≤ (4 : Int))) = true → (((decide ((n : Int) > 8)) = true → (CA 11 (C11t tb) ⟨⟨[], []⟩, [tb]⟩ <|
R (.ret (.bool true)))) ∧
((decide ((n : Int) > 8)) = false → ((OT ((↑(0 : Nat) : Int) != (n : Int)) true) ∧
(CA 11 (C11t tb) ⟨⟨[], []⟩, [tb]⟩ <|
R (.ret (.bool true))))))) ∧
((decide (st ≤ (4 : Int))) = false → (CA 11 (C11t tb) ⟨⟨[], []⟩, [tb]⟩ <|
R (.ret (.bool true)))))) ∧
((decide ((0 : Int) ≤ st)) = false → (CA 11 (C11t tb) ⟨⟨[], []⟩, [tb]⟩ <|
R (.ret (.bool true)))))) ∧
((decide (rw ≤ (6 : Int))) = false → (CA 11 (C11t tb) ⟨⟨[], []⟩, [tb]⟩ <|
R (.ret (.bool true)))))) ∧
((decide ((1 : Int) ≤ rw)) = false → (CA 11 (C11t tb) ⟨⟨[], []⟩, [tb]⟩ <|
R (.ret (.bool true)))))))) := by kernel_rfl
theorem f8knN (rw st : Int) (n cw : Nat) (a b c d : Int) (tb : List Value) (R : ARes → Prop) : (vx.call 8 [.agg ⟨[I rw, I st, slV 2 n cw, nilS, nilS]⟩, .int .u8 a, .int .u8 b, .int .u8 c, .int .u8 d] (retK R) (mQ0 tb) ([(21, .split ((11, .con (C11t tb)) :: []) ([(13, .split ([(3, .split ([(10, .split ([(3, .split ([(8, .split ((15, .con (C11t tb)) :: []) ((8, .val (.bool true)) :: (13, .con (C11t tb)) :: []))]) ((20, .con (C11t tb)) :: []))]) ((21, .con (C11t tb)) :: []))]) ((21, .con (C11t tb)) :: []))]) ((22, .con (C11t tb)) :: []))]))])) =
((((farB 0 0 n) = true → (CA 11 (C11t tb) ⟨⟨[], []⟩, [tb]⟩ <|
R (.ret (.bool true)))) ∧
((farB 0 0 n) = false → (((decide ((1 : Int) ≤ rw)) = true → (((decide (rw ≤ (6 : Int))) = true → (((decide ((0 : Int) ≤ st)) = true → (((decide (st ≤ (4 : Int))) = true → (((decide ((n : Int) > 8)) = true → (CA 11 (C11t tb) ⟨⟨[], []⟩, [tb]⟩ <|
R (.ret (.bool true)))) ∧
((decide ((n : Int) > 8)) = false → ((OT ((↑(0 : Nat) : Int) != (n : Int)) true) ∧
(CA 11 (C11t tb) ⟨⟨[], []⟩, [tb]⟩ <|
R (.ret (.bool true))))))) ∧
((decide (st ≤ (4 : Int))) = false → (CA 11 (C11t tb) ⟨⟨[], []⟩, [tb]⟩ <|
R (.ret (.bool true)))))) ∧
((decide ((0 : Int) ≤ st)) = false → (CA 11 (C11t tb) ⟨⟨[], []⟩, [tb]⟩ <|
R (.ret (.bool true)))))) ∧
((decide (rw ≤ (6 : Int))) = false → (CA 11 (C11t tb) ⟨⟨[], []⟩, [tb]⟩ <|
R (.ret (.bool true)))))) ∧
((decide ((1 : Int) ≤ rw)) = false → (CA 11 (C11t tb) ⟨⟨[], []⟩, [tb]⟩ <|
R (.ret (.bool true)))))))) := by kernel_rfl
section
variable {rw st : Int} {c1 m cu a b c d : Nat} {u : Nat → Raw}
theorem law8n : ∃ hs, vx.call 8 [su_n rw st c1 m cu, .int .u8 a, .int .u8 b, .int .u8 c, .int .u8 d] (retK fun r => r = .ret (.bool true)) (mQH tabC (raL m u)) hs := by
 have c20 := C20n_ok (rw := rw) (st := st) (c1 := c1) (m := m) (cu := cu) (u := u)
 cases hok : okS0 rw st m u with
 | false =>
  rw [hok] at c20
  exact ⟨_, (f8In rw st c1 m cu a b c d tabC (raL m u) _).mpr ⟨fun _ => ⟨C11t_ok, rfl, rfl⟩, fun _ => ⟨c20, rfl, C11t_ok, rfl, rfl⟩⟩⟩
 | true =>
  rw [hok] at c20
  rcases Nat.eq_zero_or_pos m with h0 | h0
  · subst h0
    exact ⟨_, (f8Mn rw st c1 cu a b c d tabC (raL 0 u) _).mpr ⟨c20, rfl, C11t_ok, rfl, rfl⟩⟩
  · exact ⟨_, (f8Dn rw st c1 m cu a b c d tabC (raL m u) _).mpr ⟨fun _ => ⟨C11t_ok, rfl, rfl⟩, fun _ => ⟨c20, rfl, tf (nz8 h0), C11t_ok, rfl, rfl⟩⟩⟩
theorem law8v : ∃ hs, vx.call 8 [su_v rw st c1 m cu, .int .u8 a, .int .u8 b, .int .u8 c, .int .u8 d] (retK fun r => r = .ret (.bool true)) (mQH tabC (raL m u)) hs := by
 have c20 := C20v_ok (rw := rw) (st := st) (c1 := c1) (m := m) (cu := cu) (u := u)
 cases hok : okS0 rw st m u with
 | false =>
  rw [hok] at c20
  exact ⟨_, (f8Iv rw st c1 m cu a b c d tabC (raL m u) _).mpr ⟨fun _ => ⟨C11t_ok, rfl, rfl⟩, fun _ => ⟨c20, rfl, C11t_ok, rfl, rfl⟩⟩⟩
 | true =>
  rw [hok] at c20
  rcases Nat.eq_zero_or_pos m with h0 | h0
  · subst h0
    exact ⟨_, (f8Mv rw st c1 cu a b c d tabC (raL 0 u) _).mpr ⟨c20, rfl, C11t_ok, rfl, rfl⟩⟩
  · exact ⟨_, (f8Dv rw st c1 m cu a b c d tabC (raL m u) _).mpr ⟨fun _ => ⟨C11t_ok, rfl, rfl⟩, fun _ => ⟨c20, rfl, tf (nz8 h0), C11t_ok, rfl, rfl⟩⟩⟩
theorem law8w : ∃ hs, vx.call 8 [su_w rw st c1 m cu, .int .u8 a, .int .u8 b, .int .u8 c, .int .u8 d] (retK fun r => r = .ret (.bool true)) (mQH tabC (raL m u)) hs := by
 have c20 := C20w_ok (rw := rw) (st := st) (c1 := c1) (m := m) (cu := cu) (u := u)
 cases hok : okS0 rw st m u with
 | false =>
  rw [hok] at c20
  exact ⟨_, (f8Iw rw st c1 m cu a b c d tabC (raL m u) _).mpr ⟨fun _ => ⟨C11t_ok, rfl, rfl⟩, fun _ => ⟨c20, rfl, C11t_ok, rfl, rfl⟩⟩⟩
 | true =>
  rw [hok] at c20
  rcases Nat.eq_zero_or_pos m with h0 | h0
  · subst h0
    exact ⟨_, (f8Mw rw st c1 cu a b c d tabC (raL 0 u) _).mpr ⟨c20, rfl, C11t_ok, rfl, rfl⟩⟩
  · exact ⟨_, (f8Dw rw st c1 m cu a b c d tabC (raL m u) _).mpr ⟨fun _ => ⟨C11t_ok, rfl, rfl⟩, fun _ => ⟨c20, rfl, tf (nz8 h0), C11t_ok, rfl, rfl⟩⟩⟩
end
section
variable {rw st : Int} {n cw n2 cv m cu a b c d : Nat} {w v : Nat → Sp} {u : Nat → Raw}
theorem law8R (hb : b < 256) (hc : c < 256) (hd : d < 256) : ∃ hs, vx.call 8 [suR rw st n cw n2 cv m cu, .int .u8 a, .int .u8 b, .int .u8 c, .int .u8 d] (retK fun r => r = .ret (.bool true)) (mSu tabC (spL n w) (spL n2 v) (raL m u)) hs := by
 have c20 := C20_ok (rw := rw) (st := st) (n := n) (cw := cw) (n2 := n2) (cv := cv) (m := m) (cu := cu) (w := w) (v := v) (u := u)
 cases hok : okSu rw st n n2 m w v u with
 | false =>
  rw [hok] at c20
  exact ⟨_, (f8Ip rw st n cw n2 cv m cu a b c d tabC (spL n w) (spL n2 v) (raL m u) _).mpr ⟨fun _ => ⟨C11t_ok, rfl, rfl⟩, fun _ => ⟨c20, rfl, C11t_ok, rfl, rfl⟩⟩⟩
 | true =>
  rw [hok] at c20
  rcases Nat.eq_zero_or_pos m with h0 | h0
  · subst h0
    exact ⟨_, (f8Mp rw st n cw n2 cv cu a b c d tabC (spL n w) (spL n2 v) (raL 0 u) _).mpr ⟨fun _ => ⟨C11t_ok, rfl, rfl⟩, fun _ => ⟨c20, rfl, C11t_ok, rfl, rfl⟩⟩⟩
  · obtain ⟨e, hS, h5, hall⟩ := okSu_inv hok
    subst e
    rcases Nat.eq_zero_or_pos n2 with hn | hn
    · subst hn
      exact ⟨_, (f8Dp rw st cw 0 cv m cu a b c d tabC (spL 0 w) (spL 0 v) (raL m u) _).mpr ⟨fun _ => ⟨C11t_ok, rfl, rfl⟩, fun _ => ⟨c20, rfl, tf (nz8 h0), C11t_ok, rfl, rfl⟩⟩⟩
    · obtain ⟨hl, hU⟩ := huts_conv hS.rw1 hS.rw6 h5 hall
      rw [hl]
      obtain ⟨r, rfl⟩ : ∃ r : Nat, rw = (r : Int) := ⟨rw.toNat, (Int.toNat_of_nonneg (by have := hS.rw1; omega)).symm⟩
      exact law8_E hS hU hn h0 hb hc hd
theorem law8N : ∃ hs, vx.call 8 [suN rw st n cw n2 cv, .int .u8 a, .int .u8 b, .int .u8 c, .int .u8 d] (retK fun r => r = .ret (.bool true)) (mQN tabC (spL n w) (spL n2 v)) hs := by
 have c20 := C20N_ok (rw := rw) (st := st) (n := n) (cw := cw) (n2 := n2) (cv := cv) (w := w) (v := v)
 cases hok : okSN rw st n n2 w v with
 | false =>
  rw [hok] at c20
  exact ⟨_, (f8IN rw st n cw n2 cv a b c d tabC (spL n w) (spL n2 v) _).mpr ⟨fun _ => ⟨C11t_ok, rfl, rfl⟩, fun _ => ⟨c20, rfl, C11t_ok, rfl, rfl⟩⟩⟩
 | true =>
  rw [hok] at c20
  exact ⟨_, (f8MN rw st n cw n2 cv a b c d tabC (spL n w) (spL n2 v) _).mpr ⟨fun _ => ⟨C11t_ok, rfl, rfl⟩, fun _ => ⟨c20, rfl, C11t_ok, rfl, rfl⟩⟩⟩
theorem l8nnN : ∃ hs, vx.call 8 [.agg ⟨[I rw, I st, nilS, nilS, nilS]⟩, .int .u8 a, .int .u8 b, .int .u8 c, .int .u8 d] (retK fun r => r = .ret (.bool true)) (mQ0 tabC) hs := by
 refine ⟨_, (f8nnN rw st a b c d tabC _).mpr ?_⟩
 repeat' (first | with_reducible apply And.intro | with_reducible intro)
 all_goals first
  | exact C11t_ok
  | exact rfl
  | trivial
  | rfl
theorem l8nvN {c1 : Nat} : ∃ hs, vx.call 8 [.agg ⟨[I rw, I st, nilS, slV 3 0 c1, nilS]⟩, .int .u8 a, .int .u8 b, .int .u8 c, .int .u8 d] (retK fun r => r = .ret (.bool true)) (mQ0 tabC) hs := by
 refine ⟨_, (f8nvN rw st c1 a b c d tabC _).mpr ?_⟩
 repeat' (first | with_reducible apply And.intro | with_reducible intro)
 all_goals first
  | exact C11t_ok
  | exact rfl
  | trivial
  | rfl
theorem l8wnN {c1 : Nat} : ∃ hs, vx.call 8 [.agg ⟨[I rw, I st, slV 2 0 c1, nilS, nilS]⟩, .int .u8 a, .int .u8 b, .int .u8 c, .int .u8 d] (retK fun r => r = .ret (.bool true)) (mQ0 tabC) hs := by
 refine ⟨_, (f8wnN rw st c1 a b c d tabC _).mpr ?_⟩
 repeat' (first | with_reducible apply And.intro | with_reducible intro)
 all_goals first
  | exact C11t_ok
  | exact rfl
  | trivial
  | rfl
theorem l8nkP (h : n ≠ 0) : ∃ hs, vx.call 8 [.agg ⟨[I rw, I st, nilS, slV 3 n cv, slV 4 m cu]⟩, .int .u8 a, .int .u8 b, .int .u8 c, .int .u8 d] (retK fun r => r = .ret (.bool true)) (mQ0 tabC) hs := by
 refine ⟨_, (f8nkP rw st n cv m cu a b c d tabC _).mpr ?_⟩
 repeat' (first | with_reducible apply And.intro | with_reducible intro)
 all_goals first
  | exact C11t_ok
  | exact tt (lne (b := 0) h)
  | trivial
  | rfl
theorem l8nkN (h : n ≠ 0) : ∃ hs, vx.call 8 [.agg ⟨[I rw, I st, nilS, slV 3 n cv, nilS]⟩, .int .u8 a, .int .u8 b, .int .u8 c, .int .u8 d] (retK fun r => r = .ret (.bool true)) (mQ0 tabC) hs := by
 refine ⟨_, (f8nkN rw st n cv a b c d tabC _).mpr ?_⟩
 repeat' (first | with_reducible apply And.intro | with_reducible intro)
 all_goals first
  | exact C11t_ok
  | exact tt (lne (b := 0) h)
  | trivial
  | rfl
theorem l8knP (h : 0 ≠ n) : ∃ hs, vx.call 8 [.agg ⟨[I rw, I st, slV 2 n cw, nilS, slV 4 m cu]⟩, .int .u8 a, .int .u8 b, .int .u8 c, .int .u8 d] (retK fun r => r = .ret (.bool true)) (mQ0 tabC) hs := by
 refine ⟨_, (f8knP rw st n cw m cu a b c d tabC _).mpr ?_⟩
 repeat' (first | with_reducible apply And.intro | with_reducible intro)
 all_goals first
  | exact C11t_ok
  | exact tt (lne (a := 0) h)
  | trivial
  | rfl
theorem l8knN (h : 0 ≠ n) : ∃ hs, vx.call 8 [.agg ⟨[I rw, I st, slV 2 n cw, nilS, nilS]⟩, .int .u8 a, .int .u8 b, .int .u8 c, .int .u8 d] (retK fun r => r = .ret (.bool true)) (mQ0 tabC) hs := by
 refine ⟨_, (f8knN rw st n cw a b c d tabC _).mpr ?_⟩
 repeat' (first | with_reducible apply And.intro | with_reducible intro)
 all_goals first
  | exact C11t_ok
  | exact tt (lne (a := 0) h)
  | trivial
  | rfl
end
end Go.Ab
set_option maxRecDepth 100000
namespace Go.Ab
open Go Go.RowKit Go.Proofs
section
variable {W : World}
theorem more_args {m : NMap} {rw st j1 j2 j3 j4 : Int} {A B C a b c : Value} (ha : VRel m A a) (hb : VRel m B b) (hc : VRel m C c) :
    VsRel m [.agg ⟨[I rw, I st, A, B, C]⟩, .int .u8 j1, .int .u8 j2, .int .u8 j3, .int .u8 j4] [.agg ⟨[I rw, I st, a, b, c]⟩, .int .u8 j1, .int .u8 j2, .int .u8 j3, .int .u8 j4] :=
 .agg (.atom rfl (.atom rfl (VsRel.cons ha (VsRel.cons hb hc)))) (.atom rfl (.atom rfl (.atom rfl (.atom rfl .nil))))
theorem go8 (hT : RcHolds W gl1) {rw st : Int} {j1 j2 j3 j4 : Nat} {A B C a b c : Value} {z2 z3 z4 : RoC} (h2 : RcHolds W z2) (h3 : RcHolds W z3) (h4 : RcHolds W z4)
    (ha : ∀ m : NMap, m 2 = some z2.1 → VRel m A a) (hb : ∀ m : NMap, m 3 = some z3.1 → VRel m B b) (hc : ∀ m : NMap, m 4 = some z4.1 → VRel m C c)
    (hr : ∃ hs, vx.call 8 [.agg ⟨[I rw, I st, A, B, C]⟩, .int .u8 j1, .int .u8 j2, .int .u8 j3, .int .u8 j4] (retK fun r => r = .ret (.bool true)) (wlM [gl0, gl1, z2, z3, z4]) hs) :
    Calls Tryd.prog 8 #[.agg #[I rw, I st, a, b, c], .int .u8 j1, .int .u8 j2, .int .u8 j3, .int .u8 j4] W fun e W' => e = .returned (.bool true) ∧ Below W.heap.size W W' := by
 refine calls_wl (l := [gl0, gl1, z2, z3, z4]) (args' := [.agg ⟨[I rw, I st, a, b, c]⟩, .int .u8 j1, .int .u8 j2, .int .u8 j3, .int .u8 j4]) (Nat.le_of_ble_eq_true rfl) (fun x hx => ?_) gl_ok (more_args (ha _ rfl) (hb _ rfl) (hc _ rfl)) hr
 simp only [List.mem_cons, List.not_mem_nil, or_false] at hx
 rcases hx with rfl | rfl | rfl | rfl | rfl
 · exact holds_none rfl
 · exact hT
 · exact h2
 · exact h3
 · exact h4
theorem run8 (hT : RcHolds W gl1) {rw st : Int} {j1 j2 j3 j4 : Nat} {a b c : Value} (ha : SpsIn W a) (hb : SpsIn W b) (hc : HutsIn W c) (h2 : j2 < 256) (h3 : j3 < 256) (h4 : j4 < 256) :
    Calls Tryd.prog 8 #[.agg #[I rw, I st, a, b, c], .int .u8 j1, .int .u8 j2, .int .u8 j3, .int .u8 j4] W fun e W' => e = .returned (.bool true) ∧ Below W.heap.size W W' := by
 have h0 : RcHolds W no0 := holds_none rfl
 have hn : ∀ F : BInfo, RcHolds W (F, none) := fun F => holds_none rfl
 rcases ha with rfl | ⟨n, w, F2, cw, hF2, ha⟩
 · rcases hb with rfl | ⟨n2, v, F3, cv, hF3, hb⟩
   · rcases hc with rfl | ⟨m, u, F4, cu, hF4, hc⟩
     · exact go8 hT (z2 := no0) (z3 := no0) (z4 := no0) h0 h0 h0 (fun _ _ => nil_rel) (fun _ _ => nil_rel) (fun _ _ => nil_rel) l8nnN
     · exact go8 hT (z2 := no0) (z3 := no0) (z4 := (F4, some (raL m u, 1))) h0 h0 hF4 (fun _ _ => nil_rel) (fun _ _ => nil_rel) (hc 4) (law8n (c1 := 0))
   · by_cases e : n2 = 0
     · subst e
       rcases hc with rfl | ⟨m, u, F4, cu, hF4, hc⟩
       · exact go8 hT (z2 := no0) (z3 := (F3, none)) (z4 := no0) h0 (hn _) h0 (fun _ _ => nil_rel) (hb 3) (fun _ _ => nil_rel) l8nvN
       · exact go8 hT (z2 := no0) (z3 := (F3, none)) (z4 := (F4, some (raL m u, 1))) h0 (hn _) hF4 (fun _ _ => nil_rel) (hb 3) (hc 4) (law8v)
     · rcases hc with rfl | ⟨m, u, F4, cu, hF4, hc⟩
       · exact go8 hT (z2 := no0) (z3 := (F3, none)) (z4 := no0) h0 (hn _) h0 (fun _ _ => nil_rel) (hb 3) (fun _ _ => nil_rel) (l8nkN e)
       · exact go8 hT (z2 := no0) (z3 := (F3, none)) (z4 := (F4, none)) h0 (hn _) (hn _) (fun _ _ => nil_rel) (hb 3) (hc 4) (l8nkP e)
 · rcases hb with rfl | ⟨n2, v, F3, cv, hF3, hb⟩
   · by_cases e : 0 = n
     · subst e
       rcases hc with rfl | ⟨m, u, F4, cu, hF4, hc⟩
       · exact go8 hT (z2 := (F2, none)) (z3 := no0) (z4 := no0) (hn _) h0 h0 (ha 2) (fun _ _ => nil_rel) (fun _ _ => nil_rel) l8wnN
       · exact go8 hT (z2 := (F2, none)) (z3 := no0) (z4 := (F4, some (raL m u, 1))) (hn _) h0 hF4 (ha 2) (fun _ _ => nil_rel) (hc 4) (law8w)
     · rcases hc with rfl | ⟨m, u, F4, cu, hF4, hc⟩
       · exact go8 hT (z2 := (F2, none)) (z3 := no0) (z4 := no0) (hn _) h0 h0 (ha 2) (fun _ _ => nil_rel) (fun _ _ => nil_rel) (l8knN e)
       · exact go8 hT (z2 := (F2, none)) (z3 := no0) (z4 := (F4, none)) (hn _) h0 (hn _) (ha 2) (fun _ _ => nil_rel) (hc 4) (l8knP e)
   · rcases hc with rfl | ⟨m, u, F4, cu, hF4, hc⟩
     · exact go8 hT (z2 := (F2, some (spL n w, 1))) (z3 := (F3, some (spL n2 v, 1))) (z4 := no0) hF2 hF3 h0 (ha 2) (hb 3) (fun _ _ => nil_rel) law8N
     · exact go8 hT (z2 := (F2, some (spL n w, 1))) (z3 := (F3, some (spL n2 v, 1))) (z4 := (F4, some (raL m u, 1))) hF2 hF3 hF4 (ha 2) (hb 3) (hc 4) (law8R h2 h3 h4)
end
end Go.Ab
namespace Go.Ab
open Go Go.RowKit Go.Lib
theorem laidMet_tail {P : Program} {x : String × DataW Unit} {rest : List (String × DataW Unit)} {W : World} (h : laidMet P (x :: rest) W) : laidMet P rest W := by
 obtain ⟨ps, ⟨g, t, cs, fuel, p, q, hg, ht, hvar, hd, hrest, rfl⟩, hnd, hall⟩ := h
 refine ⟨q, hrest, (List.nodup_append.1 hnd).2.1, fun b off hm => hall b off (List.mem_append_right _ hm)⟩
end Go.Ab
