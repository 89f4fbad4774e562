/- package surf: SurfEnds, of surfs that are not valid, of no hours, of no huts, or of which slices are nil. -/
import Derived.Test.YtoelpblmhmhglaaDoorFI
import Derived.Test.YtoelpblmhmhglaaDoorFS
import Derived.Test.YtoelpblmhmhglaaDoorFH
import Derived.Test.YtoelpblmhmhglaaDoorEO
import Derived.Lib.LaidTab
set_option maxRecDepth 100000
namespace Go.Ab
open Go Go.RowKit Go.Proofs
theorem f5Ip (rw st : Int) (n cw n2 cv m cu : Nat) (wh : Int) (tb ws vs us : List Value) (R : ARes → Prop) : (vx.call 5 [suR rw st n cw n2 cv m cu, .int .u8 wh] (retK R) (mSu tb ws vs us) ([(21, .split ((9, .con (C11t tb)) :: []) ((4, .con (C20 rw st n cw n2 cv m cu ws vs us false)) :: (6, .con (C11t tb)) :: []))])) =
((((decide ((if (m : Int) > if (n2 : Int) > (n : Int) then (n2 : Int) else (n : Int) then (m : Int) else if (n2 : Int) > (n : Int) then (n2 : Int) else (n : Int)) > (40 : Int))) = true → ((ConOK Tryd.prog 11 (C11t tb)) ∧ (Con.pre (C11t tb) ⟨⟨[], []⟩, [(tb)]⟩) ∧
R (.ret (.bool true)))) ∧
((decide ((if (m : Int) > if (n2 : Int) > (n : Int) then (n2 : Int) else (n : Int) then (m : Int) else if (n2 : Int) > (n : Int) then (n2 : Int) else (n : Int)) > (40 : Int))) = false → ((ConOK Tryd.prog 20 (C20 rw st n cw n2 cv m cu ws vs us false)) ∧ (Con.pre (C20 rw st n cw n2 cv m cu ws vs us false) ⟨⟨[(I rw), (I st)], [⟨n, cw⟩, ⟨n2, cv⟩, ⟨m, cu⟩]⟩, [(ws), (vs), (us)]⟩) ∧
((ConOK Tryd.prog 11 (C11t tb)) ∧ (Con.pre (C11t tb) ⟨⟨[], []⟩, [(tb)]⟩) ∧
R (.ret (.bool true))))))) := by kernel_rfl
theorem f5Mp (rw st : Int) (n cw n2 cv cu : Nat) (wh : Int) (tb ws vs us : List Value) (R : ARes → Prop) : (vx.call 5 [suR rw st n cw n2 cv 0 cu, .int .u8 wh] (retK R) (mSu tb ws vs us) ([(21, .split ((9, .con (C11t tb)) :: []) ((4, .con (C20 rw st n cw n2 cv 0 cu ws vs us true)) :: (10, .con (C11t tb)) :: []))])) =
((((decide ((if (↑(0 : Nat) : Int) > if (n2 : Int) > (n : Int) then (n2 : Int) else (n : Int) then (↑(0 : Nat) : Int) else if (n2 : Int) > (n : Int) then (n2 : Int) else (n : Int)) > (40 : Int))) = true → ((ConOK Tryd.prog 11 (C11t tb)) ∧ (Con.pre (C11t tb) ⟨⟨[], []⟩, [(tb)]⟩) ∧
R (.ret (.bool true)))) ∧
((decide ((if (↑(0 : Nat) : Int) > if (n2 : Int) > (n : Int) then (n2 : Int) else (n : Int) then (↑(0 : Nat) : Int) else if (n2 : Int) > (n : Int) then (n2 : Int) else (n : Int)) > (40 : Int))) = false → ((ConOK Tryd.prog 20 (C20 rw st n cw n2 cv 0 cu ws vs us true)) ∧ (Con.pre (C20 rw st n cw n2 cv 0 cu ws vs us true) ⟨⟨[(I rw), (I st)], [⟨n, cw⟩, ⟨n2, cv⟩, ⟨0, cu⟩]⟩, [(ws), (vs), (us)]⟩) ∧
((ConOK Tryd.prog 11 (C11t tb)) ∧ (Con.pre (C11t tb) ⟨⟨[], []⟩, [(tb)]⟩) ∧
R (.ret (.bool true))))))) := by kernel_rfl
theorem f5Dp (rw st : Int) (cw cv m cu hut : Nat) (wh : Int) (tb ws vs : List Value) (u : Nat → Hut) (R : ARes → Prop) : (vx.call 5 [suV rw st 0 cw cv m cu, .int .u8 wh] (retK R) (mSu tb ws vs (huL m u)) ([(21, .split ((9, .con (C11t tb)) :: []) ((4, .con (C20 rw st 0 cw 0 cv m cu ws vs (huL m u) true)) :: (7, .val (.bool false)) :: (21, .val (I hut)) :: (23, .val (.pointer (some ⟨4, 0 + hut * 3, none⟩))) :: (0, .val (.agg ⟨[(I ((u hut).fl)), (I ((u hut).br)), (I ((↑(u hut).row : Int)))]⟩)) :: (37, .con (CS1 rw st 0 cw cv m cu tb ws vs (huL m u) hut (.tuple ⟨[I 0, I 0, I 0]⟩))) :: (35, .con (C11t tb)) :: []))])) =
((((decide ((if (m : Int) > if (↑(0 : Nat) : Int) > (↑(0 : Nat) : Int) then (↑(0 : Nat) : Int) else (↑(0 : Nat) : Int) then (m : Int) else if (↑(0 : Nat) : Int) > (↑(0 : Nat) : Int) then (↑(0 : Nat) : Int) else (↑(0 : Nat) : Int)) > (40 : Int))) = true → ((ConOK Tryd.prog 11 (C11t tb)) ∧ (Con.pre (C11t tb) ⟨⟨[], []⟩, [(tb)]⟩) ∧
R (.ret (.bool true)))) ∧
((decide ((if (m : Int) > if (↑(0 : Nat) : Int) > (↑(0 : Nat) : Int) then (↑(0 : Nat) : Int) else (↑(0 : Nat) : Int) then (m : Int) else if (↑(0 : Nat) : Int) > (↑(0 : Nat) : Int) then (↑(0 : Nat) : Int) else (↑(0 : Nat) : Int)) > (40 : Int))) = false → ((ConOK Tryd.prog 20 (C20 rw st 0 cw 0 cv m cu ws vs (huL m u) true)) ∧ (Con.pre (C20 rw st 0 cw 0 cv m cu ws vs (huL m u) true) ⟨⟨[(I rw), (I st)], [⟨0, cw⟩, ⟨0, cv⟩, ⟨m, cu⟩]⟩, [(ws), (vs), (huL m u)]⟩) ∧
((((some (.bool ((m : Int) == 0)) : Option Value) = some (.bool false))) ∧
((((((m : Int) ≠ (0 : Int))) ∧ ((IntKind.i64 = IntKind.i64))) ∧ (((I hut) : Value) = (I ((IntKind.i64.wrap wh).tmod (m : Int))))) ∧
((((((0 : Int) ≤ hut)) ∧ (((hut : Int) < m))) ∧ (((.pointer (some ⟨4, 0 + hut * 3, none⟩)) : Value) = (.pointer (some ⟨4, 0 + hut * 3, none⟩)))) ∧
((((0 + hut * 3 + 3 ≤ (huL m u).length)) ∧ (((.agg ⟨[(I ((u hut).fl)), (I ((u hut).br)), (I ((↑(u hut).row : Int)))]⟩) : Value) = (.agg ⟨(List.take 3 (List.drop (0 + hut * 3) (huL m u)))⟩))) ∧
((ConOK Tryd.prog 14 (CS1 rw st 0 cw cv m cu tb ws vs (huL m u) hut (.tuple ⟨[I 0, I 0, I 0]⟩))) ∧ (Con.pre (CS1 rw st 0 cw cv m cu tb ws vs (huL m u) hut (.tuple ⟨[I 0, I 0, I 0]⟩)) ⟨⟨[(I rw), (I st), (I hut)], [⟨0, cw⟩, ⟨0, cv⟩, ⟨m, cu⟩]⟩, [(tb), (ws), (vs), (huL m u)]⟩) ∧
((ConOK Tryd.prog 11 (C11t tb)) ∧ (Con.pre (C11t tb) ⟨⟨[], []⟩, [(tb)]⟩) ∧
R (.ret (.bool true)))))))))))) := by kernel_rfl
theorem f5IN (rw st : Int) (n cw n2 cv : Nat) (wh : Int) (tb ws vs : List Value) (R : ARes → Prop) : (vx.call 5 [suN rw st n cw n2 cv, .int .u8 wh] (retK R) (mQN tb ws vs) ([(21, .split ((9, .con (C11t tb)) :: []) ((4, .con (C20N rw st n cw n2 cv ws vs false)) :: (6, .con (C11t tb)) :: []))])) =
((((decide ((if (↑(0 : Nat) : Int) > if (n2 : Int) > (n : Int) then (n2 : Int) else (n : Int) then (↑(0 : Nat) : Int) else if (n2 : Int) > (n : Int) then (n2 : Int) else (n : Int)) > (40 : Int))) = true → ((ConOK Tryd.prog 11 (C11t tb)) ∧ (Con.pre (C11t tb) ⟨⟨[], []⟩, [(tb)]⟩) ∧
R (.ret (.bool true)))) ∧
((decide ((if (↑(0 : Nat) : Int) > if (n2 : Int) > (n : Int) then (n2 : Int) else (n : Int) then (↑(0 : Nat) : Int) else if (n2 : Int) > (n : Int) then (n2 : Int) else (n : Int)) > (40 : Int))) = false → ((ConOK Tryd.prog 20 (C20N rw st n cw n2 cv ws vs false)) ∧ (Con.pre (C20N rw st n cw n2 cv ws vs false) ⟨⟨[(I rw), (I st)], [⟨n, cw⟩, ⟨n2, cv⟩]⟩, [(ws), (vs)]⟩) ∧
((ConOK Tryd.prog 11 (C11t tb)) ∧ (Con.pre (C11t tb) ⟨⟨[], []⟩, [(tb)]⟩) ∧
R (.ret (.bool true))))))) := by kernel_rfl
theorem f5MN (rw st : Int) (n cw n2 cv : Nat) (wh : Int) (tb ws vs : List Value) (R : ARes → Prop) : (vx.call 5 [suN rw st n cw n2 cv, .int .u8 wh] (retK R) (mQN tb ws vs) ([(21, .split ((9, .con (C11t tb)) :: []) ((4, .con (C20N rw st n cw n2 cv ws vs true)) :: (10, .con (C11t tb)) :: []))])) =
((((decide ((if (↑(0 : Nat) : Int) > if (n2 : Int) > (n : Int) then (n2 : Int) else (n : Int) then (↑(0 : Nat) : Int) else if (n2 : Int) > (n : Int) then (n2 : Int) else (n : Int)) > (40 : Int))) = true → ((ConOK Tryd.prog 11 (C11t tb)) ∧ (Con.pre (C11t tb) ⟨⟨[], []⟩, [(tb)]⟩) ∧
R (.ret (.bool true)))) ∧
((decide ((if (↑(0 : Nat) : Int) > if (n2 : Int) > (n : Int) then (n2 : Int) else (n : Int) then (↑(0 : Nat) : Int) else if (n2 : Int) > (n : Int) then (n2 : Int) else (n : Int)) > (40 : Int))) = false → ((ConOK Tryd.prog 20 (C20N rw st n cw n2 cv ws vs true)) ∧ (Con.pre (C20N rw st n cw n2 cv ws vs true) ⟨⟨[(I rw), (I st)], [⟨n, cw⟩, ⟨n2, cv⟩]⟩, [(ws), (vs)]⟩) ∧
((ConOK Tryd.prog 11 (C11t tb)) ∧ (Con.pre (C11t tb) ⟨⟨[], []⟩, [(tb)]⟩) ∧
R (.ret (.bool true))))))) := by kernel_rfl
theorem f5In (rw st : Int) (c1 m cu : Nat) (wh : Int) (tb us : List Value) (R : ARes → Prop) : (vx.call 5 [su_n rw st c1 m cu, .int .u8 wh] (retK R) (mQH tb us) ([(21, .split ((9, .con (C11t tb)) :: []) ((4, .con (C20n rw st c1 m cu us false)) :: (6, .con (C11t tb)) :: []))])) =
((((decide ((if (m : Int) > if (↑(0 : Nat) : Int) > (↑(0 : Nat) : Int) then (↑(0 : Nat) : Int) else (↑(0 : Nat) : Int) then (m : Int) else if (↑(0 : Nat) : Int) > (↑(0 : Nat) : Int) then (↑(0 : Nat) : Int) else (↑(0 : Nat) : Int)) > (40 : Int))) = true → ((ConOK Tryd.prog 11 (C11t tb)) ∧ (Con.pre (C11t tb) ⟨⟨[], []⟩, [(tb)]⟩) ∧
R (.ret (.bool true)))) ∧
((decide ((if (m : Int) > if (↑(0 : Nat) : Int) > (↑(0 : Nat) : Int) then (↑(0 : Nat) : Int) else (↑(0 : Nat) : Int) then (m : Int) else if (↑(0 : Nat) : Int) > (↑(0 : Nat) : Int) then (↑(0 : Nat) : Int) else (↑(0 : Nat) : Int)) > (40 : Int))) = false → ((ConOK Tryd.prog 20 (C20n rw st c1 m cu us false)) ∧ (Con.pre (C20n rw st c1 m cu us false) ⟨⟨[(I rw), (I st)], [⟨m, cu⟩]⟩, [(us)]⟩) ∧
((ConOK Tryd.prog 11 (C11t tb)) ∧ (Con.pre (C11t tb) ⟨⟨[], []⟩, [(tb)]⟩) ∧
R (.ret (.bool true))))))) := by kernel_rfl
theorem f5Mn (rw st : Int) (c1 cu : Nat) (wh : Int) (tb us : List Value) (R : ARes → Prop) : (vx.call 5 [su_n rw st c1 0 cu, .int .u8 wh] (retK R) (mQH tb us) ((26, .con (C20n rw st c1 0 cu us true)) :: (10, .con (C11t tb)) :: [])) =
(((ConOK Tryd.prog 20 (C20n rw st c1 0 cu us true)) ∧ (Con.pre (C20n rw st c1 0 cu us true) ⟨⟨[(I rw), (I st)], [⟨0, cu⟩]⟩, [(us)]⟩) ∧
((ConOK Tryd.prog 11 (C11t tb)) ∧ (Con.pre (C11t tb) ⟨⟨[], []⟩, [(tb)]⟩) ∧
R (.ret (.bool true))))) := by kernel_rfl
theorem f5Dn (rw st : Int) (c1 m cu : Nat) (hut : Nat) (wh : Int) (tb : List Value) (u : Nat → Hut) (R : ARes → Prop) : (vx.call 5 [su_n rw st c1 m cu, .int .u8 wh] (retK R) (mQH tb (huL m u)) ([(21, .split ((9, .con (C11t tb)) :: []) ((4, .con (C20n rw st c1 m cu (huL m u) true)) :: (7, .val (.bool false)) :: (21, .val (I hut)) :: (23, .val (.pointer (some ⟨4, 0 + hut * 3, none⟩))) :: (0, .val (.agg ⟨[(I ((u hut).fl)), (I ((u hut).br)), (I ((↑(u hut).row : Int)))]⟩)) :: (37, .con (CSn rw st c1 m cu (huL m u) hut (.tuple ⟨[I 0, I 0, I 0]⟩))) :: (35, .con (C11t tb)) :: []))])) =
((((decide ((if (m : Int) > if (↑(0 : Nat) : Int) > (↑(0 : Nat) : Int) then (↑(0 : Nat) : Int) else (↑(0 : Nat) : Int) then (m : Int) else if (↑(0 : Nat) : Int) > (↑(0 : Nat) : Int) then (↑(0 : Nat) : Int) else (↑(0 : Nat) : Int)) > (40 : Int))) = true → ((ConOK Tryd.prog 11 (C11t tb)) ∧ (Con.pre (C11t tb) ⟨⟨[], []⟩, [(tb)]⟩) ∧
R (.ret (.bool true)))) ∧
((decide ((if (m : Int) > if (↑(0 : Nat) : Int) > (↑(0 : Nat) : Int) then (↑(0 : Nat) : Int) else (↑(0 : Nat) : Int) then (m : Int) else if (↑(0 : Nat) : Int) > (↑(0 : Nat) : Int) then (↑(0 : Nat) : Int) else (↑(0 : Nat) : Int)) > (40 : Int))) = false → ((ConOK Tryd.prog 20 (C20n rw st c1 m cu (huL m u) true)) ∧ (Con.pre (C20n rw st c1 m cu (huL m u) true) ⟨⟨[(I rw), (I st)], [⟨m, cu⟩]⟩, [(huL m u)]⟩) ∧
((((some (.bool ((m : Int) == 0)) : Option Value) = some (.bool false))) ∧
((((((m : Int) ≠ (0 : Int))) ∧ ((IntKind.i64 = IntKind.i64))) ∧ (((I hut) : Value) = (I ((IntKind.i64.wrap wh).tmod (m : Int))))) ∧
((((((0 : Int) ≤ hut)) ∧ (((hut : Int) < m))) ∧ (((.pointer (some ⟨4, 0 + hut * 3, none⟩)) : Value) = (.pointer (some ⟨4, 0 + hut * 3, none⟩)))) ∧
((((0 + hut * 3 + 3 ≤ (huL m u).length)) ∧ (((.agg ⟨[(I ((u hut).fl)), (I ((u hut).br)), (I ((↑(u hut).row : Int)))]⟩) : Value) = (.agg ⟨(List.take 3 (List.drop (0 + hut * 3) (huL m u)))⟩))) ∧
((ConOK Tryd.prog 14 (CSn rw st c1 m cu (huL m u) hut (.tuple ⟨[I 0, I 0, I 0]⟩))) ∧ (Con.pre (CSn rw st c1 m cu (huL m u) hut (.tuple ⟨[I 0, I 0, I 0]⟩)) ⟨⟨[(I rw), (I st), (I hut)], [⟨m, cu⟩]⟩, [(huL m u)]⟩) ∧
((ConOK Tryd.prog 11 (C11t tb)) ∧ (Con.pre (C11t tb) ⟨⟨[], []⟩, [(tb)]⟩) ∧
R (.ret (.bool true)))))))))))) := by kernel_rfl
theorem f5Iv (rw st : Int) (c1 m cu : Nat) (wh : Int) (tb us : List Value) (R : ARes → Prop) : (vx.call 5 [su_v rw st c1 m cu, .int .u8 wh] (retK R) (mQH tb us) ([(21, .split ((9, .con (C11t tb)) :: []) ((4, .con (C20v rw st c1 m cu us false)) :: (6, .con (C11t tb)) :: []))])) =
((((decide ((if (m : Int) > if (↑(0 : Nat) : Int) > (↑(0 : Nat) : Int) then (↑(0 : Nat) : Int) else (↑(0 : Nat) : Int) then (m : Int) else if (↑(0 : Nat) : Int) > (↑(0 : Nat) : Int) then (↑(0 : Nat) : Int) else (↑(0 : Nat) : Int)) > (40 : Int))) = true → ((ConOK Tryd.prog 11 (C11t tb)) ∧ (Con.pre (C11t tb) ⟨⟨[], []⟩, [(tb)]⟩) ∧
R (.ret (.bool true)))) ∧
((decide ((if (m : Int) > if (↑(0 : Nat) : Int) > (↑(0 : Nat) : Int) then (↑(0 : Nat) : Int) else (↑(0 : Nat) : Int) then (m : Int) else if (↑(0 : Nat) : Int) > (↑(0 : Nat) : Int) then (↑(0 : Nat) : Int) else (↑(0 : Nat) : Int)) > (40 : Int))) = false → ((ConOK Tryd.prog 20 (C20v rw st c1 m cu us false)) ∧ (Con.pre (C20v rw st c1 m cu us false) ⟨⟨[(I rw), (I st)], [⟨0, c1⟩, ⟨m, cu⟩]⟩, [(us)]⟩) ∧
((ConOK Tryd.prog 11 (C11t tb)) ∧ (Con.pre (C11t tb) ⟨⟨[], []⟩, [(tb)]⟩) ∧
R (.ret (.bool true))))))) := by kernel_rfl
theorem f5Mv (rw st : Int) (c1 cu : Nat) (wh : Int) (tb us : List Value) (R : ARes → Prop) : (vx.call 5 [su_v rw st c1 0 cu, .int .u8 wh] (retK R) (mQH tb us) ((26, .con (C20v rw st c1 0 cu us true)) :: (10, .con (C11t tb)) :: [])) =
(((ConOK Tryd.prog 20 (C20v rw st c1 0 cu us true)) ∧ (Con.pre (C20v rw st c1 0 cu us true) ⟨⟨[(I rw), (I st)], [⟨0, c1⟩, ⟨0, cu⟩]⟩, [(us)]⟩) ∧
((ConOK Tryd.prog 11 (C11t tb)) ∧ (Con.pre (C11t tb) ⟨⟨[], []⟩, [(tb)]⟩) ∧
R (.ret (.bool true))))) := by kernel_rfl
theorem f5Dv (rw st : Int) (c1 m cu : Nat) (hut : Nat) (wh : Int) (tb : List Value) (u : Nat → Hut) (R : ARes → Prop) : (vx.call 5 [su_v rw st c1 m cu, .int .u8 wh] (retK R) (mQH tb (huL m u)) ([(21, .split ((9, .con (C11t tb)) :: []) ((4, .con (C20v rw st c1 m cu (huL m u) true)) :: (7, .val (.bool false)) :: (21, .val (I hut)) :: (23, .val (.pointer (some ⟨4, 0 + hut * 3, none⟩))) :: (0, .val (.agg ⟨[(I ((u hut).fl)), (I ((u hut).br)), (I ((↑(u hut).row : Int)))]⟩)) :: (37, .con (CSv rw st c1 m cu (huL m u) hut (.tuple ⟨[I 0, I 0, I 0]⟩))) :: (35, .con (C11t tb)) :: []))])) =
((((decide ((if (m : Int) > if (↑(0 : Nat) : Int) > (↑(0 : Nat) : Int) then (↑(0 : Nat) : Int) else (↑(0 : Nat) : Int) then (m : Int) else if (↑(0 : Nat) : Int) > (↑(0 : Nat) : Int) then (↑(0 : Nat) : Int) else (↑(0 : Nat) : Int)) > (40 : Int))) = true → ((ConOK Tryd.prog 11 (C11t tb)) ∧ (Con.pre (C11t tb) ⟨⟨[], []⟩, [(tb)]⟩) ∧
R (.ret (.bool true)))) ∧
((decide ((if (m : Int) > if (↑(0 : Nat) : Int) > (↑(0 : Nat) : Int) then (↑(0 : Nat) : Int) else (↑(0 : Nat) : Int) then (m : Int) else if (↑(0 : Nat) : Int) > (↑(0 : Nat) : Int) then (↑(0 : Nat) : Int) else (↑(0 : Nat) : Int)) > (40 : Int))) = false → ((ConOK Tryd.prog 20 (C20v rw st c1 m cu (huL m u) true)) ∧ (Con.pre (C20v rw st c1 m cu (huL m u) true) ⟨⟨[(I rw), (I st)], [⟨0, c1⟩, ⟨m, cu⟩]⟩, [(huL m u)]⟩) ∧
((((some (.bool ((m : Int) == 0)) : Option Value) = some (.bool false))) ∧
((((((m : Int) ≠ (0 : Int))) ∧ ((IntKind.i64 = IntKind.i64))) ∧ (((I hut) : Value) = (I ((IntKind.i64.wrap wh).tmod (m : Int))))) ∧
((((((0 : Int) ≤ hut)) ∧ (((hut : Int) < m))) ∧ (((.pointer (some ⟨4, 0 + hut * 3, none⟩)) : Value) = (.pointer (some ⟨4, 0 + hut * 3, none⟩)))) ∧
((((0 + hut * 3 + 3 ≤ (huL m u).length)) ∧ (((.agg ⟨[(I ((u hut).fl)), (I ((u hut).br)), (I ((↑(u hut).row : Int)))]⟩) : Value) = (.agg ⟨(List.take 3 (List.drop (0 + hut * 3) (huL m u)))⟩))) ∧
((ConOK Tryd.prog 14 (CSv rw st c1 m cu (huL m u) hut (.tuple ⟨[I 0, I 0, I 0]⟩))) ∧ (Con.pre (CSv rw st c1 m cu (huL m u) hut (.tuple ⟨[I 0, I 0, I 0]⟩)) ⟨⟨[(I rw), (I st), (I hut)], [⟨0, c1⟩, ⟨m, cu⟩]⟩, [(huL m u)]⟩) ∧
((ConOK Tryd.prog 11 (C11t tb)) ∧ (Con.pre (C11t tb) ⟨⟨[], []⟩, [(tb)]⟩) ∧
R (.ret (.bool true)))))))))))) := by kernel_rfl
theorem f5Iw (rw st : Int) (c1 m cu : Nat) (wh : Int) (tb us : List Value) (R : ARes → Prop) : (vx.call 5 [su_w rw st c1 m cu, .int .u8 wh] (retK R) (mQH tb us) ([(21, .split ((9, .con (C11t tb)) :: []) ((4, .con (C20w rw st c1 m cu us false)) :: (6, .con (C11t tb)) :: []))])) =
((((decide ((if (m : Int) > if (↑(0 : Nat) : Int) > (↑(0 : Nat) : Int) then (↑(0 : Nat) : Int) else (↑(0 : Nat) : Int) then (m : Int) else if (↑(0 : Nat) : Int) > (↑(0 : Nat) : Int) then (↑(0 : Nat) : Int) else (↑(0 : Nat) : Int)) > (40 : Int))) = true → ((ConOK Tryd.prog 11 (C11t tb)) ∧ (Con.pre (C11t tb) ⟨⟨[], []⟩, [(tb)]⟩) ∧
R (.ret (.bool true)))) ∧
((decide ((if (m : Int) > if (↑(0 : Nat) : Int) > (↑(0 : Nat) : Int) then (↑(0 : Nat) : Int) else (↑(0 : Nat) : Int) then (m : Int) else if (↑(0 : Nat) : Int) > (↑(0 : Nat) : Int) then (↑(0 : Nat) : Int) else (↑(0 : Nat) : Int)) > (40 : Int))) = false → ((ConOK Tryd.prog 20 (C20w rw st c1 m cu us false)) ∧ (Con.pre (C20w rw st c1 m cu us false) ⟨⟨[(I rw), (I st)], [⟨0, c1⟩, ⟨m, cu⟩]⟩, [(us)]⟩) ∧
((ConOK Tryd.prog 11 (C11t tb)) ∧ (Con.pre (C11t tb) ⟨⟨[], []⟩, [(tb)]⟩) ∧
R (.ret (.bool true))))))) := by kernel_rfl
theorem f5Mw (rw st : Int) (c1 cu : Nat) (wh : Int) (tb us : List Value) (R : ARes → Prop) : (vx.call 5 [su_w rw st c1 0 cu, .int .u8 wh] (retK R) (mQH tb us) ((26, .con (C20w rw st c1 0 cu us true)) :: (10, .con (C11t tb)) :: [])) =
(((ConOK Tryd.prog 20 (C20w rw st c1 0 cu us true)) ∧ (Con.pre (C20w rw st c1 0 cu us true) ⟨⟨[(I rw), (I st)], [⟨0, c1⟩, ⟨0, cu⟩]⟩, [(us)]⟩) ∧
((ConOK Tryd.prog 11 (C11t tb)) ∧ (Con.pre (C11t tb) ⟨⟨[], []⟩, [(tb)]⟩) ∧
R (.ret (.bool true))))) := by kernel_rfl
theorem f5Dw (rw st : Int) (c1 m cu : Nat) (hut : Nat) (wh : Int) (tb : List Value) (u : Nat → Hut) (R : ARes → Prop) : (vx.call 5 [su_w rw st c1 m cu, .int .u8 wh] (retK R) (mQH tb (huL m u)) ([(21, .split ((9, .con (C11t tb)) :: []) ((4, .con (C20w rw st c1 m cu (huL m u) true)) :: (7, .val (.bool false)) :: (21, .val (I hut)) :: (23, .val (.pointer (some ⟨4, 0 + hut * 3, none⟩))) :: (0, .val (.agg ⟨[(I ((u hut).fl)), (I ((u hut).br)), (I ((↑(u hut).row : Int)))]⟩)) :: (37, .con (CSw rw st c1 m cu (huL m u) hut (.tuple ⟨[I 0, I 0, I 0]⟩))) :: (35, .con (C11t tb)) :: []))])) =
((((decide ((if (m : Int) > if (↑(0 : Nat) : Int) > (↑(0 : Nat) : Int) then (↑(0 : Nat) : Int) else (↑(0 : Nat) : Int) then (m : Int) else if (↑(0 : Nat) : Int) > (↑(0 : Nat) : Int) then (↑(0 : Nat) : Int) else (↑(0 : Nat) : Int)) > (40 : Int))) = true → ((ConOK Tryd.prog 11 (C11t tb)) ∧ (Con.pre (C11t tb) ⟨⟨[], []⟩, [(tb)]⟩) ∧
R (.ret (.bool true)))) ∧
((decide ((if (m : Int) > if (↑(0 : Nat) : Int) > (↑(0 : Nat) : Int) then (↑(0 : Nat) : Int) else (↑(0 : Nat) : Int) then (m : Int) else if (↑(0 : Nat) : Int) > (↑(0 : Nat) : Int) then (↑(0 : Nat) : Int) else (↑(0 : Nat) : Int)) > (40 : Int))) = false → ((ConOK Tryd.prog 20 (C20w rw st c1 m cu (huL m u) true)) ∧ (Con.pre (C20w rw st c1 m cu (huL m u) true) ⟨⟨[(I rw), (I st)], [⟨0, c1⟩, ⟨m, cu⟩]⟩, [(huL m u)]⟩) ∧
((((some (.bool ((m : Int) == 0)) : Option Value) = some (.bool false))) ∧
((((((m : Int) ≠ (0 : Int))) ∧ ((IntKind.i64 = IntKind.i64))) ∧ (((I hut) : Value) = (I ((IntKind.i64.wrap wh).tmod (m : Int))))) ∧
((((((0 : Int) ≤ hut)) ∧ (((hut : Int) < m))) ∧ (((.pointer (some ⟨4, 0 + hut * 3, none⟩)) : Value) = (.pointer (some ⟨4, 0 + hut * 3, none⟩)))) ∧
((((0 + hut * 3 + 3 ≤ (huL m u).length)) ∧ (((.agg ⟨[(I ((u hut).fl)), (I ((u hut).br)), (I ((↑(u hut).row : Int)))]⟩) : Value) = (.agg ⟨(List.take 3 (List.drop (0 + hut * 3) (huL m u)))⟩))) ∧
((ConOK Tryd.prog 14 (CSw rw st c1 m cu (huL m u) hut (.tuple ⟨[I 0, I 0, I 0]⟩))) ∧ (Con.pre (CSw rw st c1 m cu (huL m u) hut (.tuple ⟨[I 0, I 0, I 0]⟩)) ⟨⟨[(I rw), (I st), (I hut)], [⟨0, c1⟩, ⟨m, cu⟩]⟩, [(huL m u)]⟩) ∧
((ConOK Tryd.prog 11 (C11t tb)) ∧ (Con.pre (C11t tb) ⟨⟨[], []⟩, [(tb)]⟩) ∧
R (.ret (.bool true)))))))))))) := by kernel_rfl
theorem f5nnN (rw st : Int) (wh : Int) (tb : List Value) (R : ARes → Prop) : (vx.call 5 [.agg ⟨[I rw, I st, nilS, nilS, nilS]⟩, .int .u8 wh] (retK R) (mQ0 tb) ([(35, .split ([(3, .split ([(10, .split ([(3, .split ((53, .con (C11t tb)) :: []) ((18, .con (C11t tb)) :: []))]) ((19, .con (C11t tb)) :: []))]) ((19, .con (C11t tb)) :: []))]) ((20, .con (C11t tb)) :: []))])) =
((((decide ((1 : Int) ≤ rw)) = true → (((decide (rw ≤ (6 : Int))) = true → (((decide ((0 : Int) ≤ st)) = true → (((decide (st ≤ (4 : Int))) = true → ((ConOK Tryd.prog 11 (C11t tb)) ∧ (Con.pre (C11t tb) ⟨⟨[], []⟩, [(tb)]⟩) ∧
R (.ret (.bool true)))) ∧
((decide (st ≤ (4 : Int))) = false → ((ConOK Tryd.prog 11 (C11t tb)) ∧ (Con.pre (C11t tb) ⟨⟨[], []⟩, [(tb)]⟩) ∧
R (.ret (.bool true)))))) ∧
((decide ((0 : Int) ≤ st)) = false → ((ConOK Tryd.prog 11 (C11t tb)) ∧ (Con.pre (C11t tb) ⟨⟨[], []⟩, [(tb)]⟩) ∧
R (.ret (.bool true)))))) ∧
((decide (rw ≤ (6 : Int))) = false → ((ConOK Tryd.prog 11 (C11t tb)) ∧ (Con.pre (C11t tb) ⟨⟨[], []⟩, [(tb)]⟩) ∧
R (.ret (.bool true)))))) ∧
((decide ((1 : Int) ≤ rw)) = false → ((ConOK Tryd.prog 11 (C11t tb)) ∧ (Con.pre (C11t tb) ⟨⟨[], []⟩, [(tb)]⟩) ∧
R (.ret (.bool true)))))) := by kernel_rfl
theorem f5nvN (rw st : Int) (c1 : Nat) (wh : Int) (tb : List Value) (R : ARes → Prop) : (vx.call 5 [.agg ⟨[I rw, I st, nilS, slV 3 0 c1, nilS]⟩, .int .u8 wh] (retK R) (mQ0 tb) ([(35, .split ([(3, .split ([(10, .split ([(3, .split ((53, .con (C11t tb)) :: []) ((18, .con (C11t tb)) :: []))]) ((19, .con (C11t tb)) :: []))]) ((19, .con (C11t tb)) :: []))]) ((20, .con (C11t tb)) :: []))])) =
((((decide ((1 : Int) ≤ rw)) = true → (((decide (rw ≤ (6 : Int))) = true → (((decide ((0 : Int) ≤ st)) = true → (((decide (st ≤ (4 : Int))) = true → ((ConOK Tryd.prog 11 (C11t tb)) ∧ (Con.pre (C11t tb) ⟨⟨[], []⟩, [(tb)]⟩) ∧
R (.ret (.bool true)))) ∧
((decide (st ≤ (4 : Int))) = false → ((ConOK Tryd.prog 11 (C11t tb)) ∧ (Con.pre (C11t tb) ⟨⟨[], []⟩, [(tb)]⟩) ∧
R (.ret (.bool true)))))) ∧
((decide ((0 : Int) ≤ st)) = false → ((ConOK Tryd.prog 11 (C11t tb)) ∧ (Con.pre (C11t tb) ⟨⟨[], []⟩, [(tb)]⟩) ∧
R (.ret (.bool true)))))) ∧
((decide (rw ≤ (6 : Int))) = false → ((ConOK Tryd.prog 11 (C11t tb)) ∧ (Con.pre (C11t tb) ⟨⟨[], []⟩, [(tb)]⟩) ∧
R (.ret (.bool true)))))) ∧
((decide ((1 : Int) ≤ rw)) = false → ((ConOK Tryd.prog 11 (C11t tb)) ∧ (Con.pre (C11t tb) ⟨⟨[], []⟩, [(tb)]⟩) ∧
R (.ret (.bool true)))))) := by kernel_rfl
theorem f5wnN (rw st : Int) (c1 : Nat) (wh : Int) (tb : List Value) (R : ARes → Prop) : (vx.call 5 [.agg ⟨[I rw, I st, slV 2 0 c1, nilS, nilS]⟩, .int .u8 wh] (retK R) (mQ0 tb) ([(35, .split ([(3, .split ([(10, .split ([(3, .split ((53, .con (C11t tb)) :: []) ((18, .con (C11t tb)) :: []))]) ((19, .con (C11t tb)) :: []))]) ((19, .con (C11t tb)) :: []))]) ((20, .con (C11t tb)) :: []))])) =
((((decide ((1 : Int) ≤ rw)) = true → (((decide (rw ≤ (6 : Int))) = true → (((decide ((0 : Int) ≤ st)) = true → (((decide (st ≤ (4 : Int))) = true → ((ConOK Tryd.prog 11 (C11t tb)) ∧ (Con.pre (C11t tb) ⟨⟨[], []⟩, [(tb)]⟩) ∧
R (.ret (.bool true)))) ∧
((decide (st ≤ (4 : Int))) = false → ((ConOK Tryd.prog 11 (C11t tb)) ∧ (Con.pre (C11t tb) ⟨⟨[], []⟩, [(tb)]⟩) ∧
R (.ret (.bool true)))))) ∧
((decide ((0 : Int) ≤ st)) = false → ((ConOK Tryd.prog 11 (C11t tb)) ∧ (Con.pre (C11t tb) ⟨⟨[], []⟩, [(tb)]⟩) ∧
R (.ret (.bool true)))))) ∧
((decide (rw ≤ (6 : Int))) = false → ((ConOK Tryd.prog 11 (C11t tb)) ∧ (Con.pre (C11t tb) ⟨⟨[], []⟩, [(tb)]⟩) ∧
R (.ret (.bool true)))))) ∧
((decide ((1 : Int) ≤ rw)) = false → ((ConOK Tryd.prog 11 (C11t tb)) ∧ (Con.pre (C11t tb) ⟨⟨[], []⟩, [(tb)]⟩) ∧
R (.ret (.bool true)))))) := by kernel_rfl
theorem f5nkP (rw st : Int) (n cv m cu : Nat) (wh : Int) (tb : List Value) (R : ARes → Prop) : (vx.call 5 [.agg ⟨[I rw, I st, nilS, slV 3 n cv, slV 4 m cu]⟩, .int .u8 wh] (retK R) (mQ0 tb) ([(21, .split ((9, .con (C11t tb)) :: []) ([(13, .split ([(3, .split ([(10, .split ([(3, .split ((17, .val (.bool true)) :: (11, .con (C11t tb)) :: []) ((18, .con (C11t tb)) :: []))]) ((19, .con (C11t tb)) :: []))]) ((19, .con (C11t tb)) :: []))]) ((20, .con (C11t tb)) :: []))]))])) =
((((decide ((if (m : Int) > if (n : Int) > (↑(0 : Nat) : Int) then (n : Int) else (↑(0 : Nat) : Int) then (m : Int) else if (n : Int) > (↑(0 : Nat) : Int) then (n : Int) else (↑(0 : Nat) : Int)) > (40 : Int))) = true → ((ConOK Tryd.prog 11 (C11t tb)) ∧ (Con.pre (C11t tb) ⟨⟨[], []⟩, [(tb)]⟩) ∧
R (.ret (.bool true)))) ∧
((decide ((if (m : Int) > if (n : Int) > (↑(0 : Nat) : Int) then (n : Int) else (↑(0 : Nat) : Int) then (m : Int) else if (n : Int) > (↑(0 : Nat) : Int) then (n : Int) else (↑(0 : Nat) : Int)) > (40 : Int))) = false → (((decide ((1 : Int) ≤ rw)) = true → (((decide (rw ≤ (6 : Int))) = true → (((decide ((0 : Int) ≤ st)) = true → (((decide (st ≤ (4 : Int))) = true → ((((some (.bool ((n : Int) != (↑(0 : Nat) : Int))) : Option Value) = some (.bool true))) ∧
((ConOK Tryd.prog 11 (C11t tb)) ∧ (Con.pre (C11t tb) ⟨⟨[], []⟩, [(tb)]⟩) ∧
R (.ret (.bool true))))) ∧
((decide (st ≤ (4 : Int))) = false → ((ConOK Tryd.prog 11 (C11t tb)) ∧ (Con.pre (C11t tb) ⟨⟨[], []⟩, [(tb)]⟩) ∧
R (.ret (.bool true)))))) ∧
((decide ((0 : Int) ≤ st)) = false → ((ConOK Tryd.prog 11 (C11t tb)) ∧ (Con.pre (C11t tb) ⟨⟨[], []⟩, [(tb)]⟩) ∧
R (.ret (.bool true)))))) ∧
((decide (rw ≤ (6 : Int))) = false → ((ConOK Tryd.prog 11 (C11t tb)) ∧ (Con.pre (C11t tb) ⟨⟨[], []⟩, [(tb)]⟩) ∧
R (.ret (.bool true)))))) ∧
((decide ((1 : Int) ≤ rw)) = false → ((ConOK Tryd.prog 11 (C11t tb)) ∧ (Con.pre (C11t tb) ⟨⟨[], []⟩, [(tb)]⟩) ∧
R (.ret (.bool true)))))))) := by kernel_rfl
theorem f5nkN (rw st : Int) (n cv : Nat) (wh : Int) (tb : List Value) (R : ARes → Prop) : (vx.call 5 [.agg ⟨[I rw, I st, nilS, slV 3 n cv, nilS]⟩, .int .u8 wh] (retK R) (mQ0 tb) ([(21, .split ((9, .con (C11t tb)) :: []) ([(13, .split ([(3, .split ([(10, .split ([(3, .split ((17, .val (.bool true)) :: (11, .con (C11t tb)) :: []) ((18, .con (C11t tb)) :: []))]) ((19, .con (C11t tb)) :: []))]) ((19, .con (C11t tb)) :: []))]) ((20, .con (C11t tb)) :: []))]))])) =
((((decide ((if (↑(0 : Nat) : Int) > if (n : Int) > (↑(0 : Nat) : Int) then (n : Int) else (↑(0 : Nat) : Int) then (↑(0 : Nat) : Int) else if (n : Int) > (↑(0 : Nat) : Int) then (n : Int) else (↑(0 : Nat) : Int)) > (40 : Int))) = true → ((ConOK Tryd.prog 11 (C11t tb)) ∧ (Con.pre (C11t tb) ⟨⟨[], []⟩, [(tb)]⟩) ∧
R (.ret (.bool true)))) ∧
((decide ((if (↑(0 : Nat) : Int) > if (n : Int) > (↑(0 : Nat) : Int) then (n : Int) else (↑(0 : Nat) : Int) then (↑(0 : Nat) : Int) else if (n : Int) > (↑(0 : Nat) : Int) then (n : Int) else (↑(0 : Nat) : Int)) > (40 : Int))) = false → (((decide ((1 : Int) ≤ rw)) = true → (((decide (rw ≤ (6 : Int))) = true → (((decide ((0 : Int) ≤ st)) = true → (((decide (st ≤ (4 : Int))) = true → ((((some (.bool ((n : Int) != (↑(0 : Nat) : Int))) : Option Value) = some (.bool true))) ∧
((ConOK Tryd.prog 11 (C11t tb)) ∧ (Con.pre (C11t tb) ⟨⟨[], []⟩, [(tb)]⟩) ∧
R (.ret (.bool true))))) ∧
((decide (st ≤ (4 : Int))) = false → ((ConOK Tryd.prog 11 (C11t tb)) ∧ (Con.pre (C11t tb) ⟨⟨[], []⟩, [(tb)]⟩) ∧
R (.ret (.bool true)))))) ∧
((decide ((0 : Int) ≤ st)) = false → ((ConOK Tryd.prog 11 (C11t tb)) ∧ (Con.pre (C11t tb) ⟨⟨[], []⟩, [(tb)]⟩) ∧
R (.ret (.bool true)))))) ∧
((decide (rw ≤ (6 : Int))) = false → ((ConOK Tryd.prog 11 (C11t tb)) ∧ (Con.pre (C11t tb) ⟨⟨[], []⟩, [(tb)]⟩) ∧
R (.ret (.bool true)))))) ∧
((decide ((1 : Int) ≤ rw)) = false → ((ConOK Tryd.prog 11 (C11t tb)) ∧ (Con.pre (C11t tb) ⟨⟨[], []⟩, [(tb)]⟩) ∧
R (.ret (.bool true)))))))) := by kernel_rfl
theorem f5knP (rw st : Int) (n cw m cu : Nat) (wh : Int) (tb : List Value) (R : ARes → Prop) : (vx.call 5 [.agg ⟨[I rw, I st, slV 2 n cw, nilS, slV 4 m cu]⟩, .int .u8 wh] (retK R) (mQ0 tb) ([(21, .split ((9, .con (C11t tb)) :: []) ([(13, .split ([(3, .split ([(10, .split ([(3, .split ([(8, .split ((13, .con (C11t tb)) :: []) ((8, .val (.bool true)) :: (11, .con (C11t tb)) :: []))]) ((18, .con (C11t tb)) :: []))]) ((19, .con (C11t tb)) :: []))]) ((19, .con (C11t tb)) :: []))]) ((20, .con (C11t tb)) :: []))]))])) =
((((decide ((if (m : Int) > if (↑(0 : Nat) : Int) > (n : Int) then (↑(0 : Nat) : Int) else (n : Int) then (m : Int) else if (↑(0 : Nat) : Int) > (n : Int) then (↑(0 : Nat) : Int) else (n : Int)) > (40 : Int))) = true → ((ConOK Tryd.prog 11 (C11t tb)) ∧ (Con.pre (C11t tb) ⟨⟨[], []⟩, [(tb)]⟩) ∧
R (.ret (.bool true)))) ∧
((decide ((if (m : Int) > if (↑(0 : Nat) : Int) > (n : Int) then (↑(0 : Nat) : Int) else (n : Int) then (m : Int) else if (↑(0 : Nat) : Int) > (n : Int) then (↑(0 : Nat) : Int) else (n : Int)) > (40 : Int))) = false → (((decide ((1 : Int) ≤ rw)) = true → (((decide (rw ≤ (6 : Int))) = true → (((decide ((0 : Int) ≤ st)) = true → (((decide (st ≤ (4 : Int))) = true → (((decide ((n : Int) > 8)) = true → ((ConOK Tryd.prog 11 (C11t tb)) ∧ (Con.pre (C11t tb) ⟨⟨[], []⟩, [(tb)]⟩) ∧
R (.ret (.bool true)))) ∧
((decide ((n : Int) > 8)) = false → ((((some (.bool ((↑(0 : Nat) : Int) != (n : Int))) : Option Value) = some (.bool true))) ∧
((ConOK Tryd.prog 11 (C11t tb)) ∧ (Con.pre (C11t tb) ⟨⟨[], []⟩, [(tb)]⟩) ∧
R (.ret (.bool true))))))) ∧
((decide (st ≤ (4 : Int))) = false → ((ConOK Tryd.prog 11 (C11t tb)) ∧ (Con.pre (C11t tb) ⟨⟨[], []⟩, [(tb)]⟩) ∧
R (.ret (.bool true)))))) ∧
((decide ((0 : Int) ≤ st)) = false → ((ConOK Tryd.prog 11 (C11t tb)) ∧ (Con.pre (C11t tb) ⟨⟨[], []⟩, [(tb)]⟩) ∧
R (.ret (.bool true)))))) ∧
((decide (rw ≤ (6 : Int))) = false → ((ConOK Tryd.prog 11 (C11t tb)) ∧ (Con.pre (C11t tb) ⟨⟨[], []⟩, [(tb)]⟩) ∧
R (.ret (.bool true)))))) ∧
((decide ((1 : Int) ≤ rw)) = false → ((ConOK Tryd.prog 11 (C11t tb)) ∧ (Con.pre (C11t tb) ⟨⟨[], []⟩, [(tb)]⟩) ∧
R (.ret (.bool true)))))))) := by kernel_rfl
theorem f5knN (rw st : Int) (n cw : Nat) (wh : Int) (tb : List Value) (R : ARes → Prop) : (vx.call 5 [.agg ⟨[I rw, I st, slV 2 n cw, nilS, nilS]⟩, .int .u8 wh] (retK R) (mQ0 tb) ([(21, .split ((9, .con (C11t tb)) :: []) ([(13, .split ([(3, .split ([(10, .split ([(3, .split ([(8, .split ((13, .con (C11t tb)) :: []) ((8, .val (.bool true)) :: (11, .con (C11t tb)) :: []))]) ((18, .con (C11t tb)) :: []))]) ((19, .con (C11t tb)) :: []))]) ((19, .con (C11t tb)) :: []))]) ((20, .con (C11t tb)) :: []))]))])) =
((((decide ((if (↑(0 : Nat) : Int) > if (↑(0 : Nat) : Int) > (n : Int) then (↑(0 : Nat) : Int) else (n : Int) then (↑(0 : Nat) : Int) else if (↑(0 : Nat) : Int) > (n : Int) then (↑(0 : Nat) : Int) else (n : Int)) > (40 : Int))) = true → ((ConOK Tryd.prog 11 (C11t tb)) ∧ (Con.pre (C11t tb) ⟨⟨[], []⟩, [(tb)]⟩) ∧
R (.ret (.bool true)))) ∧
((decide ((if (↑(0 : Nat) : Int) > if (↑(0 : Nat) : Int) > (n : Int) then (↑(0 : Nat) : Int) else (n : Int) then (↑(0 : Nat) : Int) else if (↑(0 : Nat) : Int) > (n : Int) then (↑(0 : Nat) : Int) else (n : Int)) > (40 : Int))) = false → (((decide ((1 : Int) ≤ rw)) = true → (((decide (rw ≤ (6 : Int))) = true → (((decide ((0 : Int) ≤ st)) = true → (((decide (st ≤ (4 : Int))) = true → (((decide ((n : Int) > 8)) = true → ((ConOK Tryd.prog 11 (C11t tb)) ∧ (Con.pre (C11t tb) ⟨⟨[], []⟩, [(tb)]⟩) ∧
R (.ret (.bool true)))) ∧
((decide ((n : Int) > 8)) = false → ((((some (.bool ((↑(0 : Nat) : Int) != (n : Int))) : Option Value) = some (.bool true))) ∧
((ConOK Tryd.prog 11 (C11t tb)) ∧ (Con.pre (C11t tb) ⟨⟨[], []⟩, [(tb)]⟩) ∧
R (.ret (.bool true))))))) ∧
((decide (st ≤ (4 : Int))) = false → ((ConOK Tryd.prog 11 (C11t tb)) ∧ (Con.pre (C11t tb) ⟨⟨[], []⟩, [(tb)]⟩) ∧
R (.ret (.bool true)))))) ∧
((decide ((0 : Int) ≤ st)) = false → ((ConOK Tryd.prog 11 (C11t tb)) ∧ (Con.pre (C11t tb) ⟨⟨[], []⟩, [(tb)]⟩) ∧
R (.ret (.bool true)))))) ∧
((decide (rw ≤ (6 : Int))) = false → ((ConOK Tryd.prog 11 (C11t tb)) ∧ (Con.pre (C11t tb) ⟨⟨[], []⟩, [(tb)]⟩) ∧
R (.ret (.bool true)))))) ∧
((decide ((1 : Int) ≤ rw)) = false → ((ConOK Tryd.prog 11 (C11t tb)) ∧ (Con.pre (C11t tb) ⟨⟨[], []⟩, [(tb)]⟩) ∧
R (.ret (.bool true)))))))) := by kernel_rfl
section
variable {rw st : Int} {c1 m cu j : Nat} {u : Nat → Raw}
theorem law5n (hj : j < 256) : ∃ hs, vx.call 5 [su_n rw st c1 m cu, .int .u8 j] (retK fun r => r = .ret (.bool true)) (mQH tabC (raL m u)) hs := by
 have c20 := C20n_ok (rw := rw) (st := st) (c1 := c1) (m := m) (cu := cu) (u := u)
 cases hok : okS0 rw st m u with
 | false =>
  rw [hok] at c20
  exact ⟨_, (f5In rw st c1 m cu j tabC (raL m u) _).mpr ⟨fun _ => ⟨C11t_ok, rfl, rfl⟩, fun _ => ⟨c20, rfl, C11t_ok, rfl, rfl⟩⟩⟩
 | true =>
  rw [hok] at c20
  rcases Nat.eq_zero_or_pos m with h0 | h0
  · subst h0
    exact ⟨_, (f5Mn rw st c1 cu j tabC (raL 0 u) _).mpr ⟨c20, rfl, C11t_ok, rfl, rfl⟩⟩
  · obtain ⟨hrw, hst, h5, hall⟩ := okS0_inv hok
    obtain ⟨hl, hU⟩ := huts_conv hrw.1 hrw.2 h5 hall
    rw [hl] at c20 ⊢
    have hh : j % m < m := Nat.mod_lt _ h0
    have hmod : (Value.int .i64 ((j % m : Nat) : Int)) = .int .i64 ((IntKind.i64.wrap ((j : Nat) : Int)).tmod (m : Int)) := by rw [hwj hj]; rfl
    have hpart := huL_part (fun i => toH (u i)) hh
    have hlen := huL_len m (fun i => toH (u i))
    have hm0 : ((m : Int) == (0 : Int)) = false := by simp only [beq_eq_false_iff_ne, ne_eq]; omega
    exact ⟨_, (f5Dn rw st c1 m cu (j % m) j tabC (fun i => toH (u i)) _).mpr ⟨fun _ => ⟨C11t_ok, rfl, rfl⟩, fun _ => ⟨c20, rfl, tf hm0, ⟨⟨by omega, rfl⟩, hmod⟩, ⟨⟨by omega, by omega⟩, rfl⟩, ⟨by rw [hlen]; omega, by rw [hpart]; rfl⟩, C14n_ok (c1 := c1) hrw hst hU hh, rfl, C11t_ok, rfl, rfl⟩⟩⟩
theorem law5v (hj : j < 256) : ∃ hs, vx.call 5 [su_v rw st c1 m cu, .int .u8 j] (retK fun r => r = .ret (.bool true)) (mQH tabC (raL m u)) hs := by
 have c20 := C20v_ok (rw := rw) (st := st) (c1 := c1) (m := m) (cu := cu) (u := u)
 cases hok : okS0 rw st m u with
 | false =>
  rw [hok] at c20
  exact ⟨_, (f5Iv rw st c1 m cu j tabC (raL m u) _).mpr ⟨fun _ => ⟨C11t_ok, rfl, rfl⟩, fun _ => ⟨c20, rfl, C11t_ok, rfl, rfl⟩⟩⟩
 | true =>
  rw [hok] at c20
  rcases Nat.eq_zero_or_pos m with h0 | h0
  · subst h0
    exact ⟨_, (f5Mv rw st c1 cu j tabC (raL 0 u) _).mpr ⟨c20, rfl, C11t_ok, rfl, rfl⟩⟩
  · obtain ⟨hrw, hst, h5, hall⟩ := okS0_inv hok
    obtain ⟨hl, hU⟩ := huts_conv hrw.1 hrw.2 h5 hall
    rw [hl] at c20 ⊢
    have hh : j % m < m := Nat.mod_lt _ h0
    have hmod : (Value.int .i64 ((j % m : Nat) : Int)) = .int .i64 ((IntKind.i64.wrap ((j : Nat) : Int)).tmod (m : Int)) := by rw [hwj hj]; rfl
    have hpart := huL_part (fun i => toH (u i)) hh
    have hlen := huL_len m (fun i => toH (u i))
    have hm0 : ((m : Int) == (0 : Int)) = false := by simp only [beq_eq_false_iff_ne, ne_eq]; omega
    exact ⟨_, (f5Dv rw st c1 m cu (j % m) j tabC (fun i => toH (u i)) _).mpr ⟨fun _ => ⟨C11t_ok, rfl, rfl⟩, fun _ => ⟨c20, rfl, tf hm0, ⟨⟨by omega, rfl⟩, hmod⟩, ⟨⟨by omega, by omega⟩, rfl⟩, ⟨by rw [hlen]; omega, by rw [hpart]; rfl⟩, C14v_ok (c1 := c1) hrw hst hU hh, rfl, C11t_ok, rfl, rfl⟩⟩⟩
theorem law5w (hj : j < 256) : ∃ hs, vx.call 5 [su_w rw st c1 m cu, .int .u8 j] (retK fun r => r = .ret (.bool true)) (mQH tabC (raL m u)) hs := by
 have c20 := C20w_ok (rw := rw) (st := st) (c1 := c1) (m := m) (cu := cu) (u := u)
 cases hok : okS0 rw st m u with
 | false =>
  rw [hok] at c20
  exact ⟨_, (f5Iw rw st c1 m cu j tabC (raL m u) _).mpr ⟨fun _ => ⟨C11t_ok, rfl, rfl⟩, fun _ => ⟨c20, rfl, C11t_ok, rfl, rfl⟩⟩⟩
 | true =>
  rw [hok] at c20
  rcases Nat.eq_zero_or_pos m with h0 | h0
  · subst h0
    exact ⟨_, (f5Mw rw st c1 cu j tabC (raL 0 u) _).mpr ⟨c20, rfl, C11t_ok, rfl, rfl⟩⟩
  · obtain ⟨hrw, hst, h5, hall⟩ := okS0_inv hok
    obtain ⟨hl, hU⟩ := huts_conv hrw.1 hrw.2 h5 hall
    rw [hl] at c20 ⊢
    have hh : j % m < m := Nat.mod_lt _ h0
    have hmod : (Value.int .i64 ((j % m : Nat) : Int)) = .int .i64 ((IntKind.i64.wrap ((j : Nat) : Int)).tmod (m : Int)) := by rw [hwj hj]; rfl
    have hpart := huL_part (fun i => toH (u i)) hh
    have hlen := huL_len m (fun i => toH (u i))
    have hm0 : ((m : Int) == (0 : Int)) = false := by simp only [beq_eq_false_iff_ne, ne_eq]; omega
    exact ⟨_, (f5Dw rw st c1 m cu (j % m) j tabC (fun i => toH (u i)) _).mpr ⟨fun _ => ⟨C11t_ok, rfl, rfl⟩, fun _ => ⟨c20, rfl, tf hm0, ⟨⟨by omega, rfl⟩, hmod⟩, ⟨⟨by omega, by omega⟩, rfl⟩, ⟨by rw [hlen]; omega, by rw [hpart]; rfl⟩, C14w_ok (c1 := c1) hrw hst hU hh, rfl, C11t_ok, rfl, rfl⟩⟩⟩
end
section
variable {rw st : Int} {n cw n2 cv m cu j : Nat} {w v : Nat → Sp} {u : Nat → Raw}
theorem law5R (hj : j < 256) : ∃ hs, vx.call 5 [suR rw st n cw n2 cv m cu, .int .u8 j] (retK fun r => r = .ret (.bool true)) (mSu tabC (spL n w) (spL n2 v) (raL m u)) hs := by
 have c20 := C20_ok (rw := rw) (st := st) (n := n) (cw := cw) (n2 := n2) (cv := cv) (m := m) (cu := cu) (w := w) (v := v) (u := u)
 cases hok : okSu rw st n n2 m w v u with
 | false =>
  rw [hok] at c20
  exact ⟨_, (f5Ip rw st n cw n2 cv m cu j tabC (spL n w) (spL n2 v) (raL m u) _).mpr ⟨fun _ => ⟨C11t_ok, rfl, rfl⟩, fun _ => ⟨c20, rfl, C11t_ok, rfl, rfl⟩⟩⟩
 | true =>
  rw [hok] at c20
  rcases Nat.eq_zero_or_pos m with h0 | h0
  · subst h0
    exact ⟨_, (f5Mp rw st n cw n2 cv cu j tabC (spL n w) (spL n2 v) (raL 0 u) _).mpr ⟨fun _ => ⟨C11t_ok, rfl, rfl⟩, fun _ => ⟨c20, rfl, C11t_ok, rfl, rfl⟩⟩⟩
  · obtain ⟨e, hS, h5, hall⟩ := okSu_inv hok
    subst e
    obtain ⟨hl, hU⟩ := huts_conv hS.rw1 hS.rw6 h5 hall
    rw [hl] at c20 ⊢
    obtain ⟨r, rfl⟩ : ∃ r : Nat, rw = (r : Int) := ⟨rw.toNat, (Int.toNat_of_nonneg (by have := hS.rw1; omega)).symm⟩
    rcases Nat.eq_zero_or_pos n2 with hn | hn
    · subst hn
      have hh : j % m < m := Nat.mod_lt _ h0
      have hmod : (Value.int .i64 ((j % m : Nat) : Int)) = .int .i64 ((IntKind.i64.wrap ((j : Nat) : Int)).tmod (m : Int)) := by rw [hwj hj]; rfl
      have hpart := huL_part (fun i => toH (u i)) hh
      have hlen := huL_len m (fun i => toH (u i))
      have hm0 : ((m : Int) == (0 : Int)) = false := by simp only [beq_eq_false_iff_ne, ne_eq]; omega
      have c14 := C14_ok (cw := cw) (cv := cv) (cu := cu) hS hU hh
      exact ⟨_, (f5Dp r st cw cv m cu (j % m) j tabC (spL 0 w) (spL 0 v) (fun i => toH (u i)) _).mpr ⟨fun _ => ⟨C11t_ok, rfl, rfl⟩, fun _ => ⟨c20, rfl, tf hm0, ⟨⟨by omega, rfl⟩, hmod⟩, ⟨⟨by omega, by omega⟩, rfl⟩, ⟨by rw [hlen]; omega, by rw [hpart]; rfl⟩, c14, rfl, C11t_ok, rfl, rfl⟩⟩⟩
    · exact law5_E hS hU hn h0 hj
theorem law5N : ∃ hs, vx.call 5 [suN rw st n cw n2 cv, .int .u8 j] (retK fun r => r = .ret (.bool true)) (mQN tabC (spL n w) (spL n2 v)) hs := by
 have c20 := C20N_ok (rw := rw) (st := st) (n := n) (cw := cw) (n2 := n2) (cv := cv) (w := w) (v := v)
 cases hok : okSN rw st n n2 w v with
 | false =>
  rw [hok] at c20
  exact ⟨_, (f5IN rw st n cw n2 cv j tabC (spL n w) (spL n2 v) _).mpr ⟨fun _ => ⟨C11t_ok, rfl, rfl⟩, fun _ => ⟨c20, rfl, C11t_ok, rfl, rfl⟩⟩⟩
 | true =>
  rw [hok] at c20
  exact ⟨_, (f5MN rw st n cw n2 cv j tabC (spL n w) (spL n2 v) _).mpr ⟨fun _ => ⟨C11t_ok, rfl, rfl⟩, fun _ => ⟨c20, rfl, C11t_ok, rfl, rfl⟩⟩⟩
theorem l5nnN : ∃ hs, vx.call 5 [.agg ⟨[I rw, I st, nilS, nilS, nilS]⟩, .int .u8 j] (retK fun r => r = .ret (.bool true)) (mQ0 tabC) hs := by
 refine ⟨_, (f5nnN rw st j tabC _).mpr ?_⟩
 repeat' (first | with_reducible apply And.intro | with_reducible intro)
 all_goals first
  | exact C11t_ok
  | exact rfl
  | trivial
  | rfl
theorem l5nvN {c1 : Nat} : ∃ hs, vx.call 5 [.agg ⟨[I rw, I st, nilS, slV 3 0 c1, nilS]⟩, .int .u8 j] (retK fun r => r = .ret (.bool true)) (mQ0 tabC) hs := by
 refine ⟨_, (f5nvN rw st c1 j tabC _).mpr ?_⟩
 repeat' (first | with_reducible apply And.intro | with_reducible intro)
 all_goals first
  | exact C11t_ok
  | exact rfl
  | trivial
  | rfl
theorem l5wnN {c1 : Nat} : ∃ hs, vx.call 5 [.agg ⟨[I rw, I st, slV 2 0 c1, nilS, nilS]⟩, .int .u8 j] (retK fun r => r = .ret (.bool true)) (mQ0 tabC) hs := by
 refine ⟨_, (f5wnN rw st c1 j tabC _).mpr ?_⟩
 repeat' (first | with_reducible apply And.intro | with_reducible intro)
 all_goals first
  | exact C11t_ok
  | exact rfl
  | trivial
  | rfl
theorem l5nkP (h : n ≠ 0) : ∃ hs, vx.call 5 [.agg ⟨[I rw, I st, nilS, slV 3 n cv, slV 4 m cu]⟩, .int .u8 j] (retK fun r => r = .ret (.bool true)) (mQ0 tabC) hs := by
 refine ⟨_, (f5nkP rw st n cv m cu j tabC _).mpr ?_⟩
 repeat' (first | with_reducible apply And.intro | with_reducible intro)
 all_goals first
  | exact C11t_ok
  | exact tt (lne (b := 0) h)
  | trivial
  | rfl
theorem l5nkN (h : n ≠ 0) : ∃ hs, vx.call 5 [.agg ⟨[I rw, I st, nilS, slV 3 n cv, nilS]⟩, .int .u8 j] (retK fun r => r = .ret (.bool true)) (mQ0 tabC) hs := by
 refine ⟨_, (f5nkN rw st n cv j tabC _).mpr ?_⟩
 repeat' (first | with_reducible apply And.intro | with_reducible intro)
 all_goals first
  | exact C11t_ok
  | exact tt (lne (b := 0) h)
  | trivial
  | rfl
theorem l5knP (h : 0 ≠ n) : ∃ hs, vx.call 5 [.agg ⟨[I rw, I st, slV 2 n cw, nilS, slV 4 m cu]⟩, .int .u8 j] (retK fun r => r = .ret (.bool true)) (mQ0 tabC) hs := by
 refine ⟨_, (f5knP rw st n cw m cu j tabC _).mpr ?_⟩
 repeat' (first | with_reducible apply And.intro | with_reducible intro)
 all_goals first
  | exact C11t_ok
  | exact tt (lne (a := 0) h)
  | trivial
  | rfl
theorem l5knN (h : 0 ≠ n) : ∃ hs, vx.call 5 [.agg ⟨[I rw, I st, slV 2 n cw, nilS, nilS]⟩, .int .u8 j] (retK fun r => r = .ret (.bool true)) (mQ0 tabC) hs := by
 refine ⟨_, (f5knN rw st n cw j tabC _).mpr ?_⟩
 repeat' (first | with_reducible apply And.intro | with_reducible intro)
 all_goals first
  | exact C11t_ok
  | exact tt (lne (a := 0) h)
  | trivial
  | rfl
end
end Go.Ab
set_option maxRecDepth 100000
namespace Go.Ab
open Go Go.RowKit Go.Proofs
section
variable {W : World}
theorem ends_args {m : NMap} {rw st j : Int} {A B C a b c : Value} (ha : VRel m A a) (hb : VRel m B b) (hc : VRel m C c) :
    VsRel m [.agg ⟨[I rw, I st, A, B, C]⟩, .int .u8 j] [.agg ⟨[I rw, I st, a, b, c]⟩, .int .u8 j] :=
 .agg (.atom rfl (.atom rfl (VsRel.cons ha (VsRel.cons hb hc)))) (.atom rfl .nil)
theorem go5 (hT : RcHolds W gl1) {rw st : Int} {j : Nat} {A B C a b c : Value} {z2 z3 z4 : RoC} (h2 : RcHolds W z2) (h3 : RcHolds W z3) (h4 : RcHolds W z4)
    (ha : ∀ m : NMap, m 2 = some z2.1 → VRel m A a) (hb : ∀ m : NMap, m 3 = some z3.1 → VRel m B b) (hc : ∀ m : NMap, m 4 = some z4.1 → VRel m C c)
    (hr : ∃ hs, vx.call 5 [.agg ⟨[I rw, I st, A, B, C]⟩, .int .u8 j] (retK fun r => r = .ret (.bool true)) (wlM [gl0, gl1, z2, z3, z4]) hs) :
    Calls Tryd.prog 5 #[.agg #[I rw, I st, a, b, c], .int .u8 j] W fun e W' => e = .returned (.bool true) ∧ Below W.heap.size W W' := by
 refine calls_wl (l := [gl0, gl1, z2, z3, z4]) (args' := [.agg ⟨[I rw, I st, a, b, c]⟩, .int .u8 j]) (Nat.le_of_ble_eq_true rfl) (fun x hx => ?_) gl_ok (ends_args (ha _ rfl) (hb _ rfl) (hc _ rfl)) hr
 simp only [List.mem_cons, List.not_mem_nil, or_false] at hx
 rcases hx with rfl | rfl | rfl | rfl | rfl
 · exact holds_none rfl
 · exact hT
 · exact h2
 · exact h3
 · exact h4
theorem run5 (hT : RcHolds W gl1) {rw st : Int} {j : Nat} {a b c : Value} (ha : SpsIn W a) (hb : SpsIn W b) (hc : HutsIn W c) (hj : j < 256) :
    Calls Tryd.prog 5 #[.agg #[I rw, I st, a, b, c], .int .u8 j] W fun e W' => e = .returned (.bool true) ∧ Below W.heap.size W W' := by
 have h0 : RcHolds W no0 := holds_none rfl
 have hn : ∀ F : BInfo, RcHolds W (F, none) := fun F => holds_none rfl
 rcases ha with rfl | ⟨n, w, F2, cw, hF2, ha⟩
 · rcases hb with rfl | ⟨n2, v, F3, cv, hF3, hb⟩
   · rcases hc with rfl | ⟨m, u, F4, cu, hF4, hc⟩
     · exact go5 hT (z2 := no0) (z3 := no0) (z4 := no0) h0 h0 h0 (fun _ _ => nil_rel) (fun _ _ => nil_rel) (fun _ _ => nil_rel) l5nnN
     · exact go5 hT (z2 := no0) (z3 := no0) (z4 := (F4, some (raL m u, 1))) h0 h0 hF4 (fun _ _ => nil_rel) (fun _ _ => nil_rel) (hc 4) (law5n (c1 := 0) hj)
   · by_cases e : n2 = 0
     · subst e
       rcases hc with rfl | ⟨m, u, F4, cu, hF4, hc⟩
       · exact go5 hT (z2 := no0) (z3 := (F3, none)) (z4 := no0) h0 (hn _) h0 (fun _ _ => nil_rel) (hb 3) (fun _ _ => nil_rel) l5nvN
       · exact go5 hT (z2 := no0) (z3 := (F3, none)) (z4 := (F4, some (raL m u, 1))) h0 (hn _) hF4 (fun _ _ => nil_rel) (hb 3) (hc 4) (law5v hj)
     · rcases hc with rfl | ⟨m, u, F4, cu, hF4, hc⟩
       · exact go5 hT (z2 := no0) (z3 := (F3, none)) (z4 := no0) h0 (hn _) h0 (fun _ _ => nil_rel) (hb 3) (fun _ _ => nil_rel) (l5nkN e)
       · exact go5 hT (z2 := no0) (z3 := (F3, none)) (z4 := (F4, none)) h0 (hn _) (hn _) (fun _ _ => nil_rel) (hb 3) (hc 4) (l5nkP e)
 · rcases hb with rfl | ⟨n2, v, F3, cv, hF3, hb⟩
   · by_cases e : 0 = n
     · subst e
       rcases hc with rfl | ⟨m, u, F4, cu, hF4, hc⟩
       · exact go5 hT (z2 := (F2, none)) (z3 := no0) (z4 := no0) (hn _) h0 h0 (ha 2) (fun _ _ => nil_rel) (fun _ _ => nil_rel) l5wnN
       · exact go5 hT (z2 := (F2, none)) (z3 := no0) (z4 := (F4, some (raL m u, 1))) (hn _) h0 hF4 (ha 2) (fun _ _ => nil_rel) (hc 4) (law5w hj)
     · rcases hc with rfl | ⟨m, u, F4, cu, hF4, hc⟩
       · exact go5 hT (z2 := (F2, none)) (z3 := no0) (z4 := no0) (hn _) h0 h0 (ha 2) (fun _ _ => nil_rel) (fun _ _ => nil_rel) (l5knN e)
       · exact go5 hT (z2 := (F2, none)) (z3 := no0) (z4 := (F4, none)) (hn _) h0 (hn _) (ha 2) (fun _ _ => nil_rel) (hc 4) (l5knP e)
   · rcases hc with rfl | ⟨m, u, F4, cu, hF4, hc⟩
     · exact go5 hT (z2 := (F2, some (spL n w, 1))) (z3 := (F3, some (spL n2 v, 1))) (z4 := no0) hF2 hF3 h0 (ha 2) (hb 3) (fun _ _ => nil_rel) law5N
     · exact go5 hT (z2 := (F2, some (spL n w, 1))) (z3 := (F3, some (spL n2 v, 1))) (z4 := (F4, some (raL m u, 1))) hF2 hF3 hF4 (ha 2) (hb 3) (hc 4) (law5R hj)
end
end Go.Ab
namespace Go.Ab
open Go Go.RowKit Go.Lib
theorem laidMet_tail {P : Program} {x : String × DataW Unit} {rest : List (String × DataW Unit)} {W : World} (h : laidMet P (x :: rest) W) : laidMet P rest W := by
 obtain ⟨ps, ⟨g, t, cs, fuel, p, q, hg, ht, hvar, hd, hrest, rfl⟩, hnd, hall⟩ := h
 refine ⟨q, hrest, (List.nodup_append.1 hnd).2.1, fun b off hm => hall b off (List.mem_append_right _ hm)⟩
end Go.Ab
