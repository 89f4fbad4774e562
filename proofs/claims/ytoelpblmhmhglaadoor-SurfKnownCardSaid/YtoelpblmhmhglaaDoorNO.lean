/- package surf: SurfKnown, of surfs that are not valid, of no hours, of no huts, or of which slices are nil. -/
import Derived.Test.YtoelpblmhmhglaaDoorNJ
import Derived.Test.YtoelpblmhmhglaaDoorNN
import Derived.Test.YtoelpblmhmhglaaDoorNH
set_option maxRecDepth 100000
namespace Go.Ab
open Go Go.RowKit Go.Proofs
theorem f4Ip (rw st : Int) (n cw n2 cv m cu : Nat) (wh : Int) (t : Value) (tb ws vs us : List Value) (R : ARes → Prop) : (vx.call 4 [suR rw st n cw n2 cv m cu, t, .int .u8 wh] (retK R) (mLR tb ws vs us) ([(17, .split ((2, .con (C11t tb)) :: []) ((3, .con (C20 rw st n cw n2 cv m cu ws vs us false)) :: (3, .con (CE1 rw st n cw n2 cv m cu ws vs us 0 (r15 1))) :: (6, .con (CE1 rw st n cw n2 cv m cu ws vs us 0 (r21 1))) :: (20, .con (C11t tb)) :: []))])) =
((((decide ((if (m : Int) > if (n2 : Int) > (n : Int) then (n2 : Int) else (n : Int) then (m : Int) else if (n2 : Int) > (n : Int) then (n2 : Int) else (n : Int)) > (40 : Int))) = true → ((ConOK Tryd.prog 11 (C11t tb)) ∧ (Con.pre (C11t tb) ⟨⟨[], []⟩, [(tb)]⟩) ∧
R (.ret (.bool true)))) ∧
((decide ((if (m : Int) > if (n2 : Int) > (n : Int) then (n2 : Int) else (n : Int) then (m : Int) else if (n2 : Int) > (n : Int) then (n2 : Int) else (n : Int)) > (40 : Int))) = false → ((ConOK Tryd.prog 20 (C20 rw st n cw n2 cv m cu ws vs us false)) ∧ (Con.pre (C20 rw st n cw n2 cv m cu ws vs us false) ⟨⟨[(I rw), (I st)], [⟨n, cw⟩, ⟨n2, cv⟩, ⟨m, cu⟩]⟩, [(ws), (vs), (us)]⟩) ∧
((ConOK Tryd.prog 15 (CE1 rw st n cw n2 cv m cu ws vs us 0 (r15 1))) ∧ (Con.pre (CE1 rw st n cw n2 cv m cu ws vs us 0 (r15 1)) ⟨⟨[(I rw), (I st), (I 0)], [⟨n, cw⟩, ⟨n2, cv⟩, ⟨m, cu⟩]⟩, [(ws), (vs), (us)]⟩) ∧
((ConOK Tryd.prog 21 (CE1 rw st n cw n2 cv m cu ws vs us 0 (r21 1))) ∧ (Con.pre (CE1 rw st n cw n2 cv m cu ws vs us 0 (r21 1)) ⟨⟨[(I rw), (I st), (I 0)], [⟨n, cw⟩, ⟨n2, cv⟩, ⟨m, cu⟩]⟩, [(ws), (vs), (us)]⟩) ∧
((ConOK Tryd.prog 11 (C11t tb)) ∧ (Con.pre (C11t tb) ⟨⟨[], []⟩, [(tb)]⟩) ∧
R (.ret (.bool true))))))))) := by kernel_rfl
theorem f4Mp (rw st : Int) (n cw cv cu : Nat) (wh : Int) (t : Value) (tb ws vs us : List Value) (R : ARes → Prop) : (vx.call 4 [suV rw st n cw cv 0 cu, t, .int .u8 wh] (retK R) (mLR tb ws vs us) ([(17, .split ((2, .con (C11t tb)) :: []) ((3, .con (C20 rw st n cw n cv 0 cu ws vs us true)) :: (6, .con (CE1 rw st n cw n cv 0 cu ws vs us 0 (r15 2))) :: (9, .con (CE2 rw st n cw n cv 0 cu ws vs us n 0 (r18 2))) :: (9, .con (CE2 rw st n cw n cv 0 cu ws vs us 0 rw (r18 2))) :: (7, .con (CE1 rw st n cw n cv 0 cu ws vs us 6 (r21 2))) :: (30, .con (C11t tb)) :: []))])) =
((((decide ((if (↑(0 : Nat) : Int) > if (n : Int) > (n : Int) then (n : Int) else (n : Int) then (↑(0 : Nat) : Int) else if (n : Int) > (n : Int) then (n : Int) else (n : Int)) > (40 : Int))) = true → ((ConOK Tryd.prog 11 (C11t tb)) ∧ (Con.pre (C11t tb) ⟨⟨[], []⟩, [(tb)]⟩) ∧
R (.ret (.bool true)))) ∧
((decide ((if (↑(0 : Nat) : Int) > if (n : Int) > (n : Int) then (n : Int) else (n : Int) then (↑(0 : Nat) : Int) else if (n : Int) > (n : Int) then (n : Int) else (n : Int)) > (40 : Int))) = false → ((ConOK Tryd.prog 20 (C20 rw st n cw n cv 0 cu ws vs us true)) ∧ (Con.pre (C20 rw st n cw n cv 0 cu ws vs us true) ⟨⟨[(I rw), (I st)], [⟨n, cw⟩, ⟨n, cv⟩, ⟨0, cu⟩]⟩, [(ws), (vs), (us)]⟩) ∧
((ConOK Tryd.prog 15 (CE1 rw st n cw n cv 0 cu ws vs us 0 (r15 2))) ∧ (Con.pre (CE1 rw st n cw n cv 0 cu ws vs us 0 (r15 2)) ⟨⟨[(I rw), (I st), (I ((↑(0 : Nat) : Int)))], [⟨n, cw⟩, ⟨n, cv⟩, ⟨0, cu⟩]⟩, [(ws), (vs), (us)]⟩) ∧
((ConOK Tryd.prog 18 (CE2 rw st n cw n cv 0 cu ws vs us n 0 (r18 2))) ∧ (Con.pre (CE2 rw st n cw n cv 0 cu ws vs us n 0 (r18 2)) ⟨⟨[(I rw), (I st), (I n), (I 0)], [⟨n, cw⟩, ⟨n, cv⟩, ⟨0, cu⟩]⟩, [(ws), (vs), (us)]⟩) ∧
((ConOK Tryd.prog 18 (CE2 rw st n cw n cv 0 cu ws vs us 0 rw (r18 2))) ∧ (Con.pre (CE2 rw st n cw n cv 0 cu ws vs us 0 rw (r18 2)) ⟨⟨[(I rw), (I st), (I 0), (I rw)], [⟨n, cw⟩, ⟨n, cv⟩, ⟨0, cu⟩]⟩, [(ws), (vs), (us)]⟩) ∧
((ConOK Tryd.prog 21 (CE1 rw st n cw n cv 0 cu ws vs us 6 (r21 2))) ∧ (Con.pre (CE1 rw st n cw n cv 0 cu ws vs us 6 (r21 2)) ⟨⟨[(I rw), (I st), (I 6)], [⟨n, cw⟩, ⟨n, cv⟩, ⟨0, cu⟩]⟩, [(ws), (vs), (us)]⟩) ∧
((ConOK Tryd.prog 11 (C11t tb)) ∧ (Con.pre (C11t tb) ⟨⟨[], []⟩, [(tb)]⟩) ∧
R (.ret (.bool true))))))))))) := by kernel_rfl
theorem f4Dp (rw st : Int) (cw cv m cu hut : Nat) (wh : Int) (t : Value) (tb ws vs : List Value) (u : Nat → Hut) (R : ARes → Prop) : (vx.call 4 [suV rw st 0 cw cv m cu, t, .int .u8 wh] (retK R) (mLR tb ws vs (huL m u)) ([(17, .split ((2, .con (C11t tb)) :: []) ((3, .con (C20 rw st 0 cw 0 cv m cu ws vs (huL m u) true)) :: (6, .con (CE1 rw st 0 cw 0 cv m cu ws vs (huL m u) m (r15 2))) :: (9, .con (CE2 rw st 0 cw 0 cv m cu ws vs (huL m u) 0 0 (r18 2))) :: (9, .con (CE2 rw st 0 cw 0 cv m cu ws vs (huL m u) 0 rw (r18 2))) :: (7, .con (CE1 rw st 0 cw 0 cv m cu ws vs (huL m u) 6 (r21 2))) :: (28, .val (.bool false)) :: (6, .val (I hut)) :: (55, .val (.pointer (some ⟨4, 0 + hut * 3, none⟩))) :: (0, .val (.agg ⟨[(I ((u hut).fl)), (I ((u hut).br)), (I ((↑(u hut).row : Int)))]⟩)) :: (36, .con (CSn rw st 0 m cu (huL m u) hut (.tuple ⟨[I 0, I 0, I 0]⟩))) :: (9, .con (CS1 rw st 0 cw cv m cu tb ws vs (huL m u) hut (.tuple ⟨[I 0, I 0, I 0]⟩))) :: (9, .con (CSn rw st 0 m cu (huL m u) hut (.tuple ⟨[I 0, I 0]⟩))) :: (7, .con (CSn rw st 0 m cu (huL m u) hut (.tuple ⟨[I 0, I 4]⟩))) :: (64, .con (C11t tb)) :: []))])) =
((((decide ((if (m : Int) > if (↑(0 : Nat) : Int) > (↑(0 : Nat) : Int) then (↑(0 : Nat) : Int) else (↑(0 : Nat) : Int) then (m : Int) else if (↑(0 : Nat) : Int) > (↑(0 : Nat) : Int) then (↑(0 : Nat) : Int) else (↑(0 : Nat) : Int)) > (40 : Int))) = true → ((ConOK Tryd.prog 11 (C11t tb)) ∧ (Con.pre (C11t tb) ⟨⟨[], []⟩, [(tb)]⟩) ∧
R (.ret (.bool true)))) ∧
((decide ((if (m : Int) > if (↑(0 : Nat) : Int) > (↑(0 : Nat) : Int) then (↑(0 : Nat) : Int) else (↑(0 : Nat) : Int) then (m : Int) else if (↑(0 : Nat) : Int) > (↑(0 : Nat) : Int) then (↑(0 : Nat) : Int) else (↑(0 : Nat) : Int)) > (40 : Int))) = false → ((ConOK Tryd.prog 20 (C20 rw st 0 cw 0 cv m cu ws vs (huL m u) true)) ∧ (Con.pre (C20 rw st 0 cw 0 cv m cu ws vs (huL m u) true) ⟨⟨[(I rw), (I st)], [⟨0, cw⟩, ⟨0, cv⟩, ⟨m, cu⟩]⟩, [(ws), (vs), (huL m u)]⟩) ∧
((ConOK Tryd.prog 15 (CE1 rw st 0 cw 0 cv m cu ws vs (huL m u) m (r15 2))) ∧ (Con.pre (CE1 rw st 0 cw 0 cv m cu ws vs (huL m u) m (r15 2)) ⟨⟨[(I rw), (I st), (I m)], [⟨0, cw⟩, ⟨0, cv⟩, ⟨m, cu⟩]⟩, [(ws), (vs), (huL m u)]⟩) ∧
((ConOK Tryd.prog 18 (CE2 rw st 0 cw 0 cv m cu ws vs (huL m u) 0 0 (r18 2))) ∧ (Con.pre (CE2 rw st 0 cw 0 cv m cu ws vs (huL m u) 0 0 (r18 2)) ⟨⟨[(I rw), (I st), (I ((↑(0 : Nat) : Int))), (I 0)], [⟨0, cw⟩, ⟨0, cv⟩, ⟨m, cu⟩]⟩, [(ws), (vs), (huL m u)]⟩) ∧
((ConOK Tryd.prog 18 (CE2 rw st 0 cw 0 cv m cu ws vs (huL m u) 0 rw (r18 2))) ∧ (Con.pre (CE2 rw st 0 cw 0 cv m cu ws vs (huL m u) 0 rw (r18 2)) ⟨⟨[(I rw), (I st), (I 0), (I rw)], [⟨0, cw⟩, ⟨0, cv⟩, ⟨m, cu⟩]⟩, [(ws), (vs), (huL m u)]⟩) ∧
((ConOK Tryd.prog 21 (CE1 rw st 0 cw 0 cv m cu ws vs (huL m u) 6 (r21 2))) ∧ (Con.pre (CE1 rw st 0 cw 0 cv m cu ws vs (huL m u) 6 (r21 2)) ⟨⟨[(I rw), (I st), (I 6)], [⟨0, cw⟩, ⟨0, cv⟩, ⟨m, cu⟩]⟩, [(ws), (vs), (huL m u)]⟩) ∧
((((some (.bool ((m : Int) == 0)) : Option Value) = some (.bool false))) ∧
((((((m : Int) ≠ (0 : Int))) ∧ ((IntKind.i64 = IntKind.i64))) ∧ (((I hut) : Value) = (I ((IntKind.i64.wrap wh).tmod (m : Int))))) ∧
((((((0 : Int) ≤ hut)) ∧ (((hut : Int) < m))) ∧ (((.pointer (some ⟨4, 0 + hut * 3, none⟩)) : Value) = (.pointer (some ⟨4, 0 + hut * 3, none⟩)))) ∧
((((0 + hut * 3 + 3 ≤ (huL m u).length)) ∧ (((.agg ⟨[(I ((u hut).fl)), (I ((u hut).br)), (I ((↑(u hut).row : Int)))]⟩) : Value) = (.agg ⟨(List.take 3 (List.drop (0 + hut * 3) (huL m u)))⟩))) ∧
((ConOK Tryd.prog 14 (CSn rw st 0 m cu (huL m u) hut (.tuple ⟨[I 0, I 0, I 0]⟩))) ∧ (Con.pre (CSn rw st 0 m cu (huL m u) hut (.tuple ⟨[I 0, I 0, I 0]⟩)) ⟨⟨[(I rw), (I st), (I hut)], [⟨m, cu⟩]⟩, [(huL m u)]⟩) ∧
((ConOK Tryd.prog 14 (CS1 rw st 0 cw cv m cu tb ws vs (huL m u) hut (.tuple ⟨[I 0, I 0, I 0]⟩))) ∧ (Con.pre (CS1 rw st 0 cw cv m cu tb ws vs (huL m u) hut (.tuple ⟨[I 0, I 0, I 0]⟩)) ⟨⟨[(I rw), (I st), (I hut)], [⟨0, cw⟩, ⟨0, cv⟩, ⟨m, cu⟩]⟩, [(tb), (ws), (vs), (huL m u)]⟩) ∧
((ConOK Tryd.prog 15 (CSn rw st 0 m cu (huL m u) hut (.tuple ⟨[I 0, I 0]⟩))) ∧ (Con.pre (CSn rw st 0 m cu (huL m u) hut (.tuple ⟨[I 0, I 0]⟩)) ⟨⟨[(I rw), (I st), (I hut)], [⟨m, cu⟩]⟩, [(huL m u)]⟩) ∧
((ConOK Tryd.prog 16 (CSn rw st 0 m cu (huL m u) hut (.tuple ⟨[I 0, I 4]⟩))) ∧ (Con.pre (CSn rw st 0 m cu (huL m u) hut (.tuple ⟨[I 0, I 4]⟩)) ⟨⟨[(I rw), (I st), (I hut)], [⟨m, cu⟩]⟩, [(huL m u)]⟩) ∧
((ConOK Tryd.prog 11 (C11t tb)) ∧ (Con.pre (C11t tb) ⟨⟨[], []⟩, [(tb)]⟩) ∧
R (.ret (.bool true))))))))))))))))))) := by kernel_rfl
theorem f4IN (rw st : Int) (n cw n2 cv : Nat) (wh : Int) (t : Value) (tb ws vs : List Value) (R : ARes → Prop) : (vx.call 4 [suN rw st n cw n2 cv, t, .int .u8 wh] (retK R) (mLN tb ws vs) ([(17, .split ((2, .con (C11t tb)) :: []) ((3, .con (C20N rw st n cw n2 cv ws vs false)) :: (28, .con (C20N rw st n cw n2 cv ws vs false)) :: (54, .con (C20N rw st n cw n2 cv ws vs false)) :: (59, .con (C11t tb)) :: []))])) =
((((decide ((if (↑(0 : Nat) : Int) > if (n2 : Int) > (n : Int) then (n2 : Int) else (n : Int) then (↑(0 : Nat) : Int) else if (n2 : Int) > (n : Int) then (n2 : Int) else (n : Int)) > (40 : Int))) = true → ((ConOK Tryd.prog 11 (C11t tb)) ∧ (Con.pre (C11t tb) ⟨⟨[], []⟩, [(tb)]⟩) ∧
R (.ret (.bool true)))) ∧
((decide ((if (↑(0 : Nat) : Int) > if (n2 : Int) > (n : Int) then (n2 : Int) else (n : Int) then (↑(0 : Nat) : Int) else if (n2 : Int) > (n : Int) then (n2 : Int) else (n : Int)) > (40 : Int))) = false → ((ConOK Tryd.prog 20 (C20N rw st n cw n2 cv ws vs false)) ∧ (Con.pre (C20N rw st n cw n2 cv ws vs false) ⟨⟨[(I rw), (I st)], [⟨n, cw⟩, ⟨n2, cv⟩]⟩, [(ws), (vs)]⟩) ∧
((ConOK Tryd.prog 79 (C20N rw st n cw n2 cv ws vs false)) ∧ (Con.pre (C20N rw st n cw n2 cv ws vs false) ⟨⟨[(I rw), (I st)], [⟨n, cw⟩, ⟨n2, cv⟩]⟩, [(ws), (vs)]⟩) ∧
((ConOK Tryd.prog 79 (C20N rw st n cw n2 cv ws vs false)) ∧ (Con.pre (C20N rw st n cw n2 cv ws vs false) ⟨⟨[(I rw), (I st)], [⟨n, cw⟩, ⟨n2, cv⟩]⟩, [(ws), (vs)]⟩) ∧
((ConOK Tryd.prog 11 (C11t tb)) ∧ (Con.pre (C11t tb) ⟨⟨[], []⟩, [(tb)]⟩) ∧
R (.ret (.bool true))))))))) := by kernel_rfl
theorem f4MN (rw st : Int) (n cw n2 cv : Nat) (wh : Int) (t : Value) (tb ws vs : List Value) (R : ARes → Prop) : (vx.call 4 [suN rw st n cw n2 cv, t, .int .u8 wh] (retK R) (mLN tb ws vs) ([(17, .split ((2, .con (C11t tb)) :: []) ((3, .con (C20N rw st n cw n2 cv ws vs true)) :: (31, .con (C20N rw st n cw n2 cv ws vs true)) :: (90, .con (C20N rw st n cw n2 cv ws vs true)) :: (29, .val (.bool false)) :: (63, .con (C20N rw st n cw n2 cv ws vs true)) :: [(29, .split ((18, .val (.bool true)) :: (3, .val (.bool false)) :: (60, .con (C20N rw st n cw n2 cv ws vs true)) :: (91, .con (C11t tb)) :: []) ((61, .con (C20N rw st n cw n2 cv ws vs true)) :: (91, .con (C11t tb)) :: []))]))])) =
((((decide ((if (↑(0 : Nat) : Int) > if (n2 : Int) > (n : Int) then (n2 : Int) else (n : Int) then (↑(0 : Nat) : Int) else if (n2 : Int) > (n : Int) then (n2 : Int) else (n : Int)) > (40 : Int))) = true → ((ConOK Tryd.prog 11 (C11t tb)) ∧ (Con.pre (C11t tb) ⟨⟨[], []⟩, [(tb)]⟩) ∧
R (.ret (.bool true)))) ∧
((decide ((if (↑(0 : Nat) : Int) > if (n2 : Int) > (n : Int) then (n2 : Int) else (n : Int) then (↑(0 : Nat) : Int) else if (n2 : Int) > (n : Int) then (n2 : Int) else (n : Int)) > (40 : Int))) = false → ((ConOK Tryd.prog 20 (C20N rw st n cw n2 cv ws vs true)) ∧ (Con.pre (C20N rw st n cw n2 cv ws vs true) ⟨⟨[(I rw), (I st)], [⟨n, cw⟩, ⟨n2, cv⟩]⟩, [(ws), (vs)]⟩) ∧
((ConOK Tryd.prog 79 (C20N rw st n cw n2 cv ws vs true)) ∧ (Con.pre (C20N rw st n cw n2 cv ws vs true) ⟨⟨[(I rw), (I st)], [⟨n, cw⟩, ⟨n2, cv⟩]⟩, [(ws), (vs)]⟩) ∧
((ConOK Tryd.prog 79 (C20N rw st n cw n2 cv ws vs true)) ∧ (Con.pre (C20N rw st n cw n2 cv ws vs true) ⟨⟨[(I rw), (I st)], [⟨n, cw⟩, ⟨n2, cv⟩]⟩, [(ws), (vs)]⟩) ∧
((((some (.bool (decide ((n : Int) ≤ IntKind.i64.wrap ((n : Int) - (1 : Int))))) : Option Value) = some (.bool false))) ∧
((ConOK Tryd.prog 79 (C20N rw st n cw n2 cv ws vs true)) ∧ (Con.pre (C20N rw st n cw n2 cv ws vs true) ⟨⟨[(I rw), (I st)], [⟨n, cw⟩, ⟨n2, cv⟩]⟩, [(ws), (vs)]⟩) ∧
(((decide ((0 : Int) ≤ IntKind.i64.wrap ((n : Int) - (1 : Int)))) = true → ((((some (.bool (decide ((0 : Int) ≤ rw))) : Option Value) = some (.bool true))) ∧
((((some (.bool (decide (rw ≤ IntKind.i64.wrap (rw - (1 : Int))))) : Option Value) = some (.bool false))) ∧
((ConOK Tryd.prog 79 (C20N rw st n cw n2 cv ws vs true)) ∧ (Con.pre (C20N rw st n cw n2 cv ws vs true) ⟨⟨[(I rw), (I st)], [⟨n, cw⟩, ⟨n2, cv⟩]⟩, [(ws), (vs)]⟩) ∧
((ConOK Tryd.prog 11 (C11t tb)) ∧ (Con.pre (C11t tb) ⟨⟨[], []⟩, [(tb)]⟩) ∧
R (.ret (.bool true))))))) ∧
((decide ((0 : Int) ≤ IntKind.i64.wrap ((n : Int) - (1 : Int)))) = false → ((ConOK Tryd.prog 79 (C20N rw st n cw n2 cv ws vs true)) ∧ (Con.pre (C20N rw st n cw n2 cv ws vs true) ⟨⟨[(I rw), (I st)], [⟨n, cw⟩, ⟨n2, cv⟩]⟩, [(ws), (vs)]⟩) ∧
((ConOK Tryd.prog 11 (C11t tb)) ∧ (Con.pre (C11t tb) ⟨⟨[], []⟩, [(tb)]⟩) ∧
R (.ret (.bool true)))))))))))))) := by kernel_rfl
theorem f4In (rw st : Int) (c1 m cu : Nat) (wh : Int) (t : Value) (tb us : List Value) (R : ARes → Prop) : (vx.call 4 [su_n rw st c1 m cu, t, .int .u8 wh] (retK R) (mLH tb us) ([(17, .split ((2, .con (C11t tb)) :: []) ((3, .con (C20n rw st c1 m cu us false)) :: (28, .con (C20n rw st c1 m cu us false)) :: (54, .con (C20n rw st c1 m cu us false)) :: (59, .con (C11t tb)) :: []))])) =
((((decide ((if (m : Int) > if (↑(0 : Nat) : Int) > (↑(0 : Nat) : Int) then (↑(0 : Nat) : Int) else (↑(0 : Nat) : Int) then (m : Int) else if (↑(0 : Nat) : Int) > (↑(0 : Nat) : Int) then (↑(0 : Nat) : Int) else (↑(0 : Nat) : Int)) > (40 : Int))) = true → ((ConOK Tryd.prog 11 (C11t tb)) ∧ (Con.pre (C11t tb) ⟨⟨[], []⟩, [(tb)]⟩) ∧
R (.ret (.bool true)))) ∧
((decide ((if (m : Int) > if (↑(0 : Nat) : Int) > (↑(0 : Nat) : Int) then (↑(0 : Nat) : Int) else (↑(0 : Nat) : Int) then (m : Int) else if (↑(0 : Nat) : Int) > (↑(0 : Nat) : Int) then (↑(0 : Nat) : Int) else (↑(0 : Nat) : Int)) > (40 : Int))) = false → ((ConOK Tryd.prog 20 (C20n rw st c1 m cu us false)) ∧ (Con.pre (C20n rw st c1 m cu us false) ⟨⟨[(I rw), (I st)], [⟨m, cu⟩]⟩, [(us)]⟩) ∧
((ConOK Tryd.prog 79 (C20n rw st c1 m cu us false)) ∧ (Con.pre (C20n rw st c1 m cu us false) ⟨⟨[(I rw), (I st)], [⟨m, cu⟩]⟩, [(us)]⟩) ∧
((ConOK Tryd.prog 79 (C20n rw st c1 m cu us false)) ∧ (Con.pre (C20n rw st c1 m cu us false) ⟨⟨[(I rw), (I st)], [⟨m, cu⟩]⟩, [(us)]⟩) ∧
((ConOK Tryd.prog 11 (C11t tb)) ∧ (Con.pre (C11t tb) ⟨⟨[], []⟩, [(tb)]⟩) ∧
R (.ret (.bool true))))))))) := by kernel_rfl
theorem f4Mn (rw st : Int) (c1 cu : Nat) (wh : Int) (t : Value) (tb us : List Value) (R : ARes → Prop) : (vx.call 4 [su_n rw st c1 0 cu, t, .int .u8 wh] (retK R) (mLH tb us) ((21, .con (C20n rw st c1 0 cu us true)) :: (31, .con (C20n rw st c1 0 cu us true)) :: (90, .con (C20n rw st c1 0 cu us true)) :: (93, .con (C20n rw st c1 0 cu us true)) :: (91, .con (C20n rw st c1 0 cu us true)) :: (91, .con (C11t tb)) :: [])) =
(((ConOK Tryd.prog 20 (C20n rw st c1 0 cu us true)) ∧ (Con.pre (C20n rw st c1 0 cu us true) ⟨⟨[(I rw), (I st)], [⟨0, cu⟩]⟩, [(us)]⟩) ∧
((ConOK Tryd.prog 79 (C20n rw st c1 0 cu us true)) ∧ (Con.pre (C20n rw st c1 0 cu us true) ⟨⟨[(I rw), (I st)], [⟨0, cu⟩]⟩, [(us)]⟩) ∧
((ConOK Tryd.prog 79 (C20n rw st c1 0 cu us true)) ∧ (Con.pre (C20n rw st c1 0 cu us true) ⟨⟨[(I rw), (I st)], [⟨0, cu⟩]⟩, [(us)]⟩) ∧
((ConOK Tryd.prog 79 (C20n rw st c1 0 cu us true)) ∧ (Con.pre (C20n rw st c1 0 cu us true) ⟨⟨[(I rw), (I st)], [⟨0, cu⟩]⟩, [(us)]⟩) ∧
((ConOK Tryd.prog 79 (C20n rw st c1 0 cu us true)) ∧ (Con.pre (C20n rw st c1 0 cu us true) ⟨⟨[(I rw), (I st)], [⟨0, cu⟩]⟩, [(us)]⟩) ∧
((ConOK Tryd.prog 11 (C11t tb)) ∧ (Con.pre (C11t tb) ⟨⟨[], []⟩, [(tb)]⟩) ∧
R (.ret (.bool true))))))))) := by kernel_rfl
theorem f4Dn (rw st : Int) (c1 m cu : Nat) (hut : Nat) (wh : Int) (t : Value) (tb : List Value) (u : Nat → Hut) (R : ARes → Prop) : (vx.call 4 [su_n rw st c1 m cu, t, .int .u8 wh] (retK R) (mLH tb (huL m u)) ([(17, .split ((2, .con (C11t tb)) :: []) ((3, .con (C20n rw st c1 m cu (huL m u) true)) :: (31, .con (C20n rw st c1 m cu (huL m u) true)) :: (29, .val (.bool false)) :: (60, .con (C20n rw st c1 m cu (huL m u) true)) :: (93, .con (C20n rw st c1 m cu (huL m u) true)) :: (91, .con (C20n rw st c1 m cu (huL m u) true)) :: (89, .val (.bool false)) :: (6, .val (I hut)) :: (55, .val (.pointer (some ⟨4, 0 + hut * 3, none⟩))) :: (0, .val (.agg ⟨[(I ((u hut).fl)), (I ((u hut).br)), (I ((↑(u hut).row : Int)))]⟩)) :: (36, .con (CSn rw st c1 m cu (huL m u) hut (.tuple ⟨[I 0, I 0, I 0]⟩))) :: (9, .con (CSn rw st c1 m cu (huL m u) hut (.tuple ⟨[I 0, I 0, I 0]⟩))) :: (9, .con (CSn rw st c1 m cu (huL m u) hut (.tuple ⟨[I 0, I 0]⟩))) :: (7, .con (CSn rw st c1 m cu (huL m u) hut (.tuple ⟨[I 0, I 4]⟩))) :: (64, .con (C11t tb)) :: []))])) =
((((decide ((if (m : Int) > if (↑(0 : Nat) : Int) > (↑(0 : Nat) : Int) then (↑(0 : Nat) : Int) else (↑(0 : Nat) : Int) then (m : Int) else if (↑(0 : Nat) : Int) > (↑(0 : Nat) : Int) then (↑(0 : Nat) : Int) else (↑(0 : Nat) : Int)) > (40 : Int))) = true → ((ConOK Tryd.prog 11 (C11t tb)) ∧ (Con.pre (C11t tb) ⟨⟨[], []⟩, [(tb)]⟩) ∧
R (.ret (.bool true)))) ∧
((decide ((if (m : Int) > if (↑(0 : Nat) : Int) > (↑(0 : Nat) : Int) then (↑(0 : Nat) : Int) else (↑(0 : Nat) : Int) then (m : Int) else if (↑(0 : Nat) : Int) > (↑(0 : Nat) : Int) then (↑(0 : Nat) : Int) else (↑(0 : Nat) : Int)) > (40 : Int))) = false → ((ConOK Tryd.prog 20 (C20n rw st c1 m cu (huL m u) true)) ∧ (Con.pre (C20n rw st c1 m cu (huL m u) true) ⟨⟨[(I rw), (I st)], [⟨m, cu⟩]⟩, [(huL m u)]⟩) ∧
((ConOK Tryd.prog 79 (C20n rw st c1 m cu (huL m u) true)) ∧ (Con.pre (C20n rw st c1 m cu (huL m u) true) ⟨⟨[(I rw), (I st)], [⟨m, cu⟩]⟩, [(huL m u)]⟩) ∧
((((some (.bool (decide ((m : Int) ≤ IntKind.i64.wrap ((m : Int) - (1 : Int))))) : Option Value) = some (.bool false))) ∧
((ConOK Tryd.prog 79 (C20n rw st c1 m cu (huL m u) true)) ∧ (Con.pre (C20n rw st c1 m cu (huL m u) true) ⟨⟨[(I rw), (I st)], [⟨m, cu⟩]⟩, [(huL m u)]⟩) ∧
((ConOK Tryd.prog 79 (C20n rw st c1 m cu (huL m u) true)) ∧ (Con.pre (C20n rw st c1 m cu (huL m u) true) ⟨⟨[(I rw), (I st)], [⟨m, cu⟩]⟩, [(huL m u)]⟩) ∧
((ConOK Tryd.prog 79 (C20n rw st c1 m cu (huL m u) true)) ∧ (Con.pre (C20n rw st c1 m cu (huL m u) true) ⟨⟨[(I rw), (I st)], [⟨m, cu⟩]⟩, [(huL m u)]⟩) ∧
((((some (.bool ((m : Int) == 0)) : Option Value) = some (.bool false))) ∧
((((((m : Int) ≠ (0 : Int))) ∧ ((IntKind.i64 = IntKind.i64))) ∧ (((I hut) : Value) = (I ((IntKind.i64.wrap wh).tmod (m : Int))))) ∧
((((((0 : Int) ≤ hut)) ∧ (((hut : Int) < m))) ∧ (((.pointer (some ⟨4, 0 + hut * 3, none⟩)) : Value) = (.pointer (some ⟨4, 0 + hut * 3, none⟩)))) ∧
((((0 + hut * 3 + 3 ≤ (huL m u).length)) ∧ (((.agg ⟨[(I ((u hut).fl)), (I ((u hut).br)), (I ((↑(u hut).row : Int)))]⟩) : Value) = (.agg ⟨(List.take 3 (List.drop (0 + hut * 3) (huL m u)))⟩))) ∧
((ConOK Tryd.prog 14 (CSn rw st c1 m cu (huL m u) hut (.tuple ⟨[I 0, I 0, I 0]⟩))) ∧ (Con.pre (CSn rw st c1 m cu (huL m u) hut (.tuple ⟨[I 0, I 0, I 0]⟩)) ⟨⟨[(I rw), (I st), (I hut)], [⟨m, cu⟩]⟩, [(huL m u)]⟩) ∧
((ConOK Tryd.prog 14 (CSn rw st c1 m cu (huL m u) hut (.tuple ⟨[I 0, I 0, I 0]⟩))) ∧ (Con.pre (CSn rw st c1 m cu (huL m u) hut (.tuple ⟨[I 0, I 0, I 0]⟩)) ⟨⟨[(I rw), (I st), (I hut)], [⟨m, cu⟩]⟩, [(huL m u)]⟩) ∧
((ConOK Tryd.prog 15 (CSn rw st c1 m cu (huL m u) hut (.tuple ⟨[I 0, I 0]⟩))) ∧ (Con.pre (CSn rw st c1 m cu (huL m u) hut (.tuple ⟨[I 0, I 0]⟩)) ⟨⟨[(I rw), (I st), (I hut)], [⟨m, cu⟩]⟩, [(huL m u)]⟩) ∧
((ConOK Tryd.prog 16 (CSn rw st c1 m cu (huL m u) hut (.tuple ⟨[I 0, I 4]⟩))) ∧ (Con.pre (CSn rw st c1 m cu (huL m u) hut (.tuple ⟨[I 0, I 4]⟩)) ⟨⟨[(I rw), (I st), (I hut)], [⟨m, cu⟩]⟩, [(huL m u)]⟩) ∧
((ConOK Tryd.prog 11 (C11t tb)) ∧ (Con.pre (C11t tb) ⟨⟨[], []⟩, [(tb)]⟩) ∧
R (.ret (.bool true)))))))))))))))))))) := by kernel_rfl
theorem f4Iv (rw st : Int) (c1 m cu : Nat) (wh : Int) (t : Value) (tb us : List Value) (R : ARes → Prop) : (vx.call 4 [su_v rw st c1 m cu, t, .int .u8 wh] (retK R) (mLH tb us) ([(17, .split ((2, .con (C11t tb)) :: []) ((3, .con (C20v rw st c1 m cu us false)) :: (28, .con (C20v rw st c1 m cu us false)) :: (54, .con (C20v rw st c1 m cu us false)) :: (59, .con (C11t tb)) :: []))])) =
((((decide ((if (m : Int) > if (↑(0 : Nat) : Int) > (↑(0 : Nat) : Int) then (↑(0 : Nat) : Int) else (↑(0 : Nat) : Int) then (m : Int) else if (↑(0 : Nat) : Int) > (↑(0 : Nat) : Int) then (↑(0 : Nat) : Int) else (↑(0 : Nat) : Int)) > (40 : Int))) = true → ((ConOK Tryd.prog 11 (C11t tb)) ∧ (Con.pre (C11t tb) ⟨⟨[], []⟩, [(tb)]⟩) ∧
R (.ret (.bool true)))) ∧
((decide ((if (m : Int) > if (↑(0 : Nat) : Int) > (↑(0 : Nat) : Int) then (↑(0 : Nat) : Int) else (↑(0 : Nat) : Int) then (m : Int) else if (↑(0 : Nat) : Int) > (↑(0 : Nat) : Int) then (↑(0 : Nat) : Int) else (↑(0 : Nat) : Int)) > (40 : Int))) = false → ((ConOK Tryd.prog 20 (C20v rw st c1 m cu us false)) ∧ (Con.pre (C20v rw st c1 m cu us false) ⟨⟨[(I rw), (I st)], [⟨0, c1⟩, ⟨m, cu⟩]⟩, [(us)]⟩) ∧
((ConOK Tryd.prog 79 (C20v rw st c1 m cu us false)) ∧ (Con.pre (C20v rw st c1 m cu us false) ⟨⟨[(I rw), (I st)], [⟨0, c1⟩, ⟨m, cu⟩]⟩, [(us)]⟩) ∧
((ConOK Tryd.prog 79 (C20v rw st c1 m cu us false)) ∧ (Con.pre (C20v rw st c1 m cu us false) ⟨⟨[(I rw), (I st)], [⟨0, c1⟩, ⟨m, cu⟩]⟩, [(us)]⟩) ∧
((ConOK Tryd.prog 11 (C11t tb)) ∧ (Con.pre (C11t tb) ⟨⟨[], []⟩, [(tb)]⟩) ∧
R (.ret (.bool true))))))))) := by kernel_rfl
theorem f4Mv (rw st : Int) (c1 cu : Nat) (wh : Int) (t : Value) (tb us : List Value) (R : ARes → Prop) : (vx.call 4 [su_v rw st c1 0 cu, t, .int .u8 wh] (retK R) (mLH tb us) ((21, .con (C20v rw st c1 0 cu us true)) :: (31, .con (C20v rw st c1 0 cu us true)) :: (90, .con (C20v rw st c1 0 cu us true)) :: (93, .con (C20v rw st c1 0 cu us true)) :: (91, .con (C20v rw st c1 0 cu us true)) :: (91, .con (C11t tb)) :: [])) =
(((ConOK Tryd.prog 20 (C20v rw st c1 0 cu us true)) ∧ (Con.pre (C20v rw st c1 0 cu us true) ⟨⟨[(I rw), (I st)], [⟨0, c1⟩, ⟨0, cu⟩]⟩, [(us)]⟩) ∧
((ConOK Tryd.prog 79 (C20v rw st c1 0 cu us true)) ∧ (Con.pre (C20v rw st c1 0 cu us true) ⟨⟨[(I rw), (I st)], [⟨0, c1⟩, ⟨0, cu⟩]⟩, [(us)]⟩) ∧
((ConOK Tryd.prog 79 (C20v rw st c1 0 cu us true)) ∧ (Con.pre (C20v rw st c1 0 cu us true) ⟨⟨[(I rw), (I st)], [⟨0, c1⟩, ⟨0, cu⟩]⟩, [(us)]⟩) ∧
((ConOK Tryd.prog 79 (C20v rw st c1 0 cu us true)) ∧ (Con.pre (C20v rw st c1 0 cu us true) ⟨⟨[(I rw), (I st)], [⟨0, c1⟩, ⟨0, cu⟩]⟩, [(us)]⟩) ∧
((ConOK Tryd.prog 79 (C20v rw st c1 0 cu us true)) ∧ (Con.pre (C20v rw st c1 0 cu us true) ⟨⟨[(I rw), (I st)], [⟨0, c1⟩, ⟨0, cu⟩]⟩, [(us)]⟩) ∧
((ConOK Tryd.prog 11 (C11t tb)) ∧ (Con.pre (C11t tb) ⟨⟨[], []⟩, [(tb)]⟩) ∧
R (.ret (.bool true))))))))) := by kernel_rfl
theorem f4Dv (rw st : Int) (c1 m cu : Nat) (hut : Nat) (wh : Int) (t : Value) (tb : List Value) (u : Nat → Hut) (R : ARes → Prop) : (vx.call 4 [su_v rw st c1 m cu, t, .int .u8 wh] (retK R) (mLH tb (huL m u)) ([(17, .split ((2, .con (C11t tb)) :: []) ((3, .con (C20v rw st c1 m cu (huL m u) true)) :: (31, .con (C20v rw st c1 m cu (huL m u) true)) :: (29, .val (.bool false)) :: (60, .con (C20v rw st c1 m cu (huL m u) true)) :: (93, .con (C20v rw st c1 m cu (huL m u) true)) :: (91, .con (C20v rw st c1 m cu (huL m u) true)) :: (89, .val (.bool false)) :: (6, .val (I hut)) :: (55, .val (.pointer (some ⟨4, 0 + hut * 3, none⟩))) :: (0, .val (.agg ⟨[(I ((u hut).fl)), (I ((u hut).br)), (I ((↑(u hut).row : Int)))]⟩)) :: (36, .con (CSn rw st 0 m cu (huL m u) hut (.tuple ⟨[I 0, I 0, I 0]⟩))) :: (9, .con (CSv rw st c1 m cu (huL m u) hut (.tuple ⟨[I 0, I 0, I 0]⟩))) :: (9, .con (CSn rw st 0 m cu (huL m u) hut (.tuple ⟨[I 0, I 0]⟩))) :: (7, .con (CSn rw st 0 m cu (huL m u) hut (.tuple ⟨[I 0, I 4]⟩))) :: (64, .con (C11t tb)) :: []))])) =
((((decide ((if (m : Int) > if (↑(0 : Nat) : Int) > (↑(0 : Nat) : Int) then (↑(0 : Nat) : Int) else (↑(0 : Nat) : Int) then (m : Int) else if (↑(0 : Nat) : Int) > (↑(0 : Nat) : Int) then (↑(0 : Nat) : Int) else (↑(0 : Nat) : Int)) > (40 : Int))) = true → ((ConOK Tryd.prog 11 (C11t tb)) ∧ (Con.pre (C11t tb) ⟨⟨[], []⟩, [(tb)]⟩) ∧
R (.ret (.bool true)))) ∧
((decide ((if (m : Int) > if (↑(0 : Nat) : Int) > (↑(0 : Nat) : Int) then (↑(0 : Nat) : Int) else (↑(0 : Nat) : Int) then (m : Int) else if (↑(0 : Nat) : Int) > (↑(0 : Nat) : Int) then (↑(0 : Nat) : Int) else (↑(0 : Nat) : Int)) > (40 : Int))) = false → ((ConOK Tryd.prog 20 (C20v rw st c1 m cu (huL m u) true)) ∧ (Con.pre (C20v rw st c1 m cu (huL m u) true) ⟨⟨[(I rw), (I st)], [⟨0, c1⟩, ⟨m, cu⟩]⟩, [(huL m u)]⟩) ∧
((ConOK Tryd.prog 79 (C20v rw st c1 m cu (huL m u) true)) ∧ (Con.pre (C20v rw st c1 m cu (huL m u) true) ⟨⟨[(I rw), (I st)], [⟨0, c1⟩, ⟨m, cu⟩]⟩, [(huL m u)]⟩) ∧
((((some (.bool (decide ((m : Int) ≤ IntKind.i64.wrap ((m : Int) - (1 : Int))))) : Option Value) = some (.bool false))) ∧
((ConOK Tryd.prog 79 (C20v rw st c1 m cu (huL m u) true)) ∧ (Con.pre (C20v rw st c1 m cu (huL m u) true) ⟨⟨[(I rw), (I st)], [⟨0, c1⟩, ⟨m, cu⟩]⟩, [(huL m u)]⟩) ∧
((ConOK Tryd.prog 79 (C20v rw st c1 m cu (huL m u) true)) ∧ (Con.pre (C20v rw st c1 m cu (huL m u) true) ⟨⟨[(I rw), (I st)], [⟨0, c1⟩, ⟨m, cu⟩]⟩, [(huL m u)]⟩) ∧
((ConOK Tryd.prog 79 (C20v rw st c1 m cu (huL m u) true)) ∧ (Con.pre (C20v rw st c1 m cu (huL m u) true) ⟨⟨[(I rw), (I st)], [⟨0, c1⟩, ⟨m, cu⟩]⟩, [(huL m u)]⟩) ∧
((((some (.bool ((m : Int) == 0)) : Option Value) = some (.bool false))) ∧
((((((m : Int) ≠ (0 : Int))) ∧ ((IntKind.i64 = IntKind.i64))) ∧ (((I hut) : Value) = (I ((IntKind.i64.wrap wh).tmod (m : Int))))) ∧
((((((0 : Int) ≤ hut)) ∧ (((hut : Int) < m))) ∧ (((.pointer (some ⟨4, 0 + hut * 3, none⟩)) : Value) = (.pointer (some ⟨4, 0 + hut * 3, none⟩)))) ∧
((((0 + hut * 3 + 3 ≤ (huL m u).length)) ∧ (((.agg ⟨[(I ((u hut).fl)), (I ((u hut).br)), (I ((↑(u hut).row : Int)))]⟩) : Value) = (.agg ⟨(List.take 3 (List.drop (0 + hut * 3) (huL m u)))⟩))) ∧
((ConOK Tryd.prog 14 (CSn rw st 0 m cu (huL m u) hut (.tuple ⟨[I 0, I 0, I 0]⟩))) ∧ (Con.pre (CSn rw st 0 m cu (huL m u) hut (.tuple ⟨[I 0, I 0, I 0]⟩)) ⟨⟨[(I rw), (I st), (I hut)], [⟨m, cu⟩]⟩, [(huL m u)]⟩) ∧
((ConOK Tryd.prog 14 (CSv rw st c1 m cu (huL m u) hut (.tuple ⟨[I 0, I 0, I 0]⟩))) ∧ (Con.pre (CSv rw st c1 m cu (huL m u) hut (.tuple ⟨[I 0, I 0, I 0]⟩)) ⟨⟨[(I rw), (I st), (I hut)], [⟨0, c1⟩, ⟨m, cu⟩]⟩, [(huL m u)]⟩) ∧
((ConOK Tryd.prog 15 (CSn rw st 0 m cu (huL m u) hut (.tuple ⟨[I 0, I 0]⟩))) ∧ (Con.pre (CSn rw st 0 m cu (huL m u) hut (.tuple ⟨[I 0, I 0]⟩)) ⟨⟨[(I rw), (I st), (I hut)], [⟨m, cu⟩]⟩, [(huL m u)]⟩) ∧
((ConOK Tryd.prog 16 (CSn rw st 0 m cu (huL m u) hut (.tuple ⟨[I 0, I 4]⟩))) ∧ (Con.pre (CSn rw st 0 m cu (huL m u) hut (.tuple ⟨[I 0, I 4]⟩)) ⟨⟨[(I rw), (I st), (I hut)], [⟨m, cu⟩]⟩, [(huL m u)]⟩) ∧
((ConOK Tryd.prog 11 (C11t tb)) ∧ (Con.pre (C11t tb) ⟨⟨[], []⟩, [(tb)]⟩) ∧
R (.ret (.bool true)))))))))))))))))))) := by kernel_rfl
theorem f4Iw (rw st : Int) (c1 m cu : Nat) (wh : Int) (t : Value) (tb us : List Value) (R : ARes → Prop) : (vx.call 4 [su_w rw st c1 m cu, t, .int .u8 wh] (retK R) (mLH tb us) ([(17, .split ((2, .con (C11t tb)) :: []) ((3, .con (C20w rw st c1 m cu us false)) :: (28, .con (C20w rw st c1 m cu us false)) :: (54, .con (C20w rw st c1 m cu us false)) :: (59, .con (C11t tb)) :: []))])) =
((((decide ((if (m : Int) > if (↑(0 : Nat) : Int) > (↑(0 : Nat) : Int) then (↑(0 : Nat) : Int) else (↑(0 : Nat) : Int) then (m : Int) else if (↑(0 : Nat) : Int) > (↑(0 : Nat) : Int) then (↑(0 : Nat) : Int) else (↑(0 : Nat) : Int)) > (40 : Int))) = true → ((ConOK Tryd.prog 11 (C11t tb)) ∧ (Con.pre (C11t tb) ⟨⟨[], []⟩, [(tb)]⟩) ∧
R (.ret (.bool true)))) ∧
((decide ((if (m : Int) > if (↑(0 : Nat) : Int) > (↑(0 : Nat) : Int) then (↑(0 : Nat) : Int) else (↑(0 : Nat) : Int) then (m : Int) else if (↑(0 : Nat) : Int) > (↑(0 : Nat) : Int) then (↑(0 : Nat) : Int) else (↑(0 : Nat) : Int)) > (40 : Int))) = false → ((ConOK Tryd.prog 20 (C20w rw st c1 m cu us false)) ∧ (Con.pre (C20w rw st c1 m cu us false) ⟨⟨[(I rw), (I st)], [⟨0, c1⟩, ⟨m, cu⟩]⟩, [(us)]⟩) ∧
((ConOK Tryd.prog 79 (C20w rw st c1 m cu us false)) ∧ (Con.pre (C20w rw st c1 m cu us false) ⟨⟨[(I rw), (I st)], [⟨0, c1⟩, ⟨m, cu⟩]⟩, [(us)]⟩) ∧
((ConOK Tryd.prog 79 (C20w rw st c1 m cu us false)) ∧ (Con.pre (C20w rw st c1 m cu us false) ⟨⟨[(I rw), (I st)], [⟨0, c1⟩, ⟨m, cu⟩]⟩, [(us)]⟩) ∧
((ConOK Tryd.prog 11 (C11t tb)) ∧ (Con.pre (C11t tb) ⟨⟨[], []⟩, [(tb)]⟩) ∧
R (.ret (.bool true))))))))) := by kernel_rfl
theorem f4Mw (rw st : Int) (c1 cu : Nat) (wh : Int) (t : Value) (tb us : List Value) (R : ARes → Prop) : (vx.call 4 [su_w rw st c1 0 cu, t, .int .u8 wh] (retK R) (mLH tb us) ((21, .con (C20w rw st c1 0 cu us true)) :: (31, .con (C20w rw st c1 0 cu us true)) :: (90, .con (C20w rw st c1 0 cu us true)) :: (93, .con (C20w rw st c1 0 cu us true)) :: (91, .con (C20w rw st c1 0 cu us true)) :: (91, .con (C11t tb)) :: [])) =
(((ConOK Tryd.prog 20 (C20w rw st c1 0 cu us true)) ∧ (Con.pre (C20w rw st c1 0 cu us true) ⟨⟨[(I rw), (I st)], [⟨0, c1⟩, ⟨0, cu⟩]⟩, [(us)]⟩) ∧
((ConOK Tryd.prog 79 (C20w rw st c1 0 cu us true)) ∧ (Con.pre (C20w rw st c1 0 cu us true) ⟨⟨[(I rw), (I st)], [⟨0, c1⟩, ⟨0, cu⟩]⟩, [(us)]⟩) ∧
((ConOK Tryd.prog 79 (C20w rw st c1 0 cu us true)) ∧ (Con.pre (C20w rw st c1 0 cu us true) ⟨⟨[(I rw), (I st)], [⟨0, c1⟩, ⟨0, cu⟩]⟩, [(us)]⟩) ∧
((ConOK Tryd.prog 79 (C20w rw st c1 0 cu us true)) ∧ (Con.pre (C20w rw st c1 0 cu us true) ⟨⟨[(I rw), (I st)], [⟨0, c1⟩, ⟨0, cu⟩]⟩, [(us)]⟩) ∧
((ConOK Tryd.prog 79 (C20w rw st c1 0 cu us true)) ∧ (Con.pre (C20w rw st c1 0 cu us true) ⟨⟨[(I rw), (I st)], [⟨0, c1⟩, ⟨0, cu⟩]⟩, [(us)]⟩) ∧
((ConOK Tryd.prog 11 (C11t tb)) ∧ (Con.pre (C11t tb) ⟨⟨[], []⟩, [(tb)]⟩) ∧
R (.ret (.bool true))))))))) := by kernel_rfl
theorem f4Dw (rw st : Int) (c1 m cu : Nat) (hut : Nat) (wh : Int) (t : Value) (tb : List Value) (u : Nat → Hut) (R : ARes → Prop) : (vx.call 4 [su_w rw st c1 m cu, t, .int .u8 wh] (retK R) (mLH tb (huL m u)) ([(17, .split ((2, .con (C11t tb)) :: []) ((3, .con (C20w rw st c1 m cu (huL m u) true)) :: (31, .con (C20w rw st c1 m cu (huL m u) true)) :: (29, .val (.bool false)) :: (60, .con (C20w rw st c1 m cu (huL m u) true)) :: (93, .con (C20w rw st c1 m cu (huL m u) true)) :: (91, .con (C20w rw st c1 m cu (huL m u) true)) :: (89, .val (.bool false)) :: (6, .val (I hut)) :: (55, .val (.pointer (some ⟨4, 0 + hut * 3, none⟩))) :: (0, .val (.agg ⟨[(I ((u hut).fl)), (I ((u hut).br)), (I ((↑(u hut).row : Int)))]⟩)) :: (36, .con (CSn rw st 0 m cu (huL m u) hut (.tuple ⟨[I 0, I 0, I 0]⟩))) :: (9, .con (CSw rw st c1 m cu (huL m u) hut (.tuple ⟨[I 0, I 0, I 0]⟩))) :: (9, .con (CSn rw st 0 m cu (huL m u) hut (.tuple ⟨[I 0, I 0]⟩))) :: (7, .con (CSn rw st 0 m cu (huL m u) hut (.tuple ⟨[I 0, I 4]⟩))) :: (64, .con (C11t tb)) :: []))])) =
((((decide ((if (m : Int) > if (↑(0 : Nat) : Int) > (↑(0 : Nat) : Int) then (↑(0 : Nat) : Int) else (↑(0 : Nat) : Int) then (m : Int) else if (↑(0 : Nat) : Int) > (↑(0 : Nat) : Int) then (↑(0 : Nat) : Int) else (↑(0 : Nat) : Int)) > (40 : Int))) = true → ((ConOK Tryd.prog 11 (C11t tb)) ∧ (Con.pre (C11t tb) ⟨⟨[], []⟩, [(tb)]⟩) ∧
R (.ret (.bool true)))) ∧
((decide ((if (m : Int) > if (↑(0 : Nat) : Int) > (↑(0 : Nat) : Int) then (↑(0 : Nat) : Int) else (↑(0 : Nat) : Int) then (m : Int) else if (↑(0 : Nat) : Int) > (↑(0 : Nat) : Int) then (↑(0 : Nat) : Int) else (↑(0 : Nat) : Int)) > (40 : Int))) = false → ((ConOK Tryd.prog 20 (C20w rw st c1 m cu (huL m u) true)) ∧ (Con.pre (C20w rw st c1 m cu (huL m u) true) ⟨⟨[(I rw), (I st)], [⟨0, c1⟩, ⟨m, cu⟩]⟩, [(huL m u)]⟩) ∧
((ConOK Tryd.prog 79 (C20w rw st c1 m cu (huL m u) true)) ∧ (Con.pre (C20w rw st c1 m cu (huL m u) true) ⟨⟨[(I rw), (I st)], [⟨0, c1⟩, ⟨m, cu⟩]⟩, [(huL m u)]⟩) ∧
((((some (.bool (decide ((m : Int) ≤ IntKind.i64.wrap ((m : Int) - (1 : Int))))) : Option Value) = some (.bool false))) ∧
((ConOK Tryd.prog 79 (C20w rw st c1 m cu (huL m u) true)) ∧ (Con.pre (C20w rw st c1 m cu (huL m u) true) ⟨⟨[(I rw), (I st)], [⟨0, c1⟩, ⟨m, cu⟩]⟩, [(huL m u)]⟩) ∧
((ConOK Tryd.prog 79 (C20w rw st c1 m cu (huL m u) true)) ∧ (Con.pre (C20w rw st c1 m cu (huL m u) true) ⟨⟨[(I rw), (I st)], [⟨0, c1⟩, ⟨m, cu⟩]⟩, [(huL m u)]⟩) ∧
((ConOK Tryd.prog 79 (C20w rw st c1 m cu (huL m u) true)) ∧ (Con.pre (C20w rw st c1 m cu (huL m u) true) ⟨⟨[(I rw), (I st)], [⟨0, c1⟩, ⟨m, cu⟩]⟩, [(huL m u)]⟩) ∧
((((some (.bool ((m : Int) == 0)) : Option Value) = some (.bool false))) ∧
((((((m : Int) ≠ (0 : Int))) ∧ ((IntKind.i64 = IntKind.i64))) ∧ (((I hut) : Value) = (I ((IntKind.i64.wrap wh).tmod (m : Int))))) ∧
((((((0 : Int) ≤ hut)) ∧ (((hut : Int) < m))) ∧ (((.pointer (some ⟨4, 0 + hut * 3, none⟩)) : Value) = (.pointer (some ⟨4, 0 + hut * 3, none⟩)))) ∧
((((0 + hut * 3 + 3 ≤ (huL m u).length)) ∧ (((.agg ⟨[(I ((u hut).fl)), (I ((u hut).br)), (I ((↑(u hut).row : Int)))]⟩) : Value) = (.agg ⟨(List.take 3 (List.drop (0 + hut * 3) (huL m u)))⟩))) ∧
((ConOK Tryd.prog 14 (CSn rw st 0 m cu (huL m u) hut (.tuple ⟨[I 0, I 0, I 0]⟩))) ∧ (Con.pre (CSn rw st 0 m cu (huL m u) hut (.tuple ⟨[I 0, I 0, I 0]⟩)) ⟨⟨[(I rw), (I st), (I hut)], [⟨m, cu⟩]⟩, [(huL m u)]⟩) ∧
((ConOK Tryd.prog 14 (CSw rw st c1 m cu (huL m u) hut (.tuple ⟨[I 0, I 0, I 0]⟩))) ∧ (Con.pre (CSw rw st c1 m cu (huL m u) hut (.tuple ⟨[I 0, I 0, I 0]⟩)) ⟨⟨[(I rw), (I st), (I hut)], [⟨0, c1⟩, ⟨m, cu⟩]⟩, [(huL m u)]⟩) ∧
((ConOK Tryd.prog 15 (CSn rw st 0 m cu (huL m u) hut (.tuple ⟨[I 0, I 0]⟩))) ∧ (Con.pre (CSn rw st 0 m cu (huL m u) hut (.tuple ⟨[I 0, I 0]⟩)) ⟨⟨[(I rw), (I st), (I hut)], [⟨m, cu⟩]⟩, [(huL m u)]⟩) ∧
((ConOK Tryd.prog 16 (CSn rw st 0 m cu (huL m u) hut (.tuple ⟨[I 0, I 4]⟩))) ∧ (Con.pre (CSn rw st 0 m cu (huL m u) hut (.tuple ⟨[I 0, I 4]⟩)) ⟨⟨[(I rw), (I st), (I hut)], [⟨m, cu⟩]⟩, [(huL m u)]⟩) ∧
((ConOK Tryd.prog 11 (C11t tb)) ∧ (Con.pre (C11t tb) ⟨⟨[], []⟩, [(tb)]⟩) ∧
R (.ret (.bool true)))))))))))))))))))) := by kernel_rfl
theorem f20nnN (rw st : Int) (b1 b2 : Bool) (R : ARes → Prop) : (vx.call 20 [.agg ⟨[I rw, I st, nilS, nilS, nilS]⟩] (retK R) mD5 ((5, .con (C52 rw 1 6 b1)) :: [(0, .split ([]) ((3, .con (C52 st 0 4 b2)) :: [(0, .split ([]) ([]))]))])) =
(((ConOK Tryd.prog 52 (C52 rw 1 6 b1)) ∧ (Con.pre (C52 rw 1 6 b1) ⟨⟨[(I rw), (I 1), (I 6)], []⟩, []⟩) ∧
(((!b1) = true → R (.ret (.bool false))) ∧
((!b1) = false → ((ConOK Tryd.prog 52 (C52 st 0 4 b2)) ∧ (Con.pre (C52 st 0 4 b2) ⟨⟨[(I st), (I 0), (I 4)], []⟩, []⟩) ∧
(((!b2) = true → R (.ret (.bool false))) ∧
((!b2) = false → R (.ret (.bool true))))))))) := by kernel_rfl
theorem f79nnN (rw st : Int) (b1 b2 : Bool) (R : ARes → Prop) : (vx.call 79 [.agg ⟨[I rw, I st, nilS, nilS, nilS]⟩] (retK R) mD5 ((5, .con (CWI rw 1 6 b1)) :: [(0, .split ([]) ((3, .con (CWI st 0 4 b2)) :: [(0, .split ([]) ([]))]))])) =
(((ConOK Tryd.prog 56 (CWI rw 1 6 b1)) ∧ (Con.pre (CWI rw 1 6 b1) ⟨⟨[(I rw), (I 1), (I 6)], []⟩, []⟩) ∧
(((!b1) = true → R (.ret (.bool false))) ∧
((!b1) = false → ((ConOK Tryd.prog 56 (CWI st 0 4 b2)) ∧ (Con.pre (CWI st 0 4 b2) ⟨⟨[(I st), (I 0), (I 4)], []⟩, []⟩) ∧
(((!b2) = true → R (.ret (.bool false))) ∧
((!b2) = false → R (.ret (.bool true))))))))) := by kernel_rfl
theorem f4InnN (rw st : Int) (wh : Int) (t : Value) (tb : List Value) (R : ARes → Prop) : (vx.call 4 [.agg ⟨[I rw, I st, nilS, nilS, nilS]⟩, t, .int .u8 wh] (retK R) (mL0 tb) ((21, .con (CX PnnN rw st [] false)) :: (28, .con (CX PnnN rw st [] false)) :: (54, .con (CX PnnN rw st [] false)) :: (59, .con (C11t tb)) :: [])) =
(((ConOK Tryd.prog 20 (CX PnnN rw st [] false)) ∧ (Con.pre (CX PnnN rw st [] false) ⟨⟨[(I rw), (I st)], []⟩, []⟩) ∧
((ConOK Tryd.prog 79 (CX PnnN rw st [] false)) ∧ (Con.pre (CX PnnN rw st [] false) ⟨⟨[(I rw), (I st)], []⟩, []⟩) ∧
((ConOK Tryd.prog 79 (CX PnnN rw st [] false)) ∧ (Con.pre (CX PnnN rw st [] false) ⟨⟨[(I rw), (I st)], []⟩, []⟩) ∧
((ConOK Tryd.prog 11 (C11t tb)) ∧ (Con.pre (C11t tb) ⟨⟨[], []⟩, [(tb)]⟩) ∧
R (.ret (.bool true))))))) := by kernel_rfl
theorem f4MnnN (rw st : Int) (wh : Int) (t : Value) (tb : List Value) (R : ARes → Prop) : (vx.call 4 [.agg ⟨[I rw, I st, nilS, nilS, nilS]⟩, t, .int .u8 wh] (retK R) (mL0 tb) ((21, .con (CX PnnN rw st [] true)) :: (31, .con (CX PnnN rw st [] true)) :: (90, .con (CX PnnN rw st [] true)) :: (93, .con (CX PnnN rw st [] true)) :: (91, .con (CX PnnN rw st [] true)) :: (91, .con (C11t tb)) :: [])) =
(((ConOK Tryd.prog 20 (CX PnnN rw st [] true)) ∧ (Con.pre (CX PnnN rw st [] true) ⟨⟨[(I rw), (I st)], []⟩, []⟩) ∧
((ConOK Tryd.prog 79 (CX PnnN rw st [] true)) ∧ (Con.pre (CX PnnN rw st [] true) ⟨⟨[(I rw), (I st)], []⟩, []⟩) ∧
((ConOK Tryd.prog 79 (CX PnnN rw st [] true)) ∧ (Con.pre (CX PnnN rw st [] true) ⟨⟨[(I rw), (I st)], []⟩, []⟩) ∧
((ConOK Tryd.prog 79 (CX PnnN rw st [] true)) ∧ (Con.pre (CX PnnN rw st [] true) ⟨⟨[(I rw), (I st)], []⟩, []⟩) ∧
((ConOK Tryd.prog 79 (CX PnnN rw st [] true)) ∧ (Con.pre (CX PnnN rw st [] true) ⟨⟨[(I rw), (I st)], []⟩, []⟩) ∧
((ConOK Tryd.prog 11 (C11t tb)) ∧ (Con.pre (C11t tb) ⟨⟨[], []⟩, [(tb)]⟩) ∧
R (.ret (.bool true))))))))) := by kernel_rfl
theorem f20nvN (rw st : Int) (c1 : Nat) (b1 b2 : Bool) (R : ARes → Prop) : (vx.call 20 [.agg ⟨[I rw, I st, nilS, slV 3 0 c1, nilS]⟩] (retK R) mD5 ((5, .con (C52 rw 1 6 b1)) :: [(0, .split ([]) ((3, .con (C52 st 0 4 b2)) :: [(0, .split ([]) ([]))]))])) =
(((ConOK Tryd.prog 52 (C52 rw 1 6 b1)) ∧ (Con.pre (C52 rw 1 6 b1) ⟨⟨[(I rw), (I 1), (I 6)], []⟩, []⟩) ∧
(((!b1) = true → R (.ret (.bool false))) ∧
((!b1) = false → ((ConOK Tryd.prog 52 (C52 st 0 4 b2)) ∧ (Con.pre (C52 st 0 4 b2) ⟨⟨[(I st), (I 0), (I 4)], []⟩, []⟩) ∧
(((!b2) = true → R (.ret (.bool false))) ∧
((!b2) = false → R (.ret (.bool true))))))))) := by kernel_rfl
theorem f79nvN (rw st : Int) (c1 : Nat) (b1 b2 : Bool) (R : ARes → Prop) : (vx.call 79 [.agg ⟨[I rw, I st, nilS, slV 3 0 c1, nilS]⟩] (retK R) mD5 ((5, .con (CWI rw 1 6 b1)) :: [(0, .split ([]) ((3, .con (CWI st 0 4 b2)) :: [(0, .split ([]) ([]))]))])) =
(((ConOK Tryd.prog 56 (CWI rw 1 6 b1)) ∧ (Con.pre (CWI rw 1 6 b1) ⟨⟨[(I rw), (I 1), (I 6)], []⟩, []⟩) ∧
(((!b1) = true → R (.ret (.bool false))) ∧
((!b1) = false → ((ConOK Tryd.prog 56 (CWI st 0 4 b2)) ∧ (Con.pre (CWI st 0 4 b2) ⟨⟨[(I st), (I 0), (I 4)], []⟩, []⟩) ∧
(((!b2) = true → R (.ret (.bool false))) ∧
((!b2) = false → R (.ret (.bool true))))))))) := by kernel_rfl
theorem f4InvN (rw st : Int) (c1 : Nat) (wh : Int) (t : Value) (tb : List Value) (R : ARes → Prop) : (vx.call 4 [.agg ⟨[I rw, I st, nilS, slV 3 0 c1, nilS]⟩, t, .int .u8 wh] (retK R) (mL0 tb) ((21, .con (CX PnkN rw st [(0, c1)] false)) :: (28, .con (CX PnkN rw st [(0, c1)] false)) :: (54, .con (CX PnkN rw st [(0, c1)] false)) :: (59, .con (C11t tb)) :: [])) =
(((ConOK Tryd.prog 20 (CX PnkN rw st [(0, c1)] false)) ∧ (Con.pre (CX PnkN rw st [(0, c1)] false) ⟨⟨[(I rw), (I st)], [⟨0, c1⟩]⟩, []⟩) ∧
((ConOK Tryd.prog 79 (CX PnkN rw st [(0, c1)] false)) ∧ (Con.pre (CX PnkN rw st [(0, c1)] false) ⟨⟨[(I rw), (I st)], [⟨0, c1⟩]⟩, []⟩) ∧
((ConOK Tryd.prog 79 (CX PnkN rw st [(0, c1)] false)) ∧ (Con.pre (CX PnkN rw st [(0, c1)] false) ⟨⟨[(I rw), (I st)], [⟨0, c1⟩]⟩, []⟩) ∧
((ConOK Tryd.prog 11 (C11t tb)) ∧ (Con.pre (C11t tb) ⟨⟨[], []⟩, [(tb)]⟩) ∧
R (.ret (.bool true))))))) := by kernel_rfl
theorem f4MnvN (rw st : Int) (c1 : Nat) (wh : Int) (t : Value) (tb : List Value) (R : ARes → Prop) : (vx.call 4 [.agg ⟨[I rw, I st, nilS, slV 3 0 c1, nilS]⟩, t, .int .u8 wh] (retK R) (mL0 tb) ((21, .con (CX PnkN rw st [(0, c1)] true)) :: (31, .con (CX PnkN rw st [(0, c1)] true)) :: (90, .con (CX PnkN rw st [(0, c1)] true)) :: (93, .con (CX PnkN rw st [(0, c1)] true)) :: (91, .con (CX PnkN rw st [(0, c1)] true)) :: (91, .con (C11t tb)) :: [])) =
(((ConOK Tryd.prog 20 (CX PnkN rw st [(0, c1)] true)) ∧ (Con.pre (CX PnkN rw st [(0, c1)] true) ⟨⟨[(I rw), (I st)], [⟨0, c1⟩]⟩, []⟩) ∧
((ConOK Tryd.prog 79 (CX PnkN rw st [(0, c1)] true)) ∧ (Con.pre (CX PnkN rw st [(0, c1)] true) ⟨⟨[(I rw), (I st)], [⟨0, c1⟩]⟩, []⟩) ∧
((ConOK Tryd.prog 79 (CX PnkN rw st [(0, c1)] true)) ∧ (Con.pre (CX PnkN rw st [(0, c1)] true) ⟨⟨[(I rw), (I st)], [⟨0, c1⟩]⟩, []⟩) ∧
((ConOK Tryd.prog 79 (CX PnkN rw st [(0, c1)] true)) ∧ (Con.pre (CX PnkN rw st [(0, c1)] true) ⟨⟨[(I rw), (I st)], [⟨0, c1⟩]⟩, []⟩) ∧
((ConOK Tryd.prog 79 (CX PnkN rw st [(0, c1)] true)) ∧ (Con.pre (CX PnkN rw st [(0, c1)] true) ⟨⟨[(I rw), (I st)], [⟨0, c1⟩]⟩, []⟩) ∧
((ConOK Tryd.prog 11 (C11t tb)) ∧ (Con.pre (C11t tb) ⟨⟨[], []⟩, [(tb)]⟩) ∧
R (.ret (.bool true))))))))) := by kernel_rfl
theorem f20wnN (rw st : Int) (c1 : Nat) (b1 b2 : Bool) (R : ARes → Prop) : (vx.call 20 [.agg ⟨[I rw, I st, slV 2 0 c1, nilS, nilS]⟩] (retK R) mD5 ((5, .con (C52 rw 1 6 b1)) :: [(0, .split ([]) ((3, .con (C52 st 0 4 b2)) :: [(0, .split ([]) ([]))]))])) =
(((ConOK Tryd.prog 52 (C52 rw 1 6 b1)) ∧ (Con.pre (C52 rw 1 6 b1) ⟨⟨[(I rw), (I 1), (I 6)], []⟩, []⟩) ∧
(((!b1) = true → R (.ret (.bool false))) ∧
((!b1) = false → ((ConOK Tryd.prog 52 (C52 st 0 4 b2)) ∧ (Con.pre (C52 st 0 4 b2) ⟨⟨[(I st), (I 0), (I 4)], []⟩, []⟩) ∧
(((!b2) = true → R (.ret (.bool false))) ∧
((!b2) = false → R (.ret (.bool true))))))))) := by kernel_rfl
theorem f79wnN (rw st : Int) (c1 : Nat) (b1 b2 : Bool) (R : ARes → Prop) : (vx.call 79 [.agg ⟨[I rw, I st, slV 2 0 c1, nilS, nilS]⟩] (retK R) mD5 ((5, .con (CWI rw 1 6 b1)) :: [(0, .split ([]) ((3, .con (CWI st 0 4 b2)) :: [(0, .split ([]) ([]))]))])) =
(((ConOK Tryd.prog 56 (CWI rw 1 6 b1)) ∧ (Con.pre (CWI rw 1 6 b1) ⟨⟨[(I rw), (I 1), (I 6)], []⟩, []⟩) ∧
(((!b1) = true → R (.ret (.bool false))) ∧
((!b1) = false → ((ConOK Tryd.prog 56 (CWI st 0 4 b2)) ∧ (Con.pre (CWI st 0 4 b2) ⟨⟨[(I st), (I 0), (I 4)], []⟩, []⟩) ∧
(((!b2) = true → R (.ret (.bool false))) ∧
((!b2) = false → R (.ret (.bool true))))))))) := by kernel_rfl
theorem f4IwnN (rw st : Int) (c1 : Nat) (wh : Int) (t : Value) (tb : List Value) (R : ARes → Prop) : (vx.call 4 [.agg ⟨[I rw, I st, slV 2 0 c1, nilS, nilS]⟩, t, .int .u8 wh] (retK R) (mL0 tb) ((21, .con (CX PknN rw st [(0, c1)] false)) :: (28, .con (CX PknN rw st [(0, c1)] false)) :: (54, .con (CX PknN rw st [(0, c1)] false)) :: (59, .con (C11t tb)) :: [])) =
(((ConOK Tryd.prog 20 (CX PknN rw st [(0, c1)] false)) ∧ (Con.pre (CX PknN rw st [(0, c1)] false) ⟨⟨[(I rw), (I st)], [⟨0, c1⟩]⟩, []⟩) ∧
((ConOK Tryd.prog 79 (CX PknN rw st [(0, c1)] false)) ∧ (Con.pre (CX PknN rw st [(0, c1)] false) ⟨⟨[(I rw), (I st)], [⟨0, c1⟩]⟩, []⟩) ∧
((ConOK Tryd.prog 79 (CX PknN rw st [(0, c1)] false)) ∧ (Con.pre (CX PknN rw st [(0, c1)] false) ⟨⟨[(I rw), (I st)], [⟨0, c1⟩]⟩, []⟩) ∧
((ConOK Tryd.prog 11 (C11t tb)) ∧ (Con.pre (C11t tb) ⟨⟨[], []⟩, [(tb)]⟩) ∧
R (.ret (.bool true))))))) := by kernel_rfl
theorem f4MwnN (rw st : Int) (c1 : Nat) (wh : Int) (t : Value) (tb : List Value) (R : ARes → Prop) : (vx.call 4 [.agg ⟨[I rw, I st, slV 2 0 c1, nilS, nilS]⟩, t, .int .u8 wh] (retK R) (mL0 tb) ((21, .con (CX PknN rw st [(0, c1)] true)) :: (31, .con (CX PknN rw st [(0, c1)] true)) :: (90, .con (CX PknN rw st [(0, c1)] true)) :: (93, .con (CX PknN rw st [(0, c1)] true)) :: (91, .con (CX PknN rw st [(0, c1)] true)) :: (91, .con (C11t tb)) :: [])) =
(((ConOK Tryd.prog 20 (CX PknN rw st [(0, c1)] true)) ∧ (Con.pre (CX PknN rw st [(0, c1)] true) ⟨⟨[(I rw), (I st)], [⟨0, c1⟩]⟩, []⟩) ∧
((ConOK Tryd.prog 79 (CX PknN rw st [(0, c1)] true)) ∧ (Con.pre (CX PknN rw st [(0, c1)] true) ⟨⟨[(I rw), (I st)], [⟨0, c1⟩]⟩, []⟩) ∧
((ConOK Tryd.prog 79 (CX PknN rw st [(0, c1)] true)) ∧ (Con.pre (CX PknN rw st [(0, c1)] true) ⟨⟨[(I rw), (I st)], [⟨0, c1⟩]⟩, []⟩) ∧
((ConOK Tryd.prog 79 (CX PknN rw st [(0, c1)] true)) ∧ (Con.pre (CX PknN rw st [(0, c1)] true) ⟨⟨[(I rw), (I st)], [⟨0, c1⟩]⟩, []⟩) ∧
((ConOK Tryd.prog 79 (CX PknN rw st [(0, c1)] true)) ∧ (Con.pre (CX PknN rw st [(0, c1)] true) ⟨⟨[(I rw), (I st)], [⟨0, c1⟩]⟩, []⟩) ∧
((ConOK Tryd.prog 11 (C11t tb)) ∧ (Con.pre (C11t tb) ⟨⟨[], []⟩, [(tb)]⟩) ∧
R (.ret (.bool true))))))))) := by kernel_rfl
theorem f20nkP (rw st : Int) (n cv m cu : Nat) (b1 b2 : Bool) (R : ARes → Prop) : (vx.call 20 [.agg ⟨[I rw, I st, nilS, slV 3 n cv, slV 4 m cu]⟩] (retK R) mD5 ((5, .con (C52 rw 1 6 b1)) :: [(0, .split ([]) ((3, .con (C52 st 0 4 b2)) :: [(0, .split ([]) ((14, .val (.bool true)) :: []))]))])) =
(((ConOK Tryd.prog 52 (C52 rw 1 6 b1)) ∧ (Con.pre (C52 rw 1 6 b1) ⟨⟨[(I rw), (I 1), (I 6)], []⟩, []⟩) ∧
(((!b1) = true → R (.ret (.bool false))) ∧
((!b1) = false → ((ConOK Tryd.prog 52 (C52 st 0 4 b2)) ∧ (Con.pre (C52 st 0 4 b2) ⟨⟨[(I st), (I 0), (I 4)], []⟩, []⟩) ∧
(((!b2) = true → R (.ret (.bool false))) ∧
((!b2) = false → ((((some (.bool ((n : Int) != (↑(0 : Nat) : Int))) : Option Value) = some (.bool true))) ∧
R (.ret (.bool false)))))))))) := by kernel_rfl
theorem f79nkP (rw st : Int) (n cv m cu : Nat) (b1 b2 : Bool) (R : ARes → Prop) : (vx.call 79 [.agg ⟨[I rw, I st, nilS, slV 3 n cv, slV 4 m cu]⟩] (retK R) mD5 ((5, .con (CWI rw 1 6 b1)) :: [(0, .split ([]) ((3, .con (CWI st 0 4 b2)) :: [(0, .split ([]) ((13, .val (.bool true)) :: []))]))])) =
(((ConOK Tryd.prog 56 (CWI rw 1 6 b1)) ∧ (Con.pre (CWI rw 1 6 b1) ⟨⟨[(I rw), (I 1), (I 6)], []⟩, []⟩) ∧
(((!b1) = true → R (.ret (.bool false))) ∧
((!b1) = false → ((ConOK Tryd.prog 56 (CWI st 0 4 b2)) ∧ (Con.pre (CWI st 0 4 b2) ⟨⟨[(I st), (I 0), (I 4)], []⟩, []⟩) ∧
(((!b2) = true → R (.ret (.bool false))) ∧
((!b2) = false → ((((some (.bool ((n : Int) != (↑(0 : Nat) : Int))) : Option Value) = some (.bool true))) ∧
R (.ret (.bool false)))))))))) := by kernel_rfl
theorem f4InkP (rw st : Int) (n cv m cu : Nat) (wh : Int) (t : Value) (tb : List Value) (R : ARes → Prop) : (vx.call 4 [.agg ⟨[I rw, I st, nilS, slV 3 n cv, slV 4 m cu]⟩, t, .int .u8 wh] (retK R) (mL0 tb) ([(17, .split ((2, .con (C11t tb)) :: []) ((3, .con (CX PnkP rw st [(n, cv), (m, cu)] false)) :: (28, .con (CX PnkP rw st [(n, cv), (m, cu)] false)) :: (54, .con (CX PnkP rw st [(n, cv), (m, cu)] false)) :: (59, .con (C11t tb)) :: []))])) =
((((decide ((if (m : Int) > if (n : Int) > (↑(0 : Nat) : Int) then (n : Int) else (↑(0 : Nat) : Int) then (m : Int) else if (n : Int) > (↑(0 : Nat) : Int) then (n : Int) else (↑(0 : Nat) : Int)) > (40 : Int))) = true → ((ConOK Tryd.prog 11 (C11t tb)) ∧ (Con.pre (C11t tb) ⟨⟨[], []⟩, [(tb)]⟩) ∧
R (.ret (.bool true)))) ∧
((decide ((if (m : Int) > if (n : Int) > (↑(0 : Nat) : Int) then (n : Int) else (↑(0 : Nat) : Int) then (m : Int) else if (n : Int) > (↑(0 : Nat) : Int) then (n : Int) else (↑(0 : Nat) : Int)) > (40 : Int))) = false → ((ConOK Tryd.prog 20 (CX PnkP rw st [(n, cv), (m, cu)] false)) ∧ (Con.pre (CX PnkP rw st [(n, cv), (m, cu)] false) ⟨⟨[(I rw), (I st)], [⟨n, cv⟩, ⟨m, cu⟩]⟩, []⟩) ∧
((ConOK Tryd.prog 79 (CX PnkP rw st [(n, cv), (m, cu)] false)) ∧ (Con.pre (CX PnkP rw st [(n, cv), (m, cu)] false) ⟨⟨[(I rw), (I st)], [⟨n, cv⟩, ⟨m, cu⟩]⟩, []⟩) ∧
((ConOK Tryd.prog 79 (CX PnkP rw st [(n, cv), (m, cu)] false)) ∧ (Con.pre (CX PnkP rw st [(n, cv), (m, cu)] false) ⟨⟨[(I rw), (I st)], [⟨n, cv⟩, ⟨m, cu⟩]⟩, []⟩) ∧
((ConOK Tryd.prog 11 (C11t tb)) ∧ (Con.pre (C11t tb) ⟨⟨[], []⟩, [(tb)]⟩) ∧
R (.ret (.bool true))))))))) := by kernel_rfl
theorem f20nkN (rw st : Int) (n cv : Nat) (b1 b2 : Bool) (R : ARes → Prop) : (vx.call 20 [.agg ⟨[I rw, I st, nilS, slV 3 n cv, nilS]⟩] (retK R) mD5 ((5, .con (C52 rw 1 6 b1)) :: [(0, .split ([]) ((3, .con (C52 st 0 4 b2)) :: [(0, .split ([]) ((14, .val (.bool true)) :: []))]))])) =
(((ConOK Tryd.prog 52 (C52 rw 1 6 b1)) ∧ (Con.pre (C52 rw 1 6 b1) ⟨⟨[(I rw), (I 1), (I 6)], []⟩, []⟩) ∧
(((!b1) = true → R (.ret (.bool false))) ∧
((!b1) = false → ((ConOK Tryd.prog 52 (C52 st 0 4 b2)) ∧ (Con.pre (C52 st 0 4 b2) ⟨⟨[(I st), (I 0), (I 4)], []⟩, []⟩) ∧
(((!b2) = true → R (.ret (.bool false))) ∧
((!b2) = false → ((((some (.bool ((n : Int) != (↑(0 : Nat) : Int))) : Option Value) = some (.bool true))) ∧
R (.ret (.bool false)))))))))) := by kernel_rfl
theorem f79nkN (rw st : Int) (n cv : Nat) (b1 b2 : Bool) (R : ARes → Prop) : (vx.call 79 [.agg ⟨[I rw, I st, nilS, slV 3 n cv, nilS]⟩] (retK R) mD5 ((5, .con (CWI rw 1 6 b1)) :: [(0, .split ([]) ((3, .con (CWI st 0 4 b2)) :: [(0, .split ([]) ((13, .val (.bool true)) :: []))]))])) =
(((ConOK Tryd.prog 56 (CWI rw 1 6 b1)) ∧ (Con.pre (CWI rw 1 6 b1) ⟨⟨[(I rw), (I 1), (I 6)], []⟩, []⟩) ∧
(((!b1) = true → R (.ret (.bool false))) ∧
((!b1) = false → ((ConOK Tryd.prog 56 (CWI st 0 4 b2)) ∧ (Con.pre (CWI st 0 4 b2) ⟨⟨[(I st), (I 0), (I 4)], []⟩, []⟩) ∧
(((!b2) = true → R (.ret (.bool false))) ∧
((!b2) = false → ((((some (.bool ((n : Int) != (↑(0 : Nat) : Int))) : Option Value) = some (.bool true))) ∧
R (.ret (.bool false)))))))))) := by kernel_rfl
theorem f4InkN (rw st : Int) (n cv : Nat) (wh : Int) (t : Value) (tb : List Value) (R : ARes → Prop) : (vx.call 4 [.agg ⟨[I rw, I st, nilS, slV 3 n cv, nilS]⟩, t, .int .u8 wh] (retK R) (mL0 tb) ([(17, .split ((2, .con (C11t tb)) :: []) ((3, .con (CX PnkN rw st [(n, cv)] false)) :: (28, .con (CX PnkN rw st [(n, cv)] false)) :: (54, .con (CX PnkN rw st [(n, cv)] false)) :: (59, .con (C11t tb)) :: []))])) =
((((decide ((if (↑(0 : Nat) : Int) > if (n : Int) > (↑(0 : Nat) : Int) then (n : Int) else (↑(0 : Nat) : Int) then (↑(0 : Nat) : Int) else if (n : Int) > (↑(0 : Nat) : Int) then (n : Int) else (↑(0 : Nat) : Int)) > (40 : Int))) = true → ((ConOK Tryd.prog 11 (C11t tb)) ∧ (Con.pre (C11t tb) ⟨⟨[], []⟩, [(tb)]⟩) ∧
R (.ret (.bool true)))) ∧
((decide ((if (↑(0 : Nat) : Int) > if (n : Int) > (↑(0 : Nat) : Int) then (n : Int) else (↑(0 : Nat) : Int) then (↑(0 : Nat) : Int) else if (n : Int) > (↑(0 : Nat) : Int) then (n : Int) else (↑(0 : Nat) : Int)) > (40 : Int))) = false → ((ConOK Tryd.prog 20 (CX PnkN rw st [(n, cv)] false)) ∧ (Con.pre (CX PnkN rw st [(n, cv)] false) ⟨⟨[(I rw), (I st)], [⟨n, cv⟩]⟩, []⟩) ∧
((ConOK Tryd.prog 79 (CX PnkN rw st [(n, cv)] false)) ∧ (Con.pre (CX PnkN rw st [(n, cv)] false) ⟨⟨[(I rw), (I st)], [⟨n, cv⟩]⟩, []⟩) ∧
((ConOK Tryd.prog 79 (CX PnkN rw st [(n, cv)] false)) ∧ (Con.pre (CX PnkN rw st [(n, cv)] false) ⟨⟨[(I rw), (I st)], [⟨n, cv⟩]⟩, []⟩) ∧
((ConOK Tryd.prog 11 (C11t tb)) ∧ (Con.pre (C11t tb) ⟨⟨[], []⟩, [(tb)]⟩) ∧
R (.ret (.bool true))))))))) := by kernel_rfl
theorem f20knP (rw st : Int) (n cw m cu : Nat) (b1 b2 : Bool) (R : ARes → Prop) : (vx.call 20 [.agg ⟨[I rw, I st, slV 2 n cw, nilS, slV 4 m cu]⟩] (retK R) mD5 ((5, .con (C52 rw 1 6 b1)) :: [(0, .split ([]) ((3, .con (C52 st 0 4 b2)) :: [(0, .split ([]) ([(5, .split ([]) ((8, .val (.bool true)) :: []))]))]))])) =
(((ConOK Tryd.prog 52 (C52 rw 1 6 b1)) ∧ (Con.pre (C52 rw 1 6 b1) ⟨⟨[(I rw), (I 1), (I 6)], []⟩, []⟩) ∧
(((!b1) = true → R (.ret (.bool false))) ∧
((!b1) = false → ((ConOK Tryd.prog 52 (C52 st 0 4 b2)) ∧ (Con.pre (C52 st 0 4 b2) ⟨⟨[(I st), (I 0), (I 4)], []⟩, []⟩) ∧
(((!b2) = true → R (.ret (.bool false))) ∧
((!b2) = false → (((decide ((n : Int) > 8)) = true → R (.ret (.bool false))) ∧
((decide ((n : Int) > 8)) = false → ((((some (.bool ((↑(0 : Nat) : Int) != (n : Int))) : Option Value) = some (.bool true))) ∧
R (.ret (.bool false)))))))))))) := by kernel_rfl
theorem f79knP (rw st : Int) (n cw m cu : Nat) (b1 b2 : Bool) (R : ARes → Prop) : (vx.call 79 [.agg ⟨[I rw, I st, slV 2 n cw, nilS, slV 4 m cu]⟩] (retK R) mD5 ((5, .con (CWI rw 1 6 b1)) :: [(0, .split ([]) ((3, .con (CWI st 0 4 b2)) :: [(0, .split ([]) ([(5, .split ([]) ((7, .val (.bool true)) :: []))]))]))])) =
(((ConOK Tryd.prog 56 (CWI rw 1 6 b1)) ∧ (Con.pre (CWI rw 1 6 b1) ⟨⟨[(I rw), (I 1), (I 6)], []⟩, []⟩) ∧
(((!b1) = true → R (.ret (.bool false))) ∧
((!b1) = false → ((ConOK Tryd.prog 56 (CWI st 0 4 b2)) ∧ (Con.pre (CWI st 0 4 b2) ⟨⟨[(I st), (I 0), (I 4)], []⟩, []⟩) ∧
(((!b2) = true → R (.ret (.bool false))) ∧
((!b2) = false → (((decide ((n : Int) > 8)) = true → R (.ret (.bool false))) ∧
((decide ((n : Int) > 8)) = false → ((((some (.bool ((↑(0 : Nat) : Int) != (n : Int))) : Option Value) = some (.bool true))) ∧
R (.ret (.bool false)))))))))))) := by kernel_rfl
theorem f4IknP (rw st : Int) (n cw m cu : Nat) (wh : Int) (t : Value) (tb : List Value) (R : ARes → Prop) : (vx.call 4 [.agg ⟨[I rw, I st, slV 2 n cw, nilS, slV 4 m cu]⟩, t, .int .u8 wh] (retK R) (mL0 tb) ([(17, .split ((2, .con (C11t tb)) :: []) ((3, .con (CX PknP rw st [(n, cw), (m, cu)] false)) :: (28, .con (CX PknP rw st [(n, cw), (m, cu)] false)) :: (54, .con (CX PknP rw st [(n, cw), (m, cu)] false)) :: (59, .con (C11t tb)) :: []))])) =
((((decide ((if (m : Int) > if (↑(0 : Nat) : Int) > (n : Int) then (↑(0 : Nat) : Int) else (n : Int) then (m : Int) else if (↑(0 : Nat) : Int) > (n : Int) then (↑(0 : Nat) : Int) else (n : Int)) > (40 : Int))) = true → ((ConOK Tryd.prog 11 (C11t tb)) ∧ (Con.pre (C11t tb) ⟨⟨[], []⟩, [(tb)]⟩) ∧
R (.ret (.bool true)))) ∧
((decide ((if (m : Int) > if (↑(0 : Nat) : Int) > (n : Int) then (↑(0 : Nat) : Int) else (n : Int) then (m : Int) else if (↑(0 : Nat) : Int) > (n : Int) then (↑(0 : Nat) : Int) else (n : Int)) > (40 : Int))) = false → ((ConOK Tryd.prog 20 (CX PknP rw st [(n, cw), (m, cu)] false)) ∧ (Con.pre (CX PknP rw st [(n, cw), (m, cu)] false) ⟨⟨[(I rw), (I st)], [⟨n, cw⟩, ⟨m, cu⟩]⟩, []⟩) ∧
((ConOK Tryd.prog 79 (CX PknP rw st [(n, cw), (m, cu)] false)) ∧ (Con.pre (CX PknP rw st [(n, cw), (m, cu)] false) ⟨⟨[(I rw), (I st)], [⟨n, cw⟩, ⟨m, cu⟩]⟩, []⟩) ∧
((ConOK Tryd.prog 79 (CX PknP rw st [(n, cw), (m, cu)] false)) ∧ (Con.pre (CX PknP rw st [(n, cw), (m, cu)] false) ⟨⟨[(I rw), (I st)], [⟨n, cw⟩, ⟨m, cu⟩]⟩, []⟩) ∧
((ConOK Tryd.prog 11 (C11t tb)) ∧ (Con.pre (C11t tb) ⟨⟨[], []⟩, [(tb)]⟩) ∧
R (.ret (.bool true))))))))) := by kernel_rfl
theorem f20knN (rw st : Int) (n cw : Nat) (b1 b2 : Bool) (R : ARes → Prop) : (vx.call 20 [.agg ⟨[I rw, I st, slV 2 n cw, nilS, nilS]⟩] (retK R) mD5 ((5, .con (C52 rw 1 6 b1)) :: [(0, .split ([]) ((3, .con (C52 st 0 4 b2)) :: [(0, .split ([]) ([(5, .split ([]) ((8, .val (.bool true)) :: []))]))]))])) =
(((ConOK Tryd.prog 52 (C52 rw 1 6 b1)) ∧ (Con.pre (C52 rw 1 6 b1) ⟨⟨[(I rw), (I 1), (I 6)], []⟩, []⟩) ∧
(((!b1) = true → R (.ret (.bool false))) ∧
((!b1) = false → ((ConOK Tryd.prog 52 (C52 st 0 4 b2)) ∧ (Con.pre (C52 st 0 4 b2) ⟨⟨[(I st), (I 0), (I 4)], []⟩, []⟩) ∧
(((!b2) = true → R (.ret (.bool false))) ∧
((!b2) = false → (((decide ((n : Int) > 8)) = true → R (.ret (.bool false))) ∧
((decide ((n : Int) > 8)) = false → ((((some (.bool ((↑(0 : Nat) : Int) != (n : Int))) : Option Value) = some (.bool true))) ∧
R (.ret (.bool false)))))))))))) := by kernel_rfl
theorem f79knN (rw st : Int) (n cw : Nat) (b1 b2 : Bool) (R : ARes → Prop) : (vx.call 79 [.agg ⟨[I rw, I st, slV 2 n cw, nilS, nilS]⟩] (retK R) mD5 ((5, .con (CWI rw 1 6 b1)) :: [(0, .split ([]) ((3, .con (CWI st 0 4 b2)) :: [(0, .split ([]) ([(5, .split ([]) ((7, .val (.bool true)) :: []))]))]))])) =
(((ConOK Tryd.prog 56 (CWI rw 1 6 b1)) ∧ (Con.pre (CWI rw 1 6 b1) ⟨⟨[(I rw), (I 1), (I 6)], []⟩, []⟩) ∧
(((!b1) = true → R (.ret (.bool false))) ∧
((!b1) = false → ((ConOK Tryd.prog 56 (CWI st 0 4 b2)) ∧ (Con.pre (CWI st 0 4 b2) ⟨⟨[(I st), (I 0), (I 4)], []⟩, []⟩) ∧
(((!b2) = true → R (.ret (.bool false))) ∧
((!b2) = false → (((decide ((n : Int) > 8)) = true → R (.ret (.bool false))) ∧
((decide ((n : Int) > 8)) = false → ((((some (.bool ((↑(0 : Nat) : Int) != (n : Int))) : Option Value) = some (.bool true))) ∧
R (.ret (.bool false)))))))))))) := by kernel_rfl
theorem f4IknN (rw st : Int) (n cw : Nat) (wh : Int) (t : Value) (tb : List Value) (R : ARes → Prop) : (vx.call 4 [.agg ⟨[I rw, I st, slV 2 n cw, nilS, nilS]⟩, t, .int .u8 wh] (retK R) (mL0 tb) ([(17, .split ((2, .con (C11t tb)) :: []) ((3, .con (CX PknN rw st [(n, cw)] false)) :: (28, .con (CX PknN rw st [(n, cw)] false)) :: (54, .con (CX PknN rw st [(n, cw)] false)) :: (59, .con (C11t tb)) :: []))])) =
((((decide ((if (↑(0 : Nat) : Int) > if (↑(0 : Nat) : Int) > (n : Int) then (↑(0 : Nat) : Int) else (n : Int) then (↑(0 : Nat) : Int) else if (↑(0 : Nat) : Int) > (n : Int) then (↑(0 : Nat) : Int) else (n : Int)) > (40 : Int))) = true → ((ConOK Tryd.prog 11 (C11t tb)) ∧ (Con.pre (C11t tb) ⟨⟨[], []⟩, [(tb)]⟩) ∧
R (.ret (.bool true)))) ∧
((decide ((if (↑(0 : Nat) : Int) > if (↑(0 : Nat) : Int) > (n : Int) then (↑(0 : Nat) : Int) else (n : Int) then (↑(0 : Nat) : Int) else if (↑(0 : Nat) : Int) > (n : Int) then (↑(0 : Nat) : Int) else (n : Int)) > (40 : Int))) = false → ((ConOK Tryd.prog 20 (CX PknN rw st [(n, cw)] false)) ∧ (Con.pre (CX PknN rw st [(n, cw)] false) ⟨⟨[(I rw), (I st)], [⟨n, cw⟩]⟩, []⟩) ∧
((ConOK Tryd.prog 79 (CX PknN rw st [(n, cw)] false)) ∧ (Con.pre (CX PknN rw st [(n, cw)] false) ⟨⟨[(I rw), (I st)], [⟨n, cw⟩]⟩, []⟩) ∧
((ConOK Tryd.prog 79 (CX PknN rw st [(n, cw)] false)) ∧ (Con.pre (CX PknN rw st [(n, cw)] false) ⟨⟨[(I rw), (I st)], [⟨n, cw⟩]⟩, []⟩) ∧
((ConOK Tryd.prog 11 (C11t tb)) ∧ (Con.pre (C11t tb) ⟨⟨[], []⟩, [(tb)]⟩) ∧
R (.ret (.bool true))))))))) := by kernel_rfl
theorem wle {a : Int} (h : -100 ≤ a ∧ a ≤ 100) : decide (a ≤ IntKind.i64.wrap (a - 1)) = false := by
 rw [wrapI (by omega) (by omega)]; exact decide_eq_false (by omega)
section
variable {rw st : Int} {c1 m cu j : Nat} {u : Nat → Raw}
theorem law4n (hj : j < 256) (t : Value) : ∃ hs, vx.call 4 [su_n rw st c1 m cu, t, .int .u8 j] (retK fun r => r = .ret (.bool true)) (mLH tabC (raL m u)) hs := by
 have c20 := C20n_ok (rw := rw) (st := st) (c1 := c1) (m := m) (cu := cu) (u := u)
 have c79 := C79nR_ok (rw := rw) (st := st) (c1 := c1) (m := m) (cu := cu) (u := u)
 cases hok : okS0 rw st m u with
 | false =>
  rw [hok] at c20 c79
  exact ⟨_, (f4In rw st c1 m cu j t tabC (raL m u) _).mpr ⟨fun _ => ⟨C11t_ok, rfl, rfl⟩, fun _ => ⟨c20, rfl, c79, rfl, c79, rfl, C11t_ok, rfl, rfl⟩⟩⟩
 | true =>
  rw [hok] at c20 c79
  rcases Nat.eq_zero_or_pos m with h0 | h0
  · subst h0
    exact ⟨_, (f4Mn rw st c1 cu j t tabC (raL 0 u) _).mpr ⟨c20, rfl, c79, rfl, c79, rfl, c79, rfl, c79, rfl, C11t_ok, rfl, rfl⟩⟩
  · obtain ⟨hrw, hst, h5, hall⟩ := okS0_inv hok
    obtain ⟨hl, hU⟩ := huts_conv hrw.1 hrw.2 h5 hall
    rw [hl] at c20 c79 ⊢
    have hh : j % m < m := Nat.mod_lt _ h0
    have hmod : (Value.int .i64 ((j % m : Nat) : Int)) = .int .i64 ((IntKind.i64.wrap ((j : Nat) : Int)).tmod (m : Int)) := by rw [hwj hj]; rfl
    have hpart := huL_part (fun i => toH (u i)) hh
    have hlen := huL_len m (fun i => toH (u i))
    have hm0 : ((m : Int) == (0 : Int)) = false := by simp only [beq_eq_false_iff_ne, ne_eq]; omega
    exact ⟨_, (f4Dn rw st c1 m cu (j % m) j t tabC (fun i => toH (u i)) _).mpr ⟨fun _ => ⟨C11t_ok, rfl, rfl⟩, fun _ => ⟨c20, rfl, c79, rfl, tf (wle (by omega)), c79, rfl, c79, rfl, c79, rfl, tf hm0, ⟨⟨by omega, rfl⟩, hmod⟩, ⟨⟨by omega, by omega⟩, rfl⟩, ⟨by rw [hlen]; omega, by rw [hpart]; rfl⟩, C14n_ok (c1 := c1) hrw hst hU hh, rfl, C14n_ok (c1 := c1) hrw hst hU hh, rfl, C15n_ok (c1 := c1) hrw hst hU hh, rfl, C16n_ok (c1 := c1) hrw hst hU hh, rfl, C11t_ok, rfl, rfl⟩⟩⟩
theorem law4v (hj : j < 256) (t : Value) : ∃ hs, vx.call 4 [su_v rw st c1 m cu, t, .int .u8 j] (retK fun r => r = .ret (.bool true)) (mLH tabC (raL m u)) hs := by
 have c20 := C20v_ok (rw := rw) (st := st) (c1 := c1) (m := m) (cu := cu) (u := u)
 have c79 := C79vR_ok (rw := rw) (st := st) (c1 := c1) (m := m) (cu := cu) (u := u)
 cases hok : okS0 rw st m u with
 | false =>
  rw [hok] at c20 c79
  exact ⟨_, (f4Iv rw st c1 m cu j t tabC (raL m u) _).mpr ⟨fun _ => ⟨C11t_ok, rfl, rfl⟩, fun _ => ⟨c20, rfl, c79, rfl, c79, rfl, C11t_ok, rfl, rfl⟩⟩⟩
 | true =>
  rw [hok] at c20 c79
  rcases Nat.eq_zero_or_pos m with h0 | h0
  · subst h0
    exact ⟨_, (f4Mv rw st c1 cu j t tabC (raL 0 u) _).mpr ⟨c20, rfl, c79, rfl, c79, rfl, c79, rfl, c79, rfl, C11t_ok, rfl, rfl⟩⟩
  · obtain ⟨hrw, hst, h5, hall⟩ := okS0_inv hok
    obtain ⟨hl, hU⟩ := huts_conv hrw.1 hrw.2 h5 hall
    rw [hl] at c20 c79 ⊢
    have hh : j % m < m := Nat.mod_lt _ h0
    have hmod : (Value.int .i64 ((j % m : Nat) : Int)) = .int .i64 ((IntKind.i64.wrap ((j : Nat) : Int)).tmod (m : Int)) := by rw [hwj hj]; rfl
    have hpart := huL_part (fun i => toH (u i)) hh
    have hlen := huL_len m (fun i => toH (u i))
    have hm0 : ((m : Int) == (0 : Int)) = false := by simp only [beq_eq_false_iff_ne, ne_eq]; omega
    exact ⟨_, (f4Dv rw st c1 m cu (j % m) j t tabC (fun i => toH (u i)) _).mpr ⟨fun _ => ⟨C11t_ok, rfl, rfl⟩, fun _ => ⟨c20, rfl, c79, rfl, tf (wle (by omega)), c79, rfl, c79, rfl, c79, rfl, tf hm0, ⟨⟨by omega, rfl⟩, hmod⟩, ⟨⟨by omega, by omega⟩, rfl⟩, ⟨by rw [hlen]; omega, by rw [hpart]; rfl⟩, C14n_ok (c1 := 0) hrw hst hU hh, rfl, C14v_ok (c1 := c1) hrw hst hU hh, rfl, C15n_ok (c1 := 0) hrw hst hU hh, rfl, C16n_ok (c1 := 0) hrw hst hU hh, rfl, C11t_ok, rfl, rfl⟩⟩⟩
theorem law4w (hj : j < 256) (t : Value) : ∃ hs, vx.call 4 [su_w rw st c1 m cu, t, .int .u8 j] (retK fun r => r = .ret (.bool true)) (mLH tabC (raL m u)) hs := by
 have c20 := C20w_ok (rw := rw) (st := st) (c1 := c1) (m := m) (cu := cu) (u := u)
 have c79 := C79wR_ok (rw := rw) (st := st) (c1 := c1) (m := m) (cu := cu) (u := u)
 cases hok : okS0 rw st m u with
 | false =>
  rw [hok] at c20 c79
  exact ⟨_, (f4Iw rw st c1 m cu j t tabC (raL m u) _).mpr ⟨fun _ => ⟨C11t_ok, rfl, rfl⟩, fun _ => ⟨c20, rfl, c79, rfl, c79, rfl, C11t_ok, rfl, rfl⟩⟩⟩
 | true =>
  rw [hok] at c20 c79
  rcases Nat.eq_zero_or_pos m with h0 | h0
  · subst h0
    exact ⟨_, (f4Mw rw st c1 cu j t tabC (raL 0 u) _).mpr ⟨c20, rfl, c79, rfl, c79, rfl, c79, rfl, c79, rfl, C11t_ok, rfl, rfl⟩⟩
  · obtain ⟨hrw, hst, h5, hall⟩ := okS0_inv hok
    obtain ⟨hl, hU⟩ := huts_conv hrw.1 hrw.2 h5 hall
    rw [hl] at c20 c79 ⊢
    have hh : j % m < m := Nat.mod_lt _ h0
    have hmod : (Value.int .i64 ((j % m : Nat) : Int)) = .int .i64 ((IntKind.i64.wrap ((j : Nat) : Int)).tmod (m : Int)) := by rw [hwj hj]; rfl
    have hpart := huL_part (fun i => toH (u i)) hh
    have hlen := huL_len m (fun i => toH (u i))
    have hm0 : ((m : Int) == (0 : Int)) = false := by simp only [beq_eq_false_iff_ne, ne_eq]; omega
    exact ⟨_, (f4Dw rw st c1 m cu (j % m) j t tabC (fun i => toH (u i)) _).mpr ⟨fun _ => ⟨C11t_ok, rfl, rfl⟩, fun _ => ⟨c20, rfl, c79, rfl, tf (wle (by omega)), c79, rfl, c79, rfl, c79, rfl, tf hm0, ⟨⟨by omega, rfl⟩, hmod⟩, ⟨⟨by omega, by omega⟩, rfl⟩, ⟨by rw [hlen]; omega, by rw [hpart]; rfl⟩, C14n_ok (c1 := 0) hrw hst hU hh, rfl, C14w_ok (c1 := c1) hrw hst hU hh, rfl, C15n_ok (c1 := 0) hrw hst hU hh, rfl, C16n_ok (c1 := 0) hrw hst hU hh, rfl, C11t_ok, rfl, rfl⟩⟩⟩
end
section
variable {rw st : Int} {n cw n2 cv m cu j : Nat} {w v : Nat → Sp} {u : Nat → Raw}
theorem law4R (hj : j < 256) (h : okSu rw st n n2 m w v u = false ∨ m = 0 ∨ n = 0) (t : Value) : ∃ hs, vx.call 4 [suR rw st n cw n2 cv m cu, t, .int .u8 j] (retK fun r => r = .ret (.bool true)) (mLR tabC (spL n w) (spL n2 v) (raL m u)) hs := by
 have c20 := C20_ok (rw := rw) (st := st) (n := n) (cw := cw) (n2 := n2) (cv := cv) (m := m) (cu := cu) (w := w) (v := v) (u := u)
 cases hok : okSu rw st n n2 m w v u with
 | false =>
  rw [hok] at c20
  exact ⟨_, (f4Ip rw st n cw n2 cv m cu j t tabC (spL n w) (spL n2 v) (raL m u) _).mpr ⟨fun _ => ⟨C11t_ok, rfl, rfl⟩, fun _ => ⟨c20, rfl, C15I_ok hok, rfl, C21I_ok hok, rfl, C11t_ok, rfl, rfl⟩⟩⟩
 | true =>
  rw [hok] at c20
  obtain ⟨e, hS, h5, hall⟩ := okSu_inv hok
  subst e
  obtain ⟨hl, hU⟩ := huts_conv hS.rw1 hS.rw6 h5 hall
  rw [hl] at c20 ⊢
  obtain ⟨r, rfl⟩ : ∃ r : Nat, rw = (r : Int) := ⟨rw.toNat, (Int.toNat_of_nonneg (by have := hS.rw1; omega)).symm⟩
  have e15 := C15E_ok (cw := cw) (cv := cv) (cu := cu) hS hU
  have e18a := C18Ea_ok (cw := cw) (cv := cv) (cu := cu) hS hU
  have e18b := C18Eb_ok (cw := cw) (cv := cv) (cu := cu) hS hU
  have e21 := C21E_ok (cw := cw) (cv := cv) (cu := cu) hS hU
  rcases Nat.eq_zero_or_pos m with h0 | h0
  · subst h0
    exact ⟨_, (f4Mp r st n2 cw cv cu j t tabC (spL n2 w) (spL n2 v) (huL 0 fun i => toH (u i)) _).mpr ⟨fun _ => ⟨C11t_ok, rfl, rfl⟩, fun _ => ⟨c20, rfl, e15, rfl, e18a, rfl, e18b, rfl, e21, rfl, C11t_ok, rfl, rfl⟩⟩⟩
  · have hn : n2 = 0 := by
     rcases h with h | h | h
     · rw [hok] at h; cases h
     · omega
     · exact h
    subst hn
    have hrw : 1 ≤ (r : Int) ∧ (r : Int) ≤ 6 := ⟨hS.rw1, hS.rw6⟩
    have hst : 0 ≤ st ∧ st ≤ 4 := ⟨hS.st0, hS.st4⟩
    have hh : j % m < m := Nat.mod_lt _ h0
    have hmod : (Value.int .i64 ((j % m : Nat) : Int)) = .int .i64 ((IntKind.i64.wrap ((j : Nat) : Int)).tmod (m : Int)) := by rw [hwj hj]; rfl
    have hpart := huL_part (fun i => toH (u i)) hh
    have hlen := huL_len m (fun i => toH (u i))
    have hm0 : ((m : Int) == (0 : Int)) = false := by simp only [beq_eq_false_iff_ne, ne_eq]; omega
    have c14 := C14_ok (cw := cw) (cv := cv) (cu := cu) hS hU hh
    exact ⟨_, (f4Dp r st cw cv m cu (j % m) j t tabC (spL 0 w) (spL 0 v) (fun i => toH (u i)) _).mpr ⟨fun _ => ⟨C11t_ok, rfl, rfl⟩, fun _ => ⟨c20, rfl, e15, rfl, e18a, rfl, e18b, rfl, e21, rfl, tf hm0, ⟨⟨by omega, rfl⟩, hmod⟩, ⟨⟨by omega, by omega⟩, rfl⟩, ⟨by rw [hlen]; omega, by rw [hpart]; rfl⟩, C14n_ok (c1 := 0) hrw hst hU hh, rfl, c14, rfl, C15n_ok (c1 := 0) hrw hst hU hh, rfl, C16n_ok (c1 := 0) hrw hst hU hh, rfl, C11t_ok, rfl, rfl⟩⟩⟩
theorem law4N (t : Value) : ∃ hs, vx.call 4 [suN rw st n cw n2 cv, t, .int .u8 j] (retK fun r => r = .ret (.bool true)) (mLN tabC (spL n w) (spL n2 v)) hs := by
 have c20 := C20N_ok (rw := rw) (st := st) (n := n) (cw := cw) (n2 := n2) (cv := cv) (w := w) (v := v)
 have c79 := C79N_ok (rw := rw) (st := st) (n := n) (cw := cw) (n2 := n2) (cv := cv) (w := w) (v := v)
 cases hok : okSN rw st n n2 w v with
 | false =>
  rw [hok] at c20 c79
  exact ⟨_, (f4IN rw st n cw n2 cv j t tabC (spL n w) (spL n2 v) _).mpr ⟨fun _ => ⟨C11t_ok, rfl, rfl⟩, fun _ => ⟨c20, rfl, c79, rfl, c79, rfl, C11t_ok, rfl, rfl⟩⟩⟩
 | true =>
  have hb : (1 ≤ rw ∧ rw ≤ 6) ∧ n ≤ 8 := by
   simp only [okSN, inB, Bool.and_eq_true, Bool.not_eq_true'] at hok
   obtain ⟨⟨a, b⟩, _, c, _⟩ := hok
   have a := of_decide_eq_true a
   have b := of_decide_eq_true b
   have c := of_decide_eq_false c
   exact ⟨⟨a, b⟩, by omega⟩
  rw [hok] at c20 c79
  exact ⟨_, (f4MN rw st n cw n2 cv j t tabC (spL n w) (spL n2 v) _).mpr ⟨fun _ => ⟨C11t_ok, rfl, rfl⟩, fun _ => ⟨c20, rfl, c79, rfl, c79, rfl, tf (wle (by omega)), c79, rfl, fun _ => ⟨tt (decide_eq_true (by omega)), tf (wle (by omega)), c79, rfl, C11t_ok, rfl, rfl⟩, fun _ => ⟨c79, rfl, C11t_ok, rfl, rfl⟩⟩⟩⟩
theorem C20nnN_ok : ConOK Tryd.prog 20 (CX PnnN rw st [] (inB rw 1 6 && inB st 0 4)) := by
 have k1 := C52_ok rw 1 6
 have k2 := C52_ok st 0 4
 refine con_of vx_sound ⟨⟨[I rw, I st], []⟩, []⟩ (fun y hy => ?_) rfl (fun y _ => rfl) (fun y hy => ?_) rfl (Nat.le_of_ble_eq_true rfl) (by rw [nglob]; exact Nat.le_of_ble_eq_true rfl)
 · cases hy
   have key : ∀ R : ARes → Prop, R (.ret (.bool (inB rw 1 6 && inB st 0 4))) → ∃ hs, vx.call 20 [.agg ⟨[I rw, I st, nilS, nilS, nilS]⟩] (retK R) mD5 hs := fun R hR => by
    refine ⟨_, (f20nnN rw st (inB rw 1 6) (inB st 0 4) R).mpr ?_⟩
    refine ⟨k1, rfl, fun h1 => ?_, fun h1 => ⟨k2, rfl, fun h2 => ?_, fun h2 => ?_⟩⟩
    · rw [show inB rw 1 6 = false by simpa using h1] at hR; exact hR
    · rw [show inB rw 1 6 = true by simpa using h1, show inB st 0 4 = false by simpa using h2] at hR; exact hR
    · rw [show inB rw 1 6 = true by simpa using h1, show inB st 0 4 = true by simpa using h2] at hR; exact hR
   obtain ⟨hs, h⟩ := key (fun r => r = .ret (.bool (inB rw 1 6 && inB st 0 4))) rfl
   exact ⟨hs, h⟩
 · cases hy
   intro cs hc
   cases hc
theorem C79nnN_ok : ConOK Tryd.prog 79 (CX PnnN rw st [] (inB rw 1 6 && inB st 0 4)) := by
 have k1 := CWI_ok rw 1 6
 have k2 := CWI_ok st 0 4
 refine con_of vx_sound ⟨⟨[I rw, I st], []⟩, []⟩ (fun y hy => ?_) rfl (fun y _ => rfl) (fun y hy => ?_) rfl (Nat.le_of_ble_eq_true rfl) (by rw [nglob]; exact Nat.le_of_ble_eq_true rfl)
 · cases hy
   have key : ∀ R : ARes → Prop, R (.ret (.bool (inB rw 1 6 && inB st 0 4))) → ∃ hs, vx.call 79 [.agg ⟨[I rw, I st, nilS, nilS, nilS]⟩] (retK R) mD5 hs := fun R hR => by
    refine ⟨_, (f79nnN rw st (inB rw 1 6) (inB st 0 4) R).mpr ?_⟩
    refine ⟨k1, rfl, fun h1 => ?_, fun h1 => ⟨k2, rfl, fun h2 => ?_, fun h2 => ?_⟩⟩
    · rw [show inB rw 1 6 = false by simpa using h1] at hR; exact hR
    · rw [show inB rw 1 6 = true by simpa using h1, show inB st 0 4 = false by simpa using h2] at hR; exact hR
    · rw [show inB rw 1 6 = true by simpa using h1, show inB st 0 4 = true by simpa using h2] at hR; exact hR
   obtain ⟨hs, h⟩ := key (fun r => r = .ret (.bool (inB rw 1 6 && inB st 0 4))) rfl
   exact ⟨hs, h⟩
 · cases hy
   intro cs hc
   cases hc
theorem l4nnN (t : Value) : ∃ hs, vx.call 4 [.agg ⟨[I rw, I st, nilS, nilS, nilS]⟩, t, .int .u8 j] (retK fun r => r = .ret (.bool true)) (mL0 tabC) hs := by
 have c20 := C20nnN_ok (rw := rw) (st := st)
 have c79 := C79nnN_ok (rw := rw) (st := st)
 cases hok : (inB rw 1 6 && inB st 0 4) with
 | false =>
  rw [hok] at c20 c79
  exact ⟨_, (f4InnN rw st j t tabC _).mpr ⟨c20, rfl, c79, rfl, c79, rfl, C11t_ok, rfl, rfl⟩⟩
 | true =>
  rw [hok] at c20 c79
  exact ⟨_, (f4MnnN rw st j t tabC _).mpr ⟨c20, rfl, c79, rfl, c79, rfl, c79, rfl, c79, rfl, C11t_ok, rfl, rfl⟩⟩
theorem C20nvN_ok {c1 : Nat} : ConOK Tryd.prog 20 (CX PnkN rw st [(0, c1)] (inB rw 1 6 && inB st 0 4)) := by
 have k1 := C52_ok rw 1 6
 have k2 := C52_ok st 0 4
 refine con_of vx_sound ⟨⟨[I rw, I st], [(0, c1)]⟩, []⟩ (fun y hy => ?_) rfl (fun y _ => rfl) (fun y hy => ?_) rfl (Nat.le_of_ble_eq_true rfl) (by rw [nglob]; exact Nat.le_of_ble_eq_true rfl)
 · cases hy
   have key : ∀ R : ARes → Prop, R (.ret (.bool (inB rw 1 6 && inB st 0 4))) → ∃ hs, vx.call 20 [.agg ⟨[I rw, I st, nilS, slV 3 0 c1, nilS]⟩] (retK R) mD5 hs := fun R hR => by
    refine ⟨_, (f20nvN rw st c1 (inB rw 1 6) (inB st 0 4) R).mpr ?_⟩
    refine ⟨k1, rfl, fun h1 => ?_, fun h1 => ⟨k2, rfl, fun h2 => ?_, fun h2 => ?_⟩⟩
    · rw [show inB rw 1 6 = false by simpa using h1] at hR; exact hR
    · rw [show inB rw 1 6 = true by simpa using h1, show inB st 0 4 = false by simpa using h2] at hR; exact hR
    · rw [show inB rw 1 6 = true by simpa using h1, show inB st 0 4 = true by simpa using h2] at hR; exact hR
   obtain ⟨hs, h⟩ := key (fun r => r = .ret (.bool (inB rw 1 6 && inB st 0 4))) rfl
   exact ⟨hs, h⟩
 · cases hy
   intro cs hc
   cases hc
theorem C79nvN_ok {c1 : Nat} : ConOK Tryd.prog 79 (CX PnkN rw st [(0, c1)] (inB rw 1 6 && inB st 0 4)) := by
 have k1 := CWI_ok rw 1 6
 have k2 := CWI_ok st 0 4
 refine con_of vx_sound ⟨⟨[I rw, I st], [(0, c1)]⟩, []⟩ (fun y hy => ?_) rfl (fun y _ => rfl) (fun y hy => ?_) rfl (Nat.le_of_ble_eq_true rfl) (by rw [nglob]; exact Nat.le_of_ble_eq_true rfl)
 · cases hy
   have key : ∀ R : ARes → Prop, R (.ret (.bool (inB rw 1 6 && inB st 0 4))) → ∃ hs, vx.call 79 [.agg ⟨[I rw, I st, nilS, slV 3 0 c1, nilS]⟩] (retK R) mD5 hs := fun R hR => by
    refine ⟨_, (f79nvN rw st c1 (inB rw 1 6) (inB st 0 4) R).mpr ?_⟩
    refine ⟨k1, rfl, fun h1 => ?_, fun h1 => ⟨k2, rfl, fun h2 => ?_, fun h2 => ?_⟩⟩
    · rw [show inB rw 1 6 = false by simpa using h1] at hR; exact hR
    · rw [show inB rw 1 6 = true by simpa using h1, show inB st 0 4 = false by simpa using h2] at hR; exact hR
    · rw [show inB rw 1 6 = true by simpa using h1, show inB st 0 4 = true by simpa using h2] at hR; exact hR
   obtain ⟨hs, h⟩ := key (fun r => r = .ret (.bool (inB rw 1 6 && inB st 0 4))) rfl
   exact ⟨hs, h⟩
 · cases hy
   intro cs hc
   cases hc
theorem l4nvN {c1 : Nat} (t : Value) : ∃ hs, vx.call 4 [.agg ⟨[I rw, I st, nilS, slV 3 0 c1, nilS]⟩, t, .int .u8 j] (retK fun r => r = .ret (.bool true)) (mL0 tabC) hs := by
 have c20 := C20nvN_ok (rw := rw) (st := st) (c1 := c1)
 have c79 := C79nvN_ok (rw := rw) (st := st) (c1 := c1)
 cases hok : (inB rw 1 6 && inB st 0 4) with
 | false =>
  rw [hok] at c20 c79
  exact ⟨_, (f4InvN rw st c1 j t tabC _).mpr ⟨c20, rfl, c79, rfl, c79, rfl, C11t_ok, rfl, rfl⟩⟩
 | true =>
  rw [hok] at c20 c79
  exact ⟨_, (f4MnvN rw st c1 j t tabC _).mpr ⟨c20, rfl, c79, rfl, c79, rfl, c79, rfl, c79, rfl, C11t_ok, rfl, rfl⟩⟩
theorem C20wnN_ok {c1 : Nat} : ConOK Tryd.prog 20 (CX PknN rw st [(0, c1)] (inB rw 1 6 && inB st 0 4)) := by
 have k1 := C52_ok rw 1 6
 have k2 := C52_ok st 0 4
 refine con_of vx_sound ⟨⟨[I rw, I st], [(0, c1)]⟩, []⟩ (fun y hy => ?_) rfl (fun y _ => rfl) (fun y hy => ?_) rfl (Nat.le_of_ble_eq_true rfl) (by rw [nglob]; exact Nat.le_of_ble_eq_true rfl)
 · cases hy
   have key : ∀ R : ARes → Prop, R (.ret (.bool (inB rw 1 6 && inB st 0 4))) → ∃ hs, vx.call 20 [.agg ⟨[I rw, I st, slV 2 0 c1, nilS, nilS]⟩] (retK R) mD5 hs := fun R hR => by
    refine ⟨_, (f20wnN rw st c1 (inB rw 1 6) (inB st 0 4) R).mpr ?_⟩
    refine ⟨k1, rfl, fun h1 => ?_, fun h1 => ⟨k2, rfl, fun h2 => ?_, fun h2 => ?_⟩⟩
    · rw [show inB rw 1 6 = false by simpa using h1] at hR; exact hR
    · rw [show inB rw 1 6 = true by simpa using h1, show inB st 0 4 = false by simpa using h2] at hR; exact hR
    · rw [show inB rw 1 6 = true by simpa using h1, show inB st 0 4 = true by simpa using h2] at hR; exact hR
   obtain ⟨hs, h⟩ := key (fun r => r = .ret (.bool (inB rw 1 6 && inB st 0 4))) rfl
   exact ⟨hs, h⟩
 · cases hy
   intro cs hc
   cases hc
theorem C79wnN_ok {c1 : Nat} : ConOK Tryd.prog 79 (CX PknN rw st [(0, c1)] (inB rw 1 6 && inB st 0 4)) := by
 have k1 := CWI_ok rw 1 6
 have k2 := CWI_ok st 0 4
 refine con_of vx_sound ⟨⟨[I rw, I st], [(0, c1)]⟩, []⟩ (fun y hy => ?_) rfl (fun y _ => rfl) (fun y hy => ?_) rfl (Nat.le_of_ble_eq_true rfl) (by rw [nglob]; exact Nat.le_of_ble_eq_true rfl)
 · cases hy
   have key : ∀ R : ARes → Prop, R (.ret (.bool (inB rw 1 6 && inB st 0 4))) → ∃ hs, vx.call 79 [.agg ⟨[I rw, I st, slV 2 0 c1, nilS, nilS]⟩] (retK R) mD5 hs := fun R hR => by
    refine ⟨_, (f79wnN rw st c1 (inB rw 1 6) (inB st 0 4) R).mpr ?_⟩
    refine ⟨k1, rfl, fun h1 => ?_, fun h1 => ⟨k2, rfl, fun h2 => ?_, fun h2 => ?_⟩⟩
    · rw [show inB rw 1 6 = false by simpa using h1] at hR; exact hR
    · rw [show inB rw 1 6 = true by simpa using h1, show inB st 0 4 = false by simpa using h2] at hR; exact hR
    · rw [show inB rw 1 6 = true by simpa using h1, show inB st 0 4 = true by simpa using h2] at hR; exact hR
   obtain ⟨hs, h⟩ := key (fun r => r = .ret (.bool (inB rw 1 6 && inB st 0 4))) rfl
   exact ⟨hs, h⟩
 · cases hy
   intro cs hc
   cases hc
theorem l4wnN {c1 : Nat} (t : Value) : ∃ hs, vx.call 4 [.agg ⟨[I rw, I st, slV 2 0 c1, nilS, nilS]⟩, t, .int .u8 j] (retK fun r => r = .ret (.bool true)) (mL0 tabC) hs := by
 have c20 := C20wnN_ok (rw := rw) (st := st) (c1 := c1)
 have c79 := C79wnN_ok (rw := rw) (st := st) (c1 := c1)
 cases hok : (inB rw 1 6 && inB st 0 4) with
 | false =>
  rw [hok] at c20 c79
  exact ⟨_, (f4IwnN rw st c1 j t tabC _).mpr ⟨c20, rfl, c79, rfl, c79, rfl, C11t_ok, rfl, rfl⟩⟩
 | true =>
  rw [hok] at c20 c79
  exact ⟨_, (f4MwnN rw st c1 j t tabC _).mpr ⟨c20, rfl, c79, rfl, c79, rfl, c79, rfl, c79, rfl, C11t_ok, rfl, rfl⟩⟩
theorem C20nkP_ok (h : n ≠ 0) : ConOK Tryd.prog 20 (CX PnkP rw st [(n, cv), (m, cu)] false) := by
 have k1 := C52_ok rw 1 6
 have k2 := C52_ok st 0 4
 refine con_of vx_sound ⟨⟨[I rw, I st], [(n, cv), (m, cu)]⟩, []⟩ (fun y hy => ?_) rfl (fun y _ => rfl) (fun y hy => ?_) rfl (Nat.le_of_ble_eq_true rfl) (by rw [nglob]; exact Nat.le_of_ble_eq_true rfl)
 · cases hy
   have key : ∀ R : ARes → Prop, R (.ret (.bool false)) → ∃ hs, vx.call 20 [.agg ⟨[I rw, I st, nilS, slV 3 n cv, slV 4 m cu]⟩] (retK R) mD5 hs := fun R hR => by
    refine ⟨_, (f20nkP rw st n cv m cu (inB rw 1 6) (inB st 0 4) R).mpr ?_⟩
    repeat' (first | with_reducible apply And.intro | with_reducible intro)
    all_goals first
     | exact k1
     | exact k2
     | exact hR
     | exact tt (lne (b := 0) h)
     | rfl
   obtain ⟨hs, h⟩ := key (fun r => r = .ret (.bool false)) rfl
   exact ⟨hs, h⟩
 · cases hy
   intro cs hc
   cases hc
theorem C79nkP_ok (h : n ≠ 0) : ConOK Tryd.prog 79 (CX PnkP rw st [(n, cv), (m, cu)] false) := by
 have k1 := CWI_ok rw 1 6
 have k2 := CWI_ok st 0 4
 refine con_of vx_sound ⟨⟨[I rw, I st], [(n, cv), (m, cu)]⟩, []⟩ (fun y hy => ?_) rfl (fun y _ => rfl) (fun y hy => ?_) rfl (Nat.le_of_ble_eq_true rfl) (by rw [nglob]; exact Nat.le_of_ble_eq_true rfl)
 · cases hy
   have key : ∀ R : ARes → Prop, R (.ret (.bool false)) → ∃ hs, vx.call 79 [.agg ⟨[I rw, I st, nilS, slV 3 n cv, slV 4 m cu]⟩] (retK R) mD5 hs := fun R hR => by
    refine ⟨_, (f79nkP rw st n cv m cu (inB rw 1 6) (inB st 0 4) R).mpr ?_⟩
    repeat' (first | with_reducible apply And.intro | with_reducible intro)
    all_goals first
     | exact k1
     | exact k2
     | exact hR
     | exact tt (lne (b := 0) h)
     | rfl
   obtain ⟨hs, h⟩ := key (fun r => r = .ret (.bool false)) rfl
   exact ⟨hs, h⟩
 · cases hy
   intro cs hc
   cases hc
theorem l4nkP (h : n ≠ 0) (t : Value) : ∃ hs, vx.call 4 [.agg ⟨[I rw, I st, nilS, slV 3 n cv, slV 4 m cu]⟩, t, .int .u8 j] (retK fun r => r = .ret (.bool true)) (mL0 tabC) hs := by
 have c20 := C20nkP_ok (rw := rw) (st := st) (m := m) (cu := cu) (cv := cv) h
 have c79 := C79nkP_ok (rw := rw) (st := st) (m := m) (cu := cu) (cv := cv) h
 exact ⟨_, (f4InkP rw st n cv m cu j t tabC _).mpr ⟨fun _ => ⟨C11t_ok, rfl, rfl⟩, fun _ => ⟨c20, rfl, c79, rfl, c79, rfl, C11t_ok, rfl, rfl⟩⟩⟩
theorem C20nkN_ok (h : n ≠ 0) : ConOK Tryd.prog 20 (CX PnkN rw st [(n, cv)] false) := by
 have k1 := C52_ok rw 1 6
 have k2 := C52_ok st 0 4
 refine con_of vx_sound ⟨⟨[I rw, I st], [(n, cv)]⟩, []⟩ (fun y hy => ?_) rfl (fun y _ => rfl) (fun y hy => ?_) rfl (Nat.le_of_ble_eq_true rfl) (by rw [nglob]; exact Nat.le_of_ble_eq_true rfl)
 · cases hy
   have key : ∀ R : ARes → Prop, R (.ret (.bool false)) → ∃ hs, vx.call 20 [.agg ⟨[I rw, I st, nilS, slV 3 n cv, nilS]⟩] (retK R) mD5 hs := fun R hR => by
    refine ⟨_, (f20nkN rw st n cv (inB rw 1 6) (inB st 0 4) R).mpr ?_⟩
    repeat' (first | with_reducible apply And.intro | with_reducible intro)
    all_goals first
     | exact k1
     | exact k2
     | exact hR
     | exact tt (lne (b := 0) h)
     | rfl
   obtain ⟨hs, h⟩ := key (fun r => r = .ret (.bool false)) rfl
   exact ⟨hs, h⟩
 · cases hy
   intro cs hc
   cases hc
theorem C79nkN_ok (h : n ≠ 0) : ConOK Tryd.prog 79 (CX PnkN rw st [(n, cv)] false) := by
 have k1 := CWI_ok rw 1 6
 have k2 := CWI_ok st 0 4
 refine con_of vx_sound ⟨⟨[I rw, I st], [(n, cv)]⟩, []⟩ (fun y hy => ?_) rfl (fun y _ => rfl) (fun y hy => ?_) rfl (Nat.le_of_ble_eq_true rfl) (by rw [nglob]; exact Nat.le_of_ble_eq_true rfl)
 · cases hy
   have key : ∀ R : ARes → Prop, R (.ret (.bool false)) → ∃ hs, vx.call 79 [.agg ⟨[I rw, I st, nilS, slV 3 n cv, nilS]⟩] (retK R) mD5 hs := fun R hR => by
    refine ⟨_, (f79nkN rw st n cv (inB rw 1 6) (inB st 0 4) R).mpr ?_⟩
    repeat' (first | with_reducible apply And.intro | with_reducible intro)
    all_goals first
     | exact k1
     | exact k2
     | exact hR
     | exact tt (lne (b := 0) h)
     | rfl
   obtain ⟨hs, h⟩ := key (fun r => r = .ret (.bool false)) rfl
   exact ⟨hs, h⟩
 · cases hy
   intro cs hc
   cases hc
theorem l4nkN (h : n ≠ 0) (t : Value) : ∃ hs, vx.call 4 [.agg ⟨[I rw, I st, nilS, slV 3 n cv, nilS]⟩, t, .int .u8 j] (retK fun r => r = .ret (.bool true)) (mL0 tabC) hs := by
 have c20 := C20nkN_ok (rw := rw) (st := st) (cv := cv) h
 have c79 := C79nkN_ok (rw := rw) (st := st) (cv := cv) h
 exact ⟨_, (f4InkN rw st n cv j t tabC _).mpr ⟨fun _ => ⟨C11t_ok, rfl, rfl⟩, fun _ => ⟨c20, rfl, c79, rfl, c79, rfl, C11t_ok, rfl, rfl⟩⟩⟩
theorem C20knP_ok (h : 0 ≠ n) : ConOK Tryd.prog 20 (CX PknP rw st [(n, cw), (m, cu)] false) := by
 have k1 := C52_ok rw 1 6
 have k2 := C52_ok st 0 4
 refine con_of vx_sound ⟨⟨[I rw, I st], [(n, cw), (m, cu)]⟩, []⟩ (fun y hy => ?_) rfl (fun y _ => rfl) (fun y hy => ?_) rfl (Nat.le_of_ble_eq_true rfl) (by rw [nglob]; exact Nat.le_of_ble_eq_true rfl)
 · cases hy
   have key : ∀ R : ARes → Prop, R (.ret (.bool false)) → ∃ hs, vx.call 20 [.agg ⟨[I rw, I st, slV 2 n cw, nilS, slV 4 m cu]⟩] (retK R) mD5 hs := fun R hR => by
    refine ⟨_, (f20knP rw st n cw m cu (inB rw 1 6) (inB st 0 4) R).mpr ?_⟩
    repeat' (first | with_reducible apply And.intro | with_reducible intro)
    all_goals first
     | exact k1
     | exact k2
     | exact hR
     | exact tt (lne (a := 0) h)
     | rfl
   obtain ⟨hs, h⟩ := key (fun r => r = .ret (.bool false)) rfl
   exact ⟨hs, h⟩
 · cases hy
   intro cs hc
   cases hc
theorem C79knP_ok (h : 0 ≠ n) : ConOK Tryd.prog 79 (CX PknP rw st [(n, cw), (m, cu)] false) := by
 have k1 := CWI_ok rw 1 6
 have k2 := CWI_ok st 0 4
 refine con_of vx_sound ⟨⟨[I rw, I st], [(n, cw), (m, cu)]⟩, []⟩ (fun y hy => ?_) rfl (fun y _ => rfl) (fun y hy => ?_) rfl (Nat.le_of_ble_eq_true rfl) (by rw [nglob]; exact Nat.le_of_ble_eq_true rfl)
 · cases hy
   have key : ∀ R : ARes → Prop, R (.ret (.bool false)) → ∃ hs, vx.call 79 [.agg ⟨[I rw, I st, slV 2 n cw, nilS, slV 4 m cu]⟩] (retK R) mD5 hs := fun R hR => by
    refine ⟨_, (f79knP rw st n cw m cu (inB rw 1 6) (inB st 0 4) R).mpr ?_⟩
    repeat' (first | with_reducible apply And.intro | with_reducible intro)
    all_goals first
     | exact k1
     | exact k2
     | exact hR
     | exact tt (lne (a := 0) h)
     | rfl
   obtain ⟨hs, h⟩ := key (fun r => r = .ret (.bool false)) rfl
   exact ⟨hs, h⟩
 · cases hy
   intro cs hc
   cases hc
theorem l4knP (h : 0 ≠ n) (t : Value) : ∃ hs, vx.call 4 [.agg ⟨[I rw, I st, slV 2 n cw, nilS, slV 4 m cu]⟩, t, .int .u8 j] (retK fun r => r = .ret (.bool true)) (mL0 tabC) hs := by
 have c20 := C20knP_ok (rw := rw) (st := st) (m := m) (cu := cu) (cw := cw) h
 have c79 := C79knP_ok (rw := rw) (st := st) (m := m) (cu := cu) (cw := cw) h
 exact ⟨_, (f4IknP rw st n cw m cu j t tabC _).mpr ⟨fun _ => ⟨C11t_ok, rfl, rfl⟩, fun _ => ⟨c20, rfl, c79, rfl, c79, rfl, C11t_ok, rfl, rfl⟩⟩⟩
theorem C20knN_ok (h : 0 ≠ n) : ConOK Tryd.prog 20 (CX PknN rw st [(n, cw)] false) := by
 have k1 := C52_ok rw 1 6
 have k2 := C52_ok st 0 4
 refine con_of vx_sound ⟨⟨[I rw, I st], [(n, cw)]⟩, []⟩ (fun y hy => ?_) rfl (fun y _ => rfl) (fun y hy => ?_) rfl (Nat.le_of_ble_eq_true rfl) (by rw [nglob]; exact Nat.le_of_ble_eq_true rfl)
 · cases hy
   have key : ∀ R : ARes → Prop, R (.ret (.bool false)) → ∃ hs, vx.call 20 [.agg ⟨[I rw, I st, slV 2 n cw, nilS, nilS]⟩] (retK R) mD5 hs := fun R hR => by
    refine ⟨_, (f20knN rw st n cw (inB rw 1 6) (inB st 0 4) R).mpr ?_⟩
    repeat' (first | with_reducible apply And.intro | with_reducible intro)
    all_goals first
     | exact k1
     | exact k2
     | exact hR
     | exact tt (lne (a := 0) h)
     | rfl
   obtain ⟨hs, h⟩ := key (fun r => r = .ret (.bool false)) rfl
   exact ⟨hs, h⟩
 · cases hy
   intro cs hc
   cases hc
theorem C79knN_ok (h : 0 ≠ n) : ConOK Tryd.prog 79 (CX PknN rw st [(n, cw)] false) := by
 have k1 := CWI_ok rw 1 6
 have k2 := CWI_ok st 0 4
 refine con_of vx_sound ⟨⟨[I rw, I st], [(n, cw)]⟩, []⟩ (fun y hy => ?_) rfl (fun y _ => rfl) (fun y hy => ?_) rfl (Nat.le_of_ble_eq_true rfl) (by rw [nglob]; exact Nat.le_of_ble_eq_true rfl)
 · cases hy
   have key : ∀ R : ARes → Prop, R (.ret (.bool false)) → ∃ hs, vx.call 79 [.agg ⟨[I rw, I st, slV 2 n cw, nilS, nilS]⟩] (retK R) mD5 hs := fun R hR => by
    refine ⟨_, (f79knN rw st n cw (inB rw 1 6) (inB st 0 4) R).mpr ?_⟩
    repeat' (first | with_reducible apply And.intro | with_reducible intro)
    all_goals first
     | exact k1
     | exact k2
     | exact hR
     | exact tt (lne (a := 0) h)
     | rfl
   obtain ⟨hs, h⟩ := key (fun r => r = .ret (.bool false)) rfl
   exact ⟨hs, h⟩
 · cases hy
   intro cs hc
   cases hc
theorem l4knN (h : 0 ≠ n) (t : Value) : ∃ hs, vx.call 4 [.agg ⟨[I rw, I st, slV 2 n cw, nilS, nilS]⟩, t, .int .u8 j] (retK fun r => r = .ret (.bool true)) (mL0 tabC) hs := by
 have c20 := C20knN_ok (rw := rw) (st := st) (cw := cw) h
 have c79 := C79knN_ok (rw := rw) (st := st) (cw := cw) h
 exact ⟨_, (f4IknN rw st n cw j t tabC _).mpr ⟨fun _ => ⟨C11t_ok, rfl, rfl⟩, fun _ => ⟨c20, rfl, c79, rfl, c79, rfl, C11t_ok, rfl, rfl⟩⟩⟩
end
end Go.Ab
