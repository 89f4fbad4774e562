/- package surf: the law SurfTrue, of all surfs. -/
import Derived.Test.YtoelpblmhmhglaaDoorQF
import Derived.Test.YtoelpblmhmhglaaDoorQG
set_option maxRecDepth 100000
namespace Go.Ab
open Go Go.RowKit Go.Proofs
theorem f3In (rw st : Int) (c1 m cu : Nat) (wh : Int) (t : Value) (tb us : List Value) (R : ARes → Prop) : (vx.call 3 [su_n rw st c1 m cu, t, .int .u8 wh] (retK R) (mLH tb us) ([(21, .split ((9, Hint.con (C11t tb)) :: []) ((4, Hint.con (C20n rw st c1 m cu us false)) :: (6, Hint.con (C11t tb)) :: []))])) =
((((decide ((if (↑m : Int) > if (↑(0 : Nat) : Int) > (↑(0 : Nat) : Int) then (↑(0 : Nat) : Int) else (↑(0 : Nat) : Int) then (↑m : Int) else if (↑(0 : Nat) : Int) > (↑(0 : Nat) : Int) then (↑(0 : Nat) : Int) else (↑(0 : Nat) : Int)) > (40 : Int))) = true → ((ConOK Tryd.prog ((11 : Nat)) (C11t tb)) ∧ (Con.pre (C11t tb) ⟨⟨[], []⟩, [(tb)]⟩) ∧
R (.ret (.bool true)))) ∧
((decide ((if (↑m : Int) > if (↑(0 : Nat) : Int) > (↑(0 : Nat) : Int) then (↑(0 : Nat) : Int) else (↑(0 : Nat) : Int) then (↑m : Int) else if (↑(0 : Nat) : Int) > (↑(0 : Nat) : Int) then (↑(0 : Nat) : Int) else (↑(0 : Nat) : Int)) > (40 : Int))) = false → ((ConOK Tryd.prog ((20 : Nat)) (C20n rw st c1 m cu us false)) ∧ (Con.pre (C20n rw st c1 m cu us false) ⟨⟨[(.int .i64 rw), (.int .i64 st)], [⟨m, cu⟩]⟩, [(us)]⟩) ∧
((ConOK Tryd.prog ((11 : Nat)) (C11t tb)) ∧ (Con.pre (C11t tb) ⟨⟨[], []⟩, [(tb)]⟩) ∧
R (.ret (.bool true))))))) := by kernel_rfl
theorem f3Mn (rw st : Int) (c1 cu : Nat) (wh : Int) (t : Value) (tb us : List Value) (R : ARes → Prop) : (vx.call 3 [su_n rw st c1 0 cu, t, .int .u8 wh] (retK R) (mLH tb us) ((26, Hint.con (C20n rw st c1 (0 : Nat) cu us true)) :: (10, Hint.con (C11t tb)) :: [])) =
(((ConOK Tryd.prog ((20 : Nat)) (C20n rw st c1 (0 : Nat) cu us true)) ∧ (Con.pre (C20n rw st c1 (0 : Nat) cu us true) ⟨⟨[(.int .i64 rw), (.int .i64 st)], [⟨0, cu⟩]⟩, [(us)]⟩) ∧
((ConOK Tryd.prog ((11 : Nat)) (C11t tb)) ∧ (Con.pre (C11t tb) ⟨⟨[], []⟩, [(tb)]⟩) ∧
R (.ret (.bool true))))) := by kernel_rfl
theorem f3Dn (rw st : Int) (c1 m cu : Nat) (hut : Nat) (wh : Int) (t : Value) (tb : List Value) (u : Nat → Hut) (R : ARes → Prop) : (vx.call 3 [su_n rw st c1 m cu, t, .int .u8 wh] (retK R) (mLH tb (huL m u)) ([(21, .split ((9, Hint.con (C11t tb)) :: []) ((4, Hint.con (C20n rw st c1 m cu (huL m u) true)) :: (7, .val (.bool false)) :: (7, .val (.int .i64 hut)) :: (32, .val (.pointer (.some ⟨((4 : Nat)), ((0 : Nat) + hut * (3 : Nat)), .none⟩))) :: (0, .val (.agg ⟨[(.int .i64 ((u hut).fl)), (.int .i64 ((u hut).br)), (.int .i64 ((↑(u hut).row : Int)))]⟩)) :: (27, Hint.con (CSn rw st c1 m cu (huL m u) (↑hut : Int) (Value.tuple { toList := [I (0 : Int), I (0 : Int), I (0 : Int)] }))) :: (9, Hint.con (CSn rw st c1 m cu (huL m u) (↑hut : Int) (Value.tuple { toList := [I (0 : Int), I (0 : Int)] }))) :: (7, Hint.con (CSn rw st c1 m cu (huL m u) (↑hut : Int) (Value.tuple { toList := [I (0 : Int), I (4 : Int)] }))) :: (64, Hint.con (C11t tb)) :: []))])) =
((((decide ((if (↑m : Int) > if (↑(0 : Nat) : Int) > (↑(0 : Nat) : Int) then (↑(0 : Nat) : Int) else (↑(0 : Nat) : Int) then (↑m : Int) else if (↑(0 : Nat) : Int) > (↑(0 : Nat) : Int) then (↑(0 : Nat) : Int) else (↑(0 : Nat) : Int)) > (40 : Int))) = true → ((ConOK Tryd.prog ((11 : Nat)) (C11t tb)) ∧ (Con.pre (C11t tb) ⟨⟨[], []⟩, [(tb)]⟩) ∧
R (.ret (.bool true)))) ∧
((decide ((if (↑m : Int) > if (↑(0 : Nat) : Int) > (↑(0 : Nat) : Int) then (↑(0 : Nat) : Int) else (↑(0 : Nat) : Int) then (↑m : Int) else if (↑(0 : Nat) : Int) > (↑(0 : Nat) : Int) then (↑(0 : Nat) : Int) else (↑(0 : Nat) : Int)) > (40 : Int))) = false → ((ConOK Tryd.prog ((20 : Nat)) (C20n rw st c1 m cu (huL m u) true)) ∧ (Con.pre (C20n rw st c1 m cu (huL m u) true) ⟨⟨[(.int .i64 rw), (.int .i64 st)], [⟨m, cu⟩]⟩, [(huL m u)]⟩) ∧
((((some (.bool ((↑m : Int) == (0 : Int))) : Option Value) = some (.bool false))) ∧
((((((↑m : Int) ≠ (0 : Int))) ∧ ((IntKind.i64 = IntKind.i64))) ∧ (((.int .i64 hut) : Value) = (.int .i64 ((IntKind.i64.wrap wh).tmod (↑m : Int))))) ∧
((((((0 : Int) ≤ (↑hut : Int))) ∧ (((↑hut : Int) < (↑m : Int)))) ∧ (((.pointer (.some ⟨((4 : Nat)), ((0 : Nat) + hut * (3 : Nat)), .none⟩)) : Value) = (.pointer (.some ⟨((4 : Nat)), ((0 : Nat) + hut * (3 : Nat)), .none⟩)))) ∧
(((((0 : Nat) + hut * (3 : Nat) + (3 : Nat) ≤ (huL m u).length)) ∧ (((.agg ⟨[(.int .i64 ((u hut).fl)), (.int .i64 ((u hut).br)), (.int .i64 ((↑(u hut).row : Int)))]⟩) : Value) = (.agg ⟨(List.take ((3 : Nat)) (List.drop ((0 : Nat) + hut * (3 : Nat)) (huL m u)))⟩))) ∧
((ConOK Tryd.prog ((14 : Nat)) (CSn rw st c1 m cu (huL m u) (↑hut : Int) (Value.tuple { toList := [I (0 : Int), I (0 : Int), I (0 : Int)] }))) ∧ (Con.pre (CSn rw st c1 m cu (huL m u) (↑hut : Int) (Value.tuple { toList := [I (0 : Int), I (0 : Int), I (0 : Int)] })) ⟨⟨[(.int .i64 rw), (.int .i64 st), (.int .i64 hut)], [⟨m, cu⟩]⟩, [(huL m u)]⟩) ∧
((ConOK Tryd.prog ((15 : Nat)) (CSn rw st c1 m cu (huL m u) (↑hut : Int) (Value.tuple { toList := [I (0 : Int), I (0 : Int)] }))) ∧ (Con.pre (CSn rw st c1 m cu (huL m u) (↑hut : Int) (Value.tuple { toList := [I (0 : Int), I (0 : Int)] })) ⟨⟨[(.int .i64 rw), (.int .i64 st), (.int .i64 hut)], [⟨m, cu⟩]⟩, [(huL m u)]⟩) ∧
((ConOK Tryd.prog ((16 : Nat)) (CSn rw st c1 m cu (huL m u) (↑hut : Int) (Value.tuple { toList := [I (0 : Int), I (4 : Int)] }))) ∧ (Con.pre (CSn rw st c1 m cu (huL m u) (↑hut : Int) (Value.tuple { toList := [I (0 : Int), I (4 : Int)] })) ⟨⟨[(.int .i64 rw), (.int .i64 st), (.int .i64 hut)], [⟨m, cu⟩]⟩, [(huL m u)]⟩) ∧
((ConOK Tryd.prog ((11 : Nat)) (C11t tb)) ∧ (Con.pre (C11t tb) ⟨⟨[], []⟩, [(tb)]⟩) ∧
R (.ret (.bool true)))))))))))))) := by kernel_rfl
theorem f3Iv (rw st : Int) (c1 m cu : Nat) (wh : Int) (t : Value) (tb us : List Value) (R : ARes → Prop) : (vx.call 3 [su_v rw st c1 m cu, t, .int .u8 wh] (retK R) (mLH tb us) ([(21, .split ((9, Hint.con (C11t tb)) :: []) ((4, Hint.con (C20v rw st c1 m cu us false)) :: (6, Hint.con (C11t tb)) :: []))])) =
((((decide ((if (↑m : Int) > if (↑(0 : Nat) : Int) > (↑(0 : Nat) : Int) then (↑(0 : Nat) : Int) else (↑(0 : Nat) : Int) then (↑m : Int) else if (↑(0 : Nat) : Int) > (↑(0 : Nat) : Int) then (↑(0 : Nat) : Int) else (↑(0 : Nat) : Int)) > (40 : Int))) = true → ((ConOK Tryd.prog ((11 : Nat)) (C11t tb)) ∧ (Con.pre (C11t tb) ⟨⟨[], []⟩, [(tb)]⟩) ∧
R (.ret (.bool true)))) ∧
((decide ((if (↑m : Int) > if (↑(0 : Nat) : Int) > (↑(0 : Nat) : Int) then (↑(0 : Nat) : Int) else (↑(0 : Nat) : Int) then (↑m : Int) else if (↑(0 : Nat) : Int) > (↑(0 : Nat) : Int) then (↑(0 : Nat) : Int) else (↑(0 : Nat) : Int)) > (40 : Int))) = false → ((ConOK Tryd.prog ((20 : Nat)) (C20v rw st c1 m cu us false)) ∧ (Con.pre (C20v rw st c1 m cu us false) ⟨⟨[(.int .i64 rw), (.int .i64 st)], [⟨0, c1⟩, ⟨m, cu⟩]⟩, [(us)]⟩) ∧
((ConOK Tryd.prog ((11 : Nat)) (C11t tb)) ∧ (Con.pre (C11t tb) ⟨⟨[], []⟩, [(tb)]⟩) ∧
R (.ret (.bool true))))))) := by kernel_rfl
theorem f3Mv (rw st : Int) (c1 cu : Nat) (wh : Int) (t : Value) (tb us : List Value) (R : ARes → Prop) : (vx.call 3 [su_v rw st c1 0 cu, t, .int .u8 wh] (retK R) (mLH tb us) ((26, Hint.con (C20v rw st c1 (0 : Nat) cu us true)) :: (10, Hint.con (C11t tb)) :: [])) =
(((ConOK Tryd.prog ((20 : Nat)) (C20v rw st c1 (0 : Nat) cu us true)) ∧ (Con.pre (C20v rw st c1 (0 : Nat) cu us true) ⟨⟨[(.int .i64 rw), (.int .i64 st)], [⟨0, c1⟩, ⟨0, cu⟩]⟩, [(us)]⟩) ∧
((ConOK Tryd.prog ((11 : Nat)) (C11t tb)) ∧ (Con.pre (C11t tb) ⟨⟨[], []⟩, [(tb)]⟩) ∧
R (.ret (.bool true))))) := by kernel_rfl
theorem f3Dv (rw st : Int) (c1 m cu : Nat) (hut : Nat) (wh : Int) (t : Value) (tb : List Value) (u : Nat → Hut) (R : ARes → Prop) : (vx.call 3 [su_v rw st c1 m cu, t, .int .u8 wh] (retK R) (mLH tb (huL m u)) ([(21, .split ((9, Hint.con (C11t tb)) :: []) ((4, Hint.con (C20v rw st c1 m cu (huL m u) true)) :: (7, .val (.bool false)) :: (7, .val (.int .i64 hut)) :: (32, .val (.pointer (.some ⟨((4 : Nat)), ((0 : Nat) + hut * (3 : Nat)), .none⟩))) :: (0, .val (.agg ⟨[(.int .i64 ((u hut).fl)), (.int .i64 ((u hut).br)), (.int .i64 ((↑(u hut).row : Int)))]⟩)) :: (27, Hint.con (CSv rw st c1 m cu (huL m u) (↑hut : Int) (Value.tuple { toList := [I (0 : Int), I (0 : Int), I (0 : Int)] }))) :: (9, Hint.con (CSv rw st c1 m cu (huL m u) (↑hut : Int) (Value.tuple { toList := [I (0 : Int), I (0 : Int)] }))) :: (7, Hint.con (CSv rw st c1 m cu (huL m u) (↑hut : Int) (Value.tuple { toList := [I (0 : Int), I (4 : Int)] }))) :: (64, Hint.con (C11t tb)) :: []))])) =
((((decide ((if (↑m : Int) > if (↑(0 : Nat) : Int) > (↑(0 : Nat) : Int) then (↑(0 : Nat) : Int) else (↑(0 : Nat) : Int) then (↑m : Int) else if (↑(0 : Nat) : Int) > (↑(0 : Nat) : Int) then (↑(0 : Nat) : Int) else (↑(0 : Nat) : Int)) > (40 : Int))) = true → ((ConOK Tryd.prog ((11 : Nat)) (C11t tb)) ∧ (Con.pre (C11t tb) ⟨⟨[], []⟩, [(tb)]⟩) ∧
R (.ret (.bool true)))) ∧
((decide ((if (↑m : Int) > if (↑(0 : Nat) : Int) > (↑(0 : Nat) : Int) then (↑(0 : Nat) : Int) else (↑(0 : Nat) : Int) then (↑m : Int) else if (↑(0 : Nat) : Int) > (↑(0 : Nat) : Int) then (↑(0 : Nat) : Int) else (↑(0 : Nat) : Int)) > (40 : Int))) = false → ((ConOK Tryd.prog ((20 : Nat)) (C20v rw st c1 m cu (huL m u) true)) ∧ (Con.pre (C20v rw st c1 m cu (huL m u) true) ⟨⟨[(.int .i64 rw), (.int .i64 st)], [⟨0, c1⟩, ⟨m, cu⟩]⟩, [(huL m u)]⟩) ∧
((((some (.bool ((↑m : Int) == (0 : Int))) : Option Value) = some (.bool false))) ∧
((((((↑m : Int) ≠ (0 : Int))) ∧ ((IntKind.i64 = IntKind.i64))) ∧ (((.int .i64 hut) : Value) = (.int .i64 ((IntKind.i64.wrap wh).tmod (↑m : Int))))) ∧
((((((0 : Int) ≤ (↑hut : Int))) ∧ (((↑hut : Int) < (↑m : Int)))) ∧ (((.pointer (.some ⟨((4 : Nat)), ((0 : Nat) + hut * (3 : Nat)), .none⟩)) : Value) = (.pointer (.some ⟨((4 : Nat)), ((0 : Nat) + hut * (3 : Nat)), .none⟩)))) ∧
(((((0 : Nat) + hut * (3 : Nat) + (3 : Nat) ≤ (huL m u).length)) ∧ (((.agg ⟨[(.int .i64 ((u hut).fl)), (.int .i64 ((u hut).br)), (.int .i64 ((↑(u hut).row : Int)))]⟩) : Value) = (.agg ⟨(List.take ((3 : Nat)) (List.drop ((0 : Nat) + hut * (3 : Nat)) (huL m u)))⟩))) ∧
((ConOK Tryd.prog ((14 : Nat)) (CSv rw st c1 m cu (huL m u) (↑hut : Int) (Value.tuple { toList := [I (0 : Int), I (0 : Int), I (0 : Int)] }))) ∧ (Con.pre (CSv rw st c1 m cu (huL m u) (↑hut : Int) (Value.tuple { toList := [I (0 : Int), I (0 : Int), I (0 : Int)] })) ⟨⟨[(.int .i64 rw), (.int .i64 st), (.int .i64 hut)], [⟨0, c1⟩, ⟨m, cu⟩]⟩, [(huL m u)]⟩) ∧
((ConOK Tryd.prog ((15 : Nat)) (CSv rw st c1 m cu (huL m u) (↑hut : Int) (Value.tuple { toList := [I (0 : Int), I (0 : Int)] }))) ∧ (Con.pre (CSv rw st c1 m cu (huL m u) (↑hut : Int) (Value.tuple { toList := [I (0 : Int), I (0 : Int)] })) ⟨⟨[(.int .i64 rw), (.int .i64 st), (.int .i64 hut)], [⟨0, c1⟩, ⟨m, cu⟩]⟩, [(huL m u)]⟩) ∧
((ConOK Tryd.prog ((16 : Nat)) (CSv rw st c1 m cu (huL m u) (↑hut : Int) (Value.tuple { toList := [I (0 : Int), I (4 : Int)] }))) ∧ (Con.pre (CSv rw st c1 m cu (huL m u) (↑hut : Int) (Value.tuple { toList := [I (0 : Int), I (4 : Int)] })) ⟨⟨[(.int .i64 rw), (.int .i64 st), (.int .i64 hut)], [⟨0, c1⟩, ⟨m, cu⟩]⟩, [(huL m u)]⟩) ∧
((ConOK Tryd.prog ((11 : Nat)) (C11t tb)) ∧ (Con.pre (C11t tb) ⟨⟨[], []⟩, [(tb)]⟩) ∧
R (.ret (.bool true)))))))))))))) := by kernel_rfl
theorem f3Iw (rw st : Int) (c1 m cu : Nat) (wh : Int) (t : Value) (tb us : List Value) (R : ARes → Prop) : (vx.call 3 [su_w rw st c1 m cu, t, .int .u8 wh] (retK R) (mLH tb us) ([(21, .split ((9, Hint.con (C11t tb)) :: []) ((4, Hint.con (C20w rw st c1 m cu us false)) :: (6, Hint.con (C11t tb)) :: []))])) =
((((decide ((if (↑m : Int) > if (↑(0 : Nat) : Int) > (↑(0 : Nat) : Int) then (↑(0 : Nat) : Int) else (↑(0 : Nat) : Int) then (↑m : Int) else if (↑(0 : Nat) : Int) > (↑(0 : Nat) : Int) then (↑(0 : Nat) : Int) else (↑(0 : Nat) : Int)) > (40 : Int))) = true → ((ConOK Tryd.prog ((11 : Nat)) (C11t tb)) ∧ (Con.pre (C11t tb) ⟨⟨[], []⟩, [(tb)]⟩) ∧
R (.ret (.bool true)))) ∧
((decide ((if (↑m : Int) > if (↑(0 : Nat) : Int) > (↑(0 : Nat) : Int) then (↑(0 : Nat) : Int) else (↑(0 : Nat) : Int) then (↑m : Int) else if (↑(0 : Nat) : Int) > (↑(0 : Nat) : Int) then (↑(0 : Nat) : Int) else (↑(0 : Nat) : Int)) > (40 : Int))) = false → ((ConOK Tryd.prog ((20 : Nat)) (C20w rw st c1 m cu us false)) ∧ (Con.pre (C20w rw st c1 m cu us false) ⟨⟨[(.int .i64 rw), (.int .i64 st)], [⟨0, c1⟩, ⟨m, cu⟩]⟩, [(us)]⟩) ∧
((ConOK Tryd.prog ((11 : Nat)) (C11t tb)) ∧ (Con.pre (C11t tb) ⟨⟨[], []⟩, [(tb)]⟩) ∧
R (.ret (.bool true))))))) := by kernel_rfl
theorem f3Mw (rw st : Int) (c1 cu : Nat) (wh : Int) (t : Value) (tb us : List Value) (R : ARes → Prop) : (vx.call 3 [su_w rw st c1 0 cu, t, .int .u8 wh] (retK R) (mLH tb us) ((26, Hint.con (C20w rw st c1 (0 : Nat) cu us true)) :: (10, Hint.con (C11t tb)) :: [])) =
(((ConOK Tryd.prog ((20 : Nat)) (C20w rw st c1 (0 : Nat) cu us true)) ∧ (Con.pre (C20w rw st c1 (0 : Nat) cu us true) ⟨⟨[(.int .i64 rw), (.int .i64 st)], [⟨0, c1⟩, ⟨0, cu⟩]⟩, [(us)]⟩) ∧
((ConOK Tryd.prog ((11 : Nat)) (C11t tb)) ∧ (Con.pre (C11t tb) ⟨⟨[], []⟩, [(tb)]⟩) ∧
R (.ret (.bool true))))) := by kernel_rfl
theorem f3Dw (rw st : Int) (c1 m cu : Nat) (hut : Nat) (wh : Int) (t : Value) (tb : List Value) (u : Nat → Hut) (R : ARes → Prop) : (vx.call 3 [su_w rw st c1 m cu, t, .int .u8 wh] (retK R) (mLH tb (huL m u)) ([(21, .split ((9, Hint.con (C11t tb)) :: []) ((4, Hint.con (C20w rw st c1 m cu (huL m u) true)) :: (7, .val (.bool false)) :: (7, .val (.int .i64 hut)) :: (32, .val (.pointer (.some ⟨((4 : Nat)), ((0 : Nat) + hut * (3 : Nat)), .none⟩))) :: (0, .val (.agg ⟨[(.int .i64 ((u hut).fl)), (.int .i64 ((u hut).br)), (.int .i64 ((↑(u hut).row : Int)))]⟩)) :: (27, Hint.con (CSw rw st c1 m cu (huL m u) (↑hut : Int) (Value.tuple { toList := [I (0 : Int), I (0 : Int), I (0 : Int)] }))) :: (9, Hint.con (CSw rw st c1 m cu (huL m u) (↑hut : Int) (Value.tuple { toList := [I (0 : Int), I (0 : Int)] }))) :: (7, Hint.con (CSw rw st c1 m cu (huL m u) (↑hut : Int) (Value.tuple { toList := [I (0 : Int), I (4 : Int)] }))) :: (64, Hint.con (C11t tb)) :: []))])) =
((((decide ((if (↑m : Int) > if (↑(0 : Nat) : Int) > (↑(0 : Nat) : Int) then (↑(0 : Nat) : Int) else (↑(0 : Nat) : Int) then (↑m : Int) else if (↑(0 : Nat) : Int) > (↑(0 : Nat) : Int) then (↑(0 : Nat) : Int) else (↑(0 : Nat) : Int)) > (40 : Int))) = true → ((ConOK Tryd.prog ((11 : Nat)) (C11t tb)) ∧ (Con.pre (C11t tb) ⟨⟨[], []⟩, [(tb)]⟩) ∧
R (.ret (.bool true)))) ∧
((decide ((if (↑m : Int) > if (↑(0 : Nat) : Int) > (↑(0 : Nat) : Int) then (↑(0 : Nat) : Int) else (↑(0 : Nat) : Int) then (↑m : Int) else if (↑(0 : Nat) : Int) > (↑(0 : Nat) : Int) then (↑(0 : Nat) : Int) else (↑(0 : Nat) : Int)) > (40 : Int))) = false → ((ConOK Tryd.prog ((20 : Nat)) (C20w rw st c1 m cu (huL m u) true)) ∧ (Con.pre (C20w rw st c1 m cu (huL m u) true) ⟨⟨[(.int .i64 rw), (.int .i64 st)], [⟨0, c1⟩, ⟨m, cu⟩]⟩, [(huL m u)]⟩) ∧
((((some (.bool ((↑m : Int) == (0 : Int))) : Option Value) = some (.bool false))) ∧
((((((↑m : Int) ≠ (0 : Int))) ∧ ((IntKind.i64 = IntKind.i64))) ∧ (((.int .i64 hut) : Value) = (.int .i64 ((IntKind.i64.wrap wh).tmod (↑m : Int))))) ∧
((((((0 : Int) ≤ (↑hut : Int))) ∧ (((↑hut : Int) < (↑m : Int)))) ∧ (((.pointer (.some ⟨((4 : Nat)), ((0 : Nat) + hut * (3 : Nat)), .none⟩)) : Value) = (.pointer (.some ⟨((4 : Nat)), ((0 : Nat) + hut * (3 : Nat)), .none⟩)))) ∧
(((((0 : Nat) + hut * (3 : Nat) + (3 : Nat) ≤ (huL m u).length)) ∧ (((.agg ⟨[(.int .i64 ((u hut).fl)), (.int .i64 ((u hut).br)), (.int .i64 ((↑(u hut).row : Int)))]⟩) : Value) = (.agg ⟨(List.take ((3 : Nat)) (List.drop ((0 : Nat) + hut * (3 : Nat)) (huL m u)))⟩))) ∧
((ConOK Tryd.prog ((14 : Nat)) (CSw rw st c1 m cu (huL m u) (↑hut : Int) (Value.tuple { toList := [I (0 : Int), I (0 : Int), I (0 : Int)] }))) ∧ (Con.pre (CSw rw st c1 m cu (huL m u) (↑hut : Int) (Value.tuple { toList := [I (0 : Int), I (0 : Int), I (0 : Int)] })) ⟨⟨[(.int .i64 rw), (.int .i64 st), (.int .i64 hut)], [⟨0, c1⟩, ⟨m, cu⟩]⟩, [(huL m u)]⟩) ∧
((ConOK Tryd.prog ((15 : Nat)) (CSw rw st c1 m cu (huL m u) (↑hut : Int) (Value.tuple { toList := [I (0 : Int), I (0 : Int)] }))) ∧ (Con.pre (CSw rw st c1 m cu (huL m u) (↑hut : Int) (Value.tuple { toList := [I (0 : Int), I (0 : Int)] })) ⟨⟨[(.int .i64 rw), (.int .i64 st), (.int .i64 hut)], [⟨0, c1⟩, ⟨m, cu⟩]⟩, [(huL m u)]⟩) ∧
((ConOK Tryd.prog ((16 : Nat)) (CSw rw st c1 m cu (huL m u) (↑hut : Int) (Value.tuple { toList := [I (0 : Int), I (4 : Int)] }))) ∧ (Con.pre (CSw rw st c1 m cu (huL m u) (↑hut : Int) (Value.tuple { toList := [I (0 : Int), I (4 : Int)] })) ⟨⟨[(.int .i64 rw), (.int .i64 st), (.int .i64 hut)], [⟨0, c1⟩, ⟨m, cu⟩]⟩, [(huL m u)]⟩) ∧
((ConOK Tryd.prog ((11 : Nat)) (C11t tb)) ∧ (Con.pre (C11t tb) ⟨⟨[], []⟩, [(tb)]⟩) ∧
R (.ret (.bool true)))))))))))))) := by kernel_rfl
theorem f3Ip (rw st : Int) (n cw n2 cv m cu : Nat) (wh : Int) (t : Value) (tb ws vs us : List Value) (R : ARes → Prop) : (vx.call 3 [suR rw st n cw n2 cv m cu, t, .int .u8 wh] (retK R) (mLR tb ws vs us) ([(21, .split ((9, Hint.con (C11t tb)) :: []) ((4, Hint.con (C20 rw st n cw n2 cv m cu ws vs us false)) :: (6, Hint.con (C11t tb)) :: []))])) =
((((decide ((if (↑m : Int) > if (↑n2 : Int) > (↑n : Int) then (↑n2 : Int) else (↑n : Int) then (↑m : Int) else if (↑n2 : Int) > (↑n : Int) then (↑n2 : Int) else (↑n : Int)) > (40 : Int))) = true → ((ConOK Tryd.prog ((11 : Nat)) (C11t tb)) ∧ (Con.pre (C11t tb) ⟨⟨[], []⟩, [(tb)]⟩) ∧
R (.ret (.bool true)))) ∧
((decide ((if (↑m : Int) > if (↑n2 : Int) > (↑n : Int) then (↑n2 : Int) else (↑n : Int) then (↑m : Int) else if (↑n2 : Int) > (↑n : Int) then (↑n2 : Int) else (↑n : Int)) > (40 : Int))) = false → ((ConOK Tryd.prog ((20 : Nat)) (C20 rw st n cw n2 cv m cu ws vs us false)) ∧ (Con.pre (C20 rw st n cw n2 cv m cu ws vs us false) ⟨⟨[(.int .i64 rw), (.int .i64 st)], [⟨n, cw⟩, ⟨n2, cv⟩, ⟨m, cu⟩]⟩, [(ws), (vs), (us)]⟩) ∧
((ConOK Tryd.prog ((11 : Nat)) (C11t tb)) ∧ (Con.pre (C11t tb) ⟨⟨[], []⟩, [(tb)]⟩) ∧
R (.ret (.bool true))))))) := by kernel_rfl
theorem f3Mp (rw st : Int) (n cw n2 cv cu : Nat) (wh : Int) (t : Value) (tb ws vs us : List Value) (R : ARes → Prop) : (vx.call 3 [suR rw st n cw n2 cv 0 cu, t, .int .u8 wh] (retK R) (mLR tb ws vs us) ([(21, .split ((9, Hint.con (C11t tb)) :: []) ((4, Hint.con (C20 rw st n cw n2 cv (0 : Nat) cu ws vs us true)) :: (10, Hint.con (C11t tb)) :: []))])) =
((((decide ((if (↑(0 : Nat) : Int) > if (↑n2 : Int) > (↑n : Int) then (↑n2 : Int) else (↑n : Int) then (↑(0 : Nat) : Int) else if (↑n2 : Int) > (↑n : Int) then (↑n2 : Int) else (↑n : Int)) > (40 : Int))) = true → ((ConOK Tryd.prog ((11 : Nat)) (C11t tb)) ∧ (Con.pre (C11t tb) ⟨⟨[], []⟩, [(tb)]⟩) ∧
R (.ret (.bool true)))) ∧
((decide ((if (↑(0 : Nat) : Int) > if (↑n2 : Int) > (↑n : Int) then (↑n2 : Int) else (↑n : Int) then (↑(0 : Nat) : Int) else if (↑n2 : Int) > (↑n : Int) then (↑n2 : Int) else (↑n : Int)) > (40 : Int))) = false → ((ConOK Tryd.prog ((20 : Nat)) (C20 rw st n cw n2 cv (0 : Nat) cu ws vs us true)) ∧ (Con.pre (C20 rw st n cw n2 cv (0 : Nat) cu ws vs us true) ⟨⟨[(.int .i64 rw), (.int .i64 st)], [⟨n, cw⟩, ⟨n2, cv⟩, ⟨0, cu⟩]⟩, [(ws), (vs), (us)]⟩) ∧
((ConOK Tryd.prog ((11 : Nat)) (C11t tb)) ∧ (Con.pre (C11t tb) ⟨⟨[], []⟩, [(tb)]⟩) ∧
R (.ret (.bool true))))))) := by kernel_rfl
theorem f3Dp (rw st : Int) (cw cv m cu hut : Nat) (wh : Int) (t : Value) (tb ws vs : List Value) (u : Nat → Hut) (R : ARes → Prop) : (vx.call 3 [suV rw st 0 cw cv m cu, t, .int .u8 wh] (retK R) (mLR tb ws vs (huL m u)) ([(21, .split ((9, Hint.con (C11t tb)) :: []) ((4, Hint.con (C20 rw st (0 : Nat) cw (0 : Nat) cv m cu ws vs (huL m u) true)) :: (7, .val (.bool false)) :: (7, .val (.int .i64 hut)) :: (32, .val (.pointer (.some ⟨((4 : Nat)), ((0 : Nat) + hut * (3 : Nat)), .none⟩))) :: (0, .val (.agg ⟨[(.int .i64 ((u hut).fl)), (.int .i64 ((u hut).br)), (.int .i64 ((↑(u hut).row : Int)))]⟩)) :: (27, Hint.con (CS1 rw st (0 : Nat) cw cv m cu tb ws vs (huL m u) (↑hut : Int) (Value.tuple { toList := [I (0 : Int), I (0 : Int), I (0 : Int)] }))) :: (9, Hint.con (CS1 rw st (0 : Nat) cw cv m cu tb ws vs (huL m u) (↑hut : Int) (Value.tuple { toList := [I (0 : Int), I (0 : Int)] }))) :: (7, Hint.con (CS1 rw st (0 : Nat) cw cv m cu tb ws vs (huL m u) (↑hut : Int) (Value.tuple { toList := [I (0 : Int), I (4 : Int)] }))) :: (64, Hint.con (C11t tb)) :: []))])) =
((((decide ((if (↑m : Int) > if (↑(0 : Nat) : Int) > (↑(0 : Nat) : Int) then (↑(0 : Nat) : Int) else (↑(0 : Nat) : Int) then (↑m : Int) else if (↑(0 : Nat) : Int) > (↑(0 : Nat) : Int) then (↑(0 : Nat) : Int) else (↑(0 : Nat) : Int)) > (40 : Int))) = true → ((ConOK Tryd.prog ((11 : Nat)) (C11t tb)) ∧ (Con.pre (C11t tb) ⟨⟨[], []⟩, [(tb)]⟩) ∧
R (.ret (.bool true)))) ∧
((decide ((if (↑m : Int) > if (↑(0 : Nat) : Int) > (↑(0 : Nat) : Int) then (↑(0 : Nat) : Int) else (↑(0 : Nat) : Int) then (↑m : Int) else if (↑(0 : Nat) : Int) > (↑(0 : Nat) : Int) then (↑(0 : Nat) : Int) else (↑(0 : Nat) : Int)) > (40 : Int))) = false → ((ConOK Tryd.prog ((20 : Nat)) (C20 rw st (0 : Nat) cw (0 : Nat) cv m cu ws vs (huL m u) true)) ∧ (Con.pre (C20 rw st (0 : Nat) cw (0 : Nat) cv m cu ws vs (huL m u) true) ⟨⟨[(.int .i64 rw), (.int .i64 st)], [⟨0, cw⟩, ⟨0, cv⟩, ⟨m, cu⟩]⟩, [(ws), (vs), (huL m u)]⟩) ∧
((((some (.bool ((↑m : Int) == (0 : Int))) : Option Value) = some (.bool false))) ∧
((((((↑m : Int) ≠ (0 : Int))) ∧ ((IntKind.i64 = IntKind.i64))) ∧ (((.int .i64 hut) : Value) = (.int .i64 ((IntKind.i64.wrap wh).tmod (↑m : Int))))) ∧
((((((0 : Int) ≤ (↑hut : Int))) ∧ (((↑hut : Int) < (↑m : Int)))) ∧ (((.pointer (.some ⟨((4 : Nat)), ((0 : Nat) + hut * (3 : Nat)), .none⟩)) : Value) = (.pointer (.some ⟨((4 : Nat)), ((0 : Nat) + hut * (3 : Nat)), .none⟩)))) ∧
(((((0 : Nat) + hut * (3 : Nat) + (3 : Nat) ≤ (huL m u).length)) ∧ (((.agg ⟨[(.int .i64 ((u hut).fl)), (.int .i64 ((u hut).br)), (.int .i64 ((↑(u hut).row : Int)))]⟩) : Value) = (.agg ⟨(List.take ((3 : Nat)) (List.drop ((0 : Nat) + hut * (3 : Nat)) (huL m u)))⟩))) ∧
((ConOK Tryd.prog ((14 : Nat)) (CS1 rw st (0 : Nat) cw cv m cu tb ws vs (huL m u) (↑hut : Int) (Value.tuple { toList := [I (0 : Int), I (0 : Int), I (0 : Int)] }))) ∧ (Con.pre (CS1 rw st (0 : Nat) cw cv m cu tb ws vs (huL m u) (↑hut : Int) (Value.tuple { toList := [I (0 : Int), I (0 : Int), I (0 : Int)] })) ⟨⟨[(.int .i64 rw), (.int .i64 st), (.int .i64 hut)], [⟨0, cw⟩, ⟨0, cv⟩, ⟨m, cu⟩]⟩, [(tb), (ws), (vs), (huL m u)]⟩) ∧
((ConOK Tryd.prog ((15 : Nat)) (CS1 rw st (0 : Nat) cw cv m cu tb ws vs (huL m u) (↑hut : Int) (Value.tuple { toList := [I (0 : Int), I (0 : Int)] }))) ∧ (Con.pre (CS1 rw st (0 : Nat) cw cv m cu tb ws vs (huL m u) (↑hut : Int) (Value.tuple { toList := [I (0 : Int), I (0 : Int)] })) ⟨⟨[(.int .i64 rw), (.int .i64 st), (.int .i64 hut)], [⟨0, cw⟩, ⟨0, cv⟩, ⟨m, cu⟩]⟩, [(tb), (ws), (vs), (huL m u)]⟩) ∧
((ConOK Tryd.prog ((16 : Nat)) (CS1 rw st (0 : Nat) cw cv m cu tb ws vs (huL m u) (↑hut : Int) (Value.tuple { toList := [I (0 : Int), I (4 : Int)] }))) ∧ (Con.pre (CS1 rw st (0 : Nat) cw cv m cu tb ws vs (huL m u) (↑hut : Int) (Value.tuple { toList := [I (0 : Int), I (4 : Int)] })) ⟨⟨[(.int .i64 rw), (.int .i64 st), (.int .i64 hut)], [⟨0, cw⟩, ⟨0, cv⟩, ⟨m, cu⟩]⟩, [(tb), (ws), (vs), (huL m u)]⟩) ∧
((ConOK Tryd.prog ((11 : Nat)) (C11t tb)) ∧ (Con.pre (C11t tb) ⟨⟨[], []⟩, [(tb)]⟩) ∧
R (.ret (.bool true)))))))))))))) := by kernel_rfl
theorem f3IN (rw st : Int) (n cw n2 cv : Nat) (wh : Int) (t : Value) (tb ws vs : List Value) (R : ARes → Prop) : (vx.call 3 [suN rw st n cw n2 cv, t, .int .u8 wh] (retK R) (mLN tb ws vs) ([(21, .split ((9, Hint.con (C11t tb)) :: []) ((4, Hint.con (C20N rw st n cw n2 cv ws vs false)) :: (6, Hint.con (C11t tb)) :: []))])) =
((((decide ((if (↑(0 : Nat) : Int) > if (↑n2 : Int) > (↑n : Int) then (↑n2 : Int) else (↑n : Int) then (↑(0 : Nat) : Int) else if (↑n2 : Int) > (↑n : Int) then (↑n2 : Int) else (↑n : Int)) > (40 : Int))) = true → ((ConOK Tryd.prog ((11 : Nat)) (C11t tb)) ∧ (Con.pre (C11t tb) ⟨⟨[], []⟩, [(tb)]⟩) ∧
R (.ret (.bool true)))) ∧
((decide ((if (↑(0 : Nat) : Int) > if (↑n2 : Int) > (↑n : Int) then (↑n2 : Int) else (↑n : Int) then (↑(0 : Nat) : Int) else if (↑n2 : Int) > (↑n : Int) then (↑n2 : Int) else (↑n : Int)) > (40 : Int))) = false → ((ConOK Tryd.prog ((20 : Nat)) (C20N rw st n cw n2 cv ws vs false)) ∧ (Con.pre (C20N rw st n cw n2 cv ws vs false) ⟨⟨[(.int .i64 rw), (.int .i64 st)], [⟨n, cw⟩, ⟨n2, cv⟩]⟩, [(ws), (vs)]⟩) ∧
((ConOK Tryd.prog ((11 : Nat)) (C11t tb)) ∧ (Con.pre (C11t tb) ⟨⟨[], []⟩, [(tb)]⟩) ∧
R (.ret (.bool true))))))) := by kernel_rfl
theorem f3MN (rw st : Int) (n cw n2 cv : Nat) (wh : Int) (t : Value) (tb ws vs : List Value) (R : ARes → Prop) : (vx.call 3 [suN rw st n cw n2 cv, t, .int .u8 wh] (retK R) (mLN tb ws vs) ([(21, .split ((9, Hint.con (C11t tb)) :: []) ((4, Hint.con (C20N rw st n cw n2 cv ws vs true)) :: (10, Hint.con (C11t tb)) :: []))])) =
((((decide ((if (↑(0 : Nat) : Int) > if (↑n2 : Int) > (↑n : Int) then (↑n2 : Int) else (↑n : Int) then (↑(0 : Nat) : Int) else if (↑n2 : Int) > (↑n : Int) then (↑n2 : Int) else (↑n : Int)) > (40 : Int))) = true → ((ConOK Tryd.prog ((11 : Nat)) (C11t tb)) ∧ (Con.pre (C11t tb) ⟨⟨[], []⟩, [(tb)]⟩) ∧
R (.ret (.bool true)))) ∧
((decide ((if (↑(0 : Nat) : Int) > if (↑n2 : Int) > (↑n : Int) then (↑n2 : Int) else (↑n : Int) then (↑(0 : Nat) : Int) else if (↑n2 : Int) > (↑n : Int) then (↑n2 : Int) else (↑n : Int)) > (40 : Int))) = false → ((ConOK Tryd.prog ((20 : Nat)) (C20N rw st n cw n2 cv ws vs true)) ∧ (Con.pre (C20N rw st n cw n2 cv ws vs true) ⟨⟨[(.int .i64 rw), (.int .i64 st)], [⟨n, cw⟩, ⟨n2, cv⟩]⟩, [(ws), (vs)]⟩) ∧
((ConOK Tryd.prog ((11 : Nat)) (C11t tb)) ∧ (Con.pre (C11t tb) ⟨⟨[], []⟩, [(tb)]⟩) ∧
R (.ret (.bool true))))))) := by kernel_rfl
theorem f3nnN (rw st : Int) (c1 : Nat) (wh : Int) (t : Value) (tb : List Value) (R : ARes → Prop) : (vx.call 3 [.agg ⟨[I rw, I st, nilS, nilS, nilS]⟩, t, .int .u8 wh] (retK R) (mL0 tb) ([(35, .split ([(3, .split ([(10, .split ([(3, .split ((53, Hint.con (C11t tb)) :: []) ((18, Hint.con (C11t tb)) :: []))]) ((19, Hint.con (C11t tb)) :: []))]) ((19, Hint.con (C11t tb)) :: []))]) ((20, Hint.con (C11t tb)) :: []))])) =
((((decide ((1 : Int) ≤ rw)) = true → (((decide (rw ≤ (6 : Int))) = true → (((decide ((0 : Int) ≤ st)) = true → (((decide (st ≤ (4 : Int))) = true → ((ConOK Tryd.prog ((11 : Nat)) (C11t tb)) ∧ (Con.pre (C11t tb) ⟨⟨[], []⟩, [(tb)]⟩) ∧
R (.ret (.bool true)))) ∧
((decide (st ≤ (4 : Int))) = false → ((ConOK Tryd.prog ((11 : Nat)) (C11t tb)) ∧ (Con.pre (C11t tb) ⟨⟨[], []⟩, [(tb)]⟩) ∧
R (.ret (.bool true)))))) ∧
((decide ((0 : Int) ≤ st)) = false → ((ConOK Tryd.prog ((11 : Nat)) (C11t tb)) ∧ (Con.pre (C11t tb) ⟨⟨[], []⟩, [(tb)]⟩) ∧
R (.ret (.bool true)))))) ∧
((decide (rw ≤ (6 : Int))) = false → ((ConOK Tryd.prog ((11 : Nat)) (C11t tb)) ∧ (Con.pre (C11t tb) ⟨⟨[], []⟩, [(tb)]⟩) ∧
R (.ret (.bool true)))))) ∧
((decide ((1 : Int) ≤ rw)) = false → ((ConOK Tryd.prog ((11 : Nat)) (C11t tb)) ∧ (Con.pre (C11t tb) ⟨⟨[], []⟩, [(tb)]⟩) ∧
R (.ret (.bool true)))))) := by kernel_rfl
theorem f3nvN (rw st : Int) (c1 : Nat) (wh : Int) (t : Value) (tb : List Value) (R : ARes → Prop) : (vx.call 3 [.agg ⟨[I rw, I st, nilS, slV 3 0 c1, nilS]⟩, t, .int .u8 wh] (retK R) (mL0 tb) ([(35, .split ([(3, .split ([(10, .split ([(3, .split ((53, Hint.con (C11t tb)) :: []) ((18, Hint.con (C11t tb)) :: []))]) ((19, Hint.con (C11t tb)) :: []))]) ((19, Hint.con (C11t tb)) :: []))]) ((20, Hint.con (C11t tb)) :: []))])) =
((((decide ((1 : Int) ≤ rw)) = true → (((decide (rw ≤ (6 : Int))) = true → (((decide ((0 : Int) ≤ st)) = true → (((decide (st ≤ (4 : Int))) = true → ((ConOK Tryd.prog ((11 : Nat)) (C11t tb)) ∧ (Con.pre (C11t tb) ⟨⟨[], []⟩, [(tb)]⟩) ∧
R (.ret (.bool true)))) ∧
((decide (st ≤ (4 : Int))) = false → ((ConOK Tryd.prog ((11 : Nat)) (C11t tb)) ∧ (Con.pre (C11t tb) ⟨⟨[], []⟩, [(tb)]⟩) ∧
R (.ret (.bool true)))))) ∧
((decide ((0 : Int) ≤ st)) = false → ((ConOK Tryd.prog ((11 : Nat)) (C11t tb)) ∧ (Con.pre (C11t tb) ⟨⟨[], []⟩, [(tb)]⟩) ∧
R (.ret (.bool true)))))) ∧
((decide (rw ≤ (6 : Int))) = false → ((ConOK Tryd.prog ((11 : Nat)) (C11t tb)) ∧ (Con.pre (C11t tb) ⟨⟨[], []⟩, [(tb)]⟩) ∧
R (.ret (.bool true)))))) ∧
((decide ((1 : Int) ≤ rw)) = false → ((ConOK Tryd.prog ((11 : Nat)) (C11t tb)) ∧ (Con.pre (C11t tb) ⟨⟨[], []⟩, [(tb)]⟩) ∧
R (.ret (.bool true)))))) := by kernel_rfl
theorem f3wnN (rw st : Int) (c1 : Nat) (wh : Int) (t : Value) (tb : List Value) (R : ARes → Prop) : (vx.call 3 [.agg ⟨[I rw, I st, slV 2 0 c1, nilS, nilS]⟩, t, .int .u8 wh] (retK R) (mL0 tb) ([(35, .split ([(3, .split ([(10, .split ([(3, .split ((53, Hint.con (C11t tb)) :: []) ((18, Hint.con (C11t tb)) :: []))]) ((19, Hint.con (C11t tb)) :: []))]) ((19, Hint.con (C11t tb)) :: []))]) ((20, Hint.con (C11t tb)) :: []))])) =
((((decide ((1 : Int) ≤ rw)) = true → (((decide (rw ≤ (6 : Int))) = true → (((decide ((0 : Int) ≤ st)) = true → (((decide (st ≤ (4 : Int))) = true → ((ConOK Tryd.prog ((11 : Nat)) (C11t tb)) ∧ (Con.pre (C11t tb) ⟨⟨[], []⟩, [(tb)]⟩) ∧
R (.ret (.bool true)))) ∧
((decide (st ≤ (4 : Int))) = false → ((ConOK Tryd.prog ((11 : Nat)) (C11t tb)) ∧ (Con.pre (C11t tb) ⟨⟨[], []⟩, [(tb)]⟩) ∧
R (.ret (.bool true)))))) ∧
((decide ((0 : Int) ≤ st)) = false → ((ConOK Tryd.prog ((11 : Nat)) (C11t tb)) ∧ (Con.pre (C11t tb) ⟨⟨[], []⟩, [(tb)]⟩) ∧
R (.ret (.bool true)))))) ∧
((decide (rw ≤ (6 : Int))) = false → ((ConOK Tryd.prog ((11 : Nat)) (C11t tb)) ∧ (Con.pre (C11t tb) ⟨⟨[], []⟩, [(tb)]⟩) ∧
R (.ret (.bool true)))))) ∧
((decide ((1 : Int) ≤ rw)) = false → ((ConOK Tryd.prog ((11 : Nat)) (C11t tb)) ∧ (Con.pre (C11t tb) ⟨⟨[], []⟩, [(tb)]⟩) ∧
R (.ret (.bool true)))))) := by kernel_rfl
theorem f3nkP (rw st : Int) (n cv m cu : Nat) (wh : Int) (t : Value) (tb : List Value) (R : ARes → Prop) : (vx.call 3 [.agg ⟨[I rw, I st, nilS, slV 3 n cv, slV 4 m cu]⟩, t, .int .u8 wh] (retK R) (mL0 tb) ([(21, .split ((9, Hint.con (C11t tb)) :: []) ([(13, .split ([(3, .split ([(10, .split ([(3, .split ((17, .val (.bool true)) :: (11, Hint.con (C11t tb)) :: []) ((18, Hint.con (C11t tb)) :: []))]) ((19, Hint.con (C11t tb)) :: []))]) ((19, Hint.con (C11t tb)) :: []))]) ((20, Hint.con (C11t tb)) :: []))]))])) =
((((decide ((if (↑m : Int) > if (↑n : Int) > (↑(0 : Nat) : Int) then (↑n : Int) else (↑(0 : Nat) : Int) then (↑m : Int) else if (↑n : Int) > (↑(0 : Nat) : Int) then (↑n : Int) else (↑(0 : Nat) : Int)) > (40 : Int))) = true → ((ConOK Tryd.prog ((11 : Nat)) (C11t tb)) ∧ (Con.pre (C11t tb) ⟨⟨[], []⟩, [(tb)]⟩) ∧
R (.ret (.bool true)))) ∧
((decide ((if (↑m : Int) > if (↑n : Int) > (↑(0 : Nat) : Int) then (↑n : Int) else (↑(0 : Nat) : Int) then (↑m : Int) else if (↑n : Int) > (↑(0 : Nat) : Int) then (↑n : Int) else (↑(0 : Nat) : Int)) > (40 : Int))) = false → (((decide ((1 : Int) ≤ rw)) = true → (((decide (rw ≤ (6 : Int))) = true → (((decide ((0 : Int) ≤ st)) = true → (((decide (st ≤ (4 : Int))) = true → ((((some (.bool ((↑n : Int) != (↑(0 : Nat) : Int))) : Option Value) = some (.bool true))) ∧
((ConOK Tryd.prog ((11 : Nat)) (C11t tb)) ∧ (Con.pre (C11t tb) ⟨⟨[], []⟩, [(tb)]⟩) ∧
R (.ret (.bool true))))) ∧
((decide (st ≤ (4 : Int))) = false → ((ConOK Tryd.prog ((11 : Nat)) (C11t tb)) ∧ (Con.pre (C11t tb) ⟨⟨[], []⟩, [(tb)]⟩) ∧
R (.ret (.bool true)))))) ∧
((decide ((0 : Int) ≤ st)) = false → ((ConOK Tryd.prog ((11 : Nat)) (C11t tb)) ∧ (Con.pre (C11t tb) ⟨⟨[], []⟩, [(tb)]⟩) ∧
R (.ret (.bool true)))))) ∧
((decide (rw ≤ (6 : Int))) = false → ((ConOK Tryd.prog ((11 : Nat)) (C11t tb)) ∧ (Con.pre (C11t tb) ⟨⟨[], []⟩, [(tb)]⟩) ∧
R (.ret (.bool true)))))) ∧
((decide ((1 : Int) ≤ rw)) = false → ((ConOK Tryd.prog ((11 : Nat)) (C11t tb)) ∧ (Con.pre (C11t tb) ⟨⟨[], []⟩, [(tb)]⟩) ∧
R (.ret (.bool true)))))))) := by kernel_rfl
theorem f3nkN (rw st : Int) (n cv : Nat) (wh : Int) (t : Value) (tb : List Value) (R : ARes → Prop) : (vx.call 3 [.agg ⟨[I rw, I st, nilS, slV 3 n cv, nilS]⟩, t, .int .u8 wh] (retK R) (mL0 tb) ([(21, .split ((9, Hint.con (C11t tb)) :: []) ([(13, .split ([(3, .split ([(10, .split ([(3, .split ((17, .val (.bool true)) :: (11, Hint.con (C11t tb)) :: []) ((18, Hint.con (C11t tb)) :: []))]) ((19, Hint.con (C11t tb)) :: []))]) ((19, Hint.con (C11t tb)) :: []))]) ((20, Hint.con (C11t tb)) :: []))]))])) =
((((decide ((if (↑(0 : Nat) : Int) > if (↑n : Int) > (↑(0 : Nat) : Int) then (↑n : Int) else (↑(0 : Nat) : Int) then (↑(0 : Nat) : Int) else if (↑n : Int) > (↑(0 : Nat) : Int) then (↑n : Int) else (↑(0 : Nat) : Int)) > (40 : Int))) = true → ((ConOK Tryd.prog ((11 : Nat)) (C11t tb)) ∧ (Con.pre (C11t tb) ⟨⟨[], []⟩, [(tb)]⟩) ∧
R (.ret (.bool true)))) ∧
((decide ((if (↑(0 : Nat) : Int) > if (↑n : Int) > (↑(0 : Nat) : Int) then (↑n : Int) else (↑(0 : Nat) : Int) then (↑(0 : Nat) : Int) else if (↑n : Int) > (↑(0 : Nat) : Int) then (↑n : Int) else (↑(0 : Nat) : Int)) > (40 : Int))) = false → (((decide ((1 : Int) ≤ rw)) = true → (((decide (rw ≤ (6 : Int))) = true → (((decide ((0 : Int) ≤ st)) = true → (((decide (st ≤ (4 : Int))) = true → ((((some (.bool ((↑n : Int) != (↑(0 : Nat) : Int))) : Option Value) = some (.bool true))) ∧
((ConOK Tryd.prog ((11 : Nat)) (C11t tb)) ∧ (Con.pre (C11t tb) ⟨⟨[], []⟩, [(tb)]⟩) ∧
R (.ret (.bool true))))) ∧
((decide (st ≤ (4 : Int))) = false → ((ConOK Tryd.prog ((11 : Nat)) (C11t tb)) ∧ (Con.pre (C11t tb) ⟨⟨[], []⟩, [(tb)]⟩) ∧
R (.ret (.bool true)))))) ∧
((decide ((0 : Int) ≤ st)) = false → ((ConOK Tryd.prog ((11 : Nat)) (C11t tb)) ∧ (Con.pre (C11t tb) ⟨⟨[], []⟩, [(tb)]⟩) ∧
R (.ret (.bool true)))))) ∧
((decide (rw ≤ (6 : Int))) = false → ((ConOK Tryd.prog ((11 : Nat)) (C11t tb)) ∧ (Con.pre (C11t tb) ⟨⟨[], []⟩, [(tb)]⟩) ∧
R (.ret (.bool true)))))) ∧
((decide ((1 : Int) ≤ rw)) = false → ((ConOK Tryd.prog ((11 : Nat)) (C11t tb)) ∧ (Con.pre (C11t tb) ⟨⟨[], []⟩, [(tb)]⟩) ∧
R (.ret (.bool true)))))))) := by kernel_rfl
theorem f3knP (rw st : Int) (n cw m cu : Nat) (wh : Int) (t : Value) (tb : List Value) (R : ARes → Prop) : (vx.call 3 [.agg ⟨[I rw, I st, slV 2 n cw, nilS, slV 4 m cu]⟩, t, .int .u8 wh] (retK R) (mL0 tb) ([(21, .split ((9, Hint.con (C11t tb)) :: []) ([(13, .split ([(3, .split ([(10, .split ([(3, .split ([(8, .split ((13, Hint.con (C11t tb)) :: []) ((8, .val (.bool true)) :: (11, Hint.con (C11t tb)) :: []))]) ((18, Hint.con (C11t tb)) :: []))]) ((19, Hint.con (C11t tb)) :: []))]) ((19, Hint.con (C11t tb)) :: []))]) ((20, Hint.con (C11t tb)) :: []))]))])) =
((((decide ((if (↑m : Int) > if (↑(0 : Nat) : Int) > (↑n : Int) then (↑(0 : Nat) : Int) else (↑n : Int) then (↑m : Int) else if (↑(0 : Nat) : Int) > (↑n : Int) then (↑(0 : Nat) : Int) else (↑n : Int)) > (40 : Int))) = true → ((ConOK Tryd.prog ((11 : Nat)) (C11t tb)) ∧ (Con.pre (C11t tb) ⟨⟨[], []⟩, [(tb)]⟩) ∧
R (.ret (.bool true)))) ∧
((decide ((if (↑m : Int) > if (↑(0 : Nat) : Int) > (↑n : Int) then (↑(0 : Nat) : Int) else (↑n : Int) then (↑m : Int) else if (↑(0 : Nat) : Int) > (↑n : Int) then (↑(0 : Nat) : Int) else (↑n : Int)) > (40 : Int))) = false → (((decide ((1 : Int) ≤ rw)) = true → (((decide (rw ≤ (6 : Int))) = true → (((decide ((0 : Int) ≤ st)) = true → (((decide (st ≤ (4 : Int))) = true → (((decide ((↑n : Int) > (8 : Int))) = true → ((ConOK Tryd.prog ((11 : Nat)) (C11t tb)) ∧ (Con.pre (C11t tb) ⟨⟨[], []⟩, [(tb)]⟩) ∧
R (.ret (.bool true)))) ∧
((decide ((↑n : Int) > (8 : Int))) = false → ((((some (.bool ((↑(0 : Nat) : Int) != (↑n : Int))) : Option Value) = some (.bool true))) ∧
((ConOK Tryd.prog ((11 : Nat)) (C11t tb)) ∧ (Con.pre (C11t tb) ⟨⟨[], []⟩, [(tb)]⟩) ∧
R (.ret (.bool true))))))) ∧
((decide (st ≤ (4 : Int))) = false → ((ConOK Tryd.prog ((11 : Nat)) (C11t tb)) ∧ (Con.pre (C11t tb) ⟨⟨[], []⟩, [(tb)]⟩) ∧
R (.ret (.bool true)))))) ∧
((decide ((0 : Int) ≤ st)) = false → ((ConOK Tryd.prog ((11 : Nat)) (C11t tb)) ∧ (Con.pre (C11t tb) ⟨⟨[], []⟩, [(tb)]⟩) ∧
R (.ret (.bool true)))))) ∧
((decide (rw ≤ (6 : Int))) = false → ((ConOK Tryd.prog ((11 : Nat)) (C11t tb)) ∧ (Con.pre (C11t tb) ⟨⟨[], []⟩, [(tb)]⟩) ∧
R (.ret (.bool true)))))) ∧
((decide ((1 : Int) ≤ rw)) = false → ((ConOK Tryd.prog ((11 : Nat)) (C11t tb)) ∧ (Con.pre (C11t tb) ⟨⟨[], []⟩, [(tb)]⟩) ∧
R (.ret (.bool true)))))))) := by kernel_rfl
theorem f3knN (rw st : Int) (n cw : Nat) (wh : Int) (t : Value) (tb : List Value) (R : ARes → Prop) : (vx.call 3 [.agg ⟨[I rw, I st, slV 2 n cw, nilS, nilS]⟩, t, .int .u8 wh] (retK R) (mL0 tb) ([(21, .split ((9, Hint.con (C11t tb)) :: []) ([(13, .split ([(3, .split ([(10, .split ([(3, .split ([(8, .split ((13, Hint.con (C11t tb)) :: []) ((8, .val (.bool true)) :: (11, Hint.con (C11t tb)) :: []))]) ((18, Hint.con (C11t tb)) :: []))]) ((19, Hint.con (C11t tb)) :: []))]) ((19, Hint.con (C11t tb)) :: []))]) ((20, Hint.con (C11t tb)) :: []))]))])) =
((((decide ((if (↑(0 : Nat) : Int) > if (↑(0 : Nat) : Int) > (↑n : Int) then (↑(0 : Nat) : Int) else (↑n : Int) then (↑(0 : Nat) : Int) else if (↑(0 : Nat) : Int) > (↑n : Int) then (↑(0 : Nat) : Int) else (↑n : Int)) > (40 : Int))) = true → ((ConOK Tryd.prog ((11 : Nat)) (C11t tb)) ∧ (Con.pre (C11t tb) ⟨⟨[], []⟩, [(tb)]⟩) ∧
R (.ret (.bool true)))) ∧
((decide ((if (↑(0 : Nat) : Int) > if (↑(0 : Nat) : Int) > (↑n : Int) then (↑(0 : Nat) : Int) else (↑n : Int) then (↑(0 : Nat) : Int) else if (↑(0 : Nat) : Int) > (↑n : Int) then (↑(0 : Nat) : Int) else (↑n : Int)) > (40 : Int))) = false → (((decide ((1 : Int) ≤ rw)) = true → (((decide (rw ≤ (6 : Int))) = true → (((decide ((0 : Int) ≤ st)) = true → (((decide (st ≤ (4 : Int))) = true → (((decide ((↑n : Int) > (8 : Int))) = true → ((ConOK Tryd.prog ((11 : Nat)) (C11t tb)) ∧ (Con.pre (C11t tb) ⟨⟨[], []⟩, [(tb)]⟩) ∧
R (.ret (.bool true)))) ∧
((decide ((↑n : Int) > (8 : Int))) = false → ((((some (.bool ((↑(0 : Nat) : Int) != (↑n : Int))) : Option Value) = some (.bool true))) ∧
((ConOK Tryd.prog ((11 : Nat)) (C11t tb)) ∧ (Con.pre (C11t tb) ⟨⟨[], []⟩, [(tb)]⟩) ∧
R (.ret (.bool true))))))) ∧
((decide (st ≤ (4 : Int))) = false → ((ConOK Tryd.prog ((11 : Nat)) (C11t tb)) ∧ (Con.pre (C11t tb) ⟨⟨[], []⟩, [(tb)]⟩) ∧
R (.ret (.bool true)))))) ∧
((decide ((0 : Int) ≤ st)) = false → ((ConOK Tryd.prog ((11 : Nat)) (C11t tb)) ∧ (Con.pre (C11t tb) ⟨⟨[], []⟩, [(tb)]⟩) ∧
R (.ret (.bool true)))))) ∧
((decide (rw ≤ (6 : Int))) = false → ((ConOK Tryd.prog ((11 : Nat)) (C11t tb)) ∧ (Con.pre (C11t tb) ⟨⟨[], []⟩, [(tb)]⟩) ∧
R (.ret (.bool true)))))) ∧
((decide ((1 : Int) ≤ rw)) = false → ((ConOK Tryd.prog ((11 : Nat)) (C11t tb)) ∧ (Con.pre (C11t tb) ⟨⟨[], []⟩, [(tb)]⟩) ∧
R (.ret (.bool true)))))))) := by kernel_rfl
def toH (x : Raw) : Hut := ⟨x.fl, x.br, x.row.toNat⟩
theorem huts_conv {rw : Int} {m : Nat} {u : Nat → Raw} (h1 : 1 ≤ rw) (h6 : rw ≤ 6) (h5 : m ≤ 5) (h : allF (huB rw u) m 0 = true) : raL m u = huL m (fun i => toH (u i)) ∧ HUK rw m (fun i => toH (u i)) := by
  have e : IntKind.i64.wrap (rw - 1) = rw - 1 := wrapI (by omega) (by omega)
  have each : ∀ i, i < m → (0 ≤ (u i).fl ∧ (u i).fl ≤ 40) ∧ (0 ≤ (u i).br ∧ (u i).br ≤ 10) ∧ 0 ≤ (u i).row ∧ (u i).row ≤ rw - 1 := fun i hi => by
    have := (allF_iff m 0).1 h i (Nat.zero_le _) (by omega)
    simp only [huB, inB, e, Bool.and_eq_true] at this
    obtain ⟨⟨a1, a2⟩, ⟨b1, b2⟩, c1, c2⟩ := this
    exact ⟨⟨of_decide_eq_true a1, of_decide_eq_true a2⟩, ⟨of_decide_eq_true b1, of_decide_eq_true b2⟩, of_decide_eq_true c1, of_decide_eq_true c2⟩
  refine ⟨flatC_congr fun i hi => ?_, ⟨h5, fun i hi => ?_⟩⟩
  · obtain ⟨_, _, c1, _⟩ := each i hi
    show [I (u i).fl, I (u i).br, I (u i).row] = [I (u i).fl, I (u i).br, I ((u i).row.toNat : Nat)]
    rw [Int.toNat_of_nonneg c1]
  · obtain ⟨⟨a1, a2⟩, ⟨b1, b2⟩, c1, c2⟩ := each i hi
    refine ⟨a1, a2, b1, b2, ?_⟩
    show (((u i).row.toNat : Nat) : Int) < rw
    rw [Int.toNat_of_nonneg c1]; omega
theorem okS0_inv {rw st : Int} {m : Nat} {u : Nat → Raw} (h : okS0 rw st m u = true) : (1 ≤ rw ∧ rw ≤ 6) ∧ (0 ≤ st ∧ st ≤ 4) ∧ m ≤ 5 ∧ allF (huB rw u) m 0 = true := by
  simp only [okS0, inB, Bool.and_eq_true, Bool.not_eq_true'] at h
  obtain ⟨⟨a, b⟩, ⟨c, d⟩, e, f⟩ := h
  have a := of_decide_eq_true a
  have b := of_decide_eq_true b
  have c := of_decide_eq_true c
  have d := of_decide_eq_true d
  have e := of_decide_eq_false e
  exact ⟨⟨a, b⟩, ⟨c, d⟩, by omega, f⟩
theorem okSu_inv {rw st : Int} {n n2 m : Nat} {w v : Nat → Sp} {u : Nat → Raw} (h : okSu rw st n n2 m w v u = true) : n2 = n ∧ SOK rw st n w v ∧ m ≤ 5 ∧ allF (huB rw u) m 0 = true := by
  simp only [okSu, inB, Bool.and_eq_true, Bool.not_eq_true'] at h
  obtain ⟨⟨a, b⟩, ⟨c, d⟩, e, g, f, i, k⟩ := h
  have a := of_decide_eq_true a
  have b := of_decide_eq_true b
  have c := of_decide_eq_true c
  have d := of_decide_eq_true d
  have e := of_decide_eq_false e
  have f := of_decide_eq_false f
  have g : (n2 : Int) = n := by simpa using g
  have each : ∀ x : Sp, ∀ hi : Int, hi ≤ 40 → spB x hi = true → 0 ≤ x.lo ∧ x.lo ≤ x.hi ∧ x.hi ≤ hi ∧ x.hi - x.lo ≤ 3 := fun x hi h40 hx => by
    simp only [spB, Bool.and_eq_true] at hx
    obtain ⟨x1, x2, x3, x4⟩ := hx
    have x1 := of_decide_eq_true x1
    have x2 := of_decide_eq_true x2
    have x3 := of_decide_eq_true x3
    have x4 := of_decide_eq_true x4
    rw [wrapI (by omega) (by omega)] at x4
    exact ⟨x1, x2, x3, x4⟩
  have all := (allF_iff n 0).1 i
  refine ⟨by omega, ⟨a, b, c, d, by omega, fun i hi => ?_, fun i hi => ?_⟩, by omega, k⟩
  · have := all i (Nat.zero_le _) (by omega)
    simp only [hoB, Bool.and_eq_true] at this
    exact each _ _ (by omega) this.1
  · have := all i (Nat.zero_le _) (by omega)
    simp only [hoB, Bool.and_eq_true] at this
    exact each _ _ (by omega) this.2
section
variable {rw st : Int} {c1 m cu j : Nat} {u : Nat → Raw}
theorem hwj {j : Nat} (hj : j < 256) : IntKind.i64.wrap ((j : Nat) : Int) = (j : Int) := wrapI (by omega) (by omega)
theorem law3n (hj : j < 256) (t : Value) : ∃ hs, vx.call 3 [su_n rw st c1 m cu, t, .int .u8 j] (retK fun r => r = .ret (.bool true)) (mLH tabC (raL m u)) hs := by
  have c20 := C20n_ok (rw := rw) (st := st) (c1 := c1) (m := m) (cu := cu) (u := u)
  cases hok : okS0 rw st m u with
  | false =>
    rw [hok] at c20
    exact ⟨_, (f3In rw st c1 m cu j t tabC (raL m u) _).mpr ⟨fun _ => ⟨C11t_ok, rfl, rfl⟩, fun _ => ⟨c20, rfl, C11t_ok, rfl, rfl⟩⟩⟩
  | true =>
    rw [hok] at c20
    rcases Nat.eq_zero_or_pos m with h0 | h0
    · subst h0
      exact ⟨_, (f3Mn rw st c1 cu j t tabC (raL 0 u) _).mpr ⟨c20, rfl, C11t_ok, rfl, rfl⟩⟩
    · obtain ⟨hrw, hst, h5, hall⟩ := okS0_inv hok
      obtain ⟨hl, hU⟩ := huts_conv hrw.1 hrw.2 h5 hall
      rw [hl] at c20 ⊢
      have hh : j % m < m := Nat.mod_lt _ h0
      have hmod : (Value.int .i64 ((j % m : Nat) : Int)) = .int .i64 ((IntKind.i64.wrap ((j : Nat) : Int)).tmod (m : Int)) := by rw [hwj hj]; rfl
      have hpart := huL_part (fun i => toH (u i)) hh
      have hlen := huL_len m (fun i => toH (u i))
      have hm0 : ((m : Int) == (0 : Int)) = false := by simp only [beq_eq_false_iff_ne, ne_eq]; omega
      exact ⟨_, (f3Dn rw st c1 m cu (j % m) j t tabC (fun i => toH (u i)) _).mpr ⟨fun _ => ⟨C11t_ok, rfl, rfl⟩, fun _ => ⟨c20, rfl, tf hm0, ⟨⟨by omega, rfl⟩, hmod⟩, ⟨⟨by omega, by omega⟩, rfl⟩, ⟨by rw [hlen]; omega, by rw [hpart]; rfl⟩, C14n_ok (c1 := c1) hrw hst hU hh, rfl, C15n_ok (c1 := c1) hrw hst hU hh, rfl, C16n_ok (c1 := c1) hrw hst hU hh, rfl, C11t_ok, rfl, rfl⟩⟩⟩
theorem law3v (hj : j < 256) (t : Value) : ∃ hs, vx.call 3 [su_v rw st c1 m cu, t, .int .u8 j] (retK fun r => r = .ret (.bool true)) (mLH tabC (raL m u)) hs := by
  have c20 := C20v_ok (rw := rw) (st := st) (c1 := c1) (m := m) (cu := cu) (u := u)
  cases hok : okS0 rw st m u with
  | false =>
    rw [hok] at c20
    exact ⟨_, (f3Iv rw st c1 m cu j t tabC (raL m u) _).mpr ⟨fun _ => ⟨C11t_ok, rfl, rfl⟩, fun _ => ⟨c20, rfl, C11t_ok, rfl, rfl⟩⟩⟩
  | true =>
    rw [hok] at c20
    rcases Nat.eq_zero_or_pos m with h0 | h0
    · subst h0
      exact ⟨_, (f3Mv rw st c1 cu j t tabC (raL 0 u) _).mpr ⟨c20, rfl, C11t_ok, rfl, rfl⟩⟩
    · obtain ⟨hrw, hst, h5, hall⟩ := okS0_inv hok
      obtain ⟨hl, hU⟩ := huts_conv hrw.1 hrw.2 h5 hall
      rw [hl] at c20 ⊢
      have hh : j % m < m := Nat.mod_lt _ h0
      have hmod : (Value.int .i64 ((j % m : Nat) : Int)) = .int .i64 ((IntKind.i64.wrap ((j : Nat) : Int)).tmod (m : Int)) := by rw [hwj hj]; rfl
      have hpart := huL_part (fun i => toH (u i)) hh
      have hlen := huL_len m (fun i => toH (u i))
      have hm0 : ((m : Int) == (0 : Int)) = false := by simp only [beq_eq_false_iff_ne, ne_eq]; omega
      exact ⟨_, (f3Dv rw st c1 m cu (j % m) j t tabC (fun i => toH (u i)) _).mpr ⟨fun _ => ⟨C11t_ok, rfl, rfl⟩, fun _ => ⟨c20, rfl, tf hm0, ⟨⟨by omega, rfl⟩, hmod⟩, ⟨⟨by omega, by omega⟩, rfl⟩, ⟨by rw [hlen]; omega, by rw [hpart]; rfl⟩, C14v_ok (c1 := c1) hrw hst hU hh, rfl, C15v_ok (c1 := c1) hrw hst hU hh, rfl, C16v_ok (c1 := c1) hrw hst hU hh, rfl, C11t_ok, rfl, rfl⟩⟩⟩
theorem law3w (hj : j < 256) (t : Value) : ∃ hs, vx.call 3 [su_w rw st c1 m cu, t, .int .u8 j] (retK fun r => r = .ret (.bool true)) (mLH tabC (raL m u)) hs := by
  have c20 := C20w_ok (rw := rw) (st := st) (c1 := c1) (m := m) (cu := cu) (u := u)
  cases hok : okS0 rw st m u with
  | false =>
    rw [hok] at c20
    exact ⟨_, (f3Iw rw st c1 m cu j t tabC (raL m u) _).mpr ⟨fun _ => ⟨C11t_ok, rfl, rfl⟩, fun _ => ⟨c20, rfl, C11t_ok, rfl, rfl⟩⟩⟩
  | true =>
    rw [hok] at c20
    rcases Nat.eq_zero_or_pos m with h0 | h0
    · subst h0
      exact ⟨_, (f3Mw rw st c1 cu j t tabC (raL 0 u) _).mpr ⟨c20, rfl, C11t_ok, rfl, rfl⟩⟩
    · obtain ⟨hrw, hst, h5, hall⟩ := okS0_inv hok
      obtain ⟨hl, hU⟩ := huts_conv hrw.1 hrw.2 h5 hall
      rw [hl] at c20 ⊢
      have hh : j % m < m := Nat.mod_lt _ h0
      have hmod : (Value.int .i64 ((j % m : Nat) : Int)) = .int .i64 ((IntKind.i64.wrap ((j : Nat) : Int)).tmod (m : Int)) := by rw [hwj hj]; rfl
      have hpart := huL_part (fun i => toH (u i)) hh
      have hlen := huL_len m (fun i => toH (u i))
      have hm0 : ((m : Int) == (0 : Int)) = false := by simp only [beq_eq_false_iff_ne, ne_eq]; omega
      exact ⟨_, (f3Dw rw st c1 m cu (j % m) j t tabC (fun i => toH (u i)) _).mpr ⟨fun _ => ⟨C11t_ok, rfl, rfl⟩, fun _ => ⟨c20, rfl, tf hm0, ⟨⟨by omega, rfl⟩, hmod⟩, ⟨⟨by omega, by omega⟩, rfl⟩, ⟨by rw [hlen]; omega, by rw [hpart]; rfl⟩, C14w_ok (c1 := c1) hrw hst hU hh, rfl, C15w_ok (c1 := c1) hrw hst hU hh, rfl, C16w_ok (c1 := c1) hrw hst hU hh, rfl, C11t_ok, rfl, rfl⟩⟩⟩
end
section
variable {rw st : Int} {n cw n2 cv m cu j : Nat} {w v : Nat → Sp} {u : Nat → Raw}
theorem law3R (hj : j < 256) (h : okSu rw st n n2 m w v u = false ∨ m = 0 ∨ n = 0) (t : Value) : ∃ hs, vx.call 3 [suR rw st n cw n2 cv m cu, t, .int .u8 j] (retK fun r => r = .ret (.bool true)) (mLR tabC (spL n w) (spL n2 v) (raL m u)) hs := by
  have c20 := C20_ok (rw := rw) (st := st) (n := n) (cw := cw) (n2 := n2) (cv := cv) (m := m) (cu := cu) (w := w) (v := v) (u := u)
  cases hok : okSu rw st n n2 m w v u with
  | false =>
    rw [hok] at c20
    exact ⟨_, (f3Ip rw st n cw n2 cv m cu j t tabC (spL n w) (spL n2 v) (raL m u) _).mpr ⟨fun _ => ⟨C11t_ok, rfl, rfl⟩, fun _ => ⟨c20, rfl, C11t_ok, rfl, rfl⟩⟩⟩
  | true =>
    rw [hok] at c20
    rcases Nat.eq_zero_or_pos m with h0 | h0
    · subst h0
      exact ⟨_, (f3Mp rw st n cw n2 cv cu j t tabC (spL n w) (spL n2 v) (raL 0 u) _).mpr ⟨fun _ => ⟨C11t_ok, rfl, rfl⟩, fun _ => ⟨c20, rfl, C11t_ok, rfl, rfl⟩⟩⟩
    · have hn : n = 0 := by
        rcases h with h | h | h
        · rw [hok] at h; cases h
        · omega
        · exact h
      subst hn
      obtain ⟨e, hS, h5, hall⟩ := okSu_inv hok
      subst e
      obtain ⟨hl, hU⟩ := huts_conv hS.rw1 hS.rw6 h5 hall
      rw [hl] at c20 ⊢
      have hh : j % m < m := Nat.mod_lt _ h0
      have hmod : (Value.int .i64 ((j % m : Nat) : Int)) = .int .i64 ((IntKind.i64.wrap ((j : Nat) : Int)).tmod (m : Int)) := by rw [hwj hj]; rfl
      have hpart := huL_part (fun i => toH (u i)) hh
      have hlen := huL_len m (fun i => toH (u i))
      have hm0 : ((m : Int) == (0 : Int)) = false := by simp only [beq_eq_false_iff_ne, ne_eq]; omega
      have c14 := C14_ok (cw := cw) (cv := cv) (cu := cu) hS hU hh
      have c15 := C15_ok (cw := cw) (cv := cv) (cu := cu) hS hU hh
      have c16 := C16_ok (cw := cw) (cv := cv) (cu := cu) hS hU hh
      have hrow : (toH (u (j % m))).row < 6 := by
        obtain ⟨_, _, _, _, u4⟩ := hU.u (j % m) hh
        have := hS.rw6
        have u4 : ((toH (u (j % m))).row : Int) < rw := u4
        omega
      have hlo : losN (crH st w v (toH (u (j % m))) 0) = 0 := by
        show losN (2 ^ (toH (u (j % m))).row) = 0
        unfold losN
        rw [if_neg (pow_not64 hrow), if_neg (by rw [Nat.testBit_two_pow, decide_eq_false (by omega)]; simp)]
      rw [hlo] at c15
      exact ⟨_, (f3Dp rw st cw cv m cu (j % m) j t tabC (spL 0 w) (spL 0 v) (fun i => toH (u i)) _).mpr ⟨fun _ => ⟨C11t_ok, rfl, rfl⟩, fun _ => ⟨c20, rfl, tf hm0, ⟨⟨by omega, rfl⟩, hmod⟩, ⟨⟨by omega, by omega⟩, rfl⟩, ⟨by rw [hlen]; omega, by rw [hpart]; rfl⟩, c14, rfl, c15, rfl, c16, rfl, C11t_ok, rfl, rfl⟩⟩⟩
theorem law3N (t : Value) : ∃ hs, vx.call 3 [suN rw st n cw n2 cv, t, .int .u8 j] (retK fun r => r = .ret (.bool true)) (mLN tabC (spL n w) (spL n2 v)) hs := by
  have c20 := C20N_ok (rw := rw) (st := st) (n := n) (cw := cw) (n2 := n2) (cv := cv) (w := w) (v := v)
  cases hok : okSN rw st n n2 w v with
  | false =>
    rw [hok] at c20
    exact ⟨_, (f3IN rw st n cw n2 cv j t tabC (spL n w) (spL n2 v) _).mpr ⟨fun _ => ⟨C11t_ok, rfl, rfl⟩, fun _ => ⟨c20, rfl, C11t_ok, rfl, rfl⟩⟩⟩
  | true =>
    rw [hok] at c20
    exact ⟨_, (f3MN rw st n cw n2 cv j t tabC (spL n w) (spL n2 v) _).mpr ⟨fun _ => ⟨C11t_ok, rfl, rfl⟩, fun _ => ⟨c20, rfl, C11t_ok, rfl, rfl⟩⟩⟩
theorem lnnN (t : Value) : ∃ hs, vx.call 3 [.agg ⟨[I rw, I st, nilS, nilS, nilS]⟩, t, .int .u8 j] (retK fun r => r = .ret (.bool true)) (mL0 tabC) hs := by
  refine ⟨_, (f3nnN rw st 0 j t tabC _).mpr ?_⟩
  repeat' (first | with_reducible apply And.intro | with_reducible intro)
  all_goals first
    | exact C11t_ok
    | exact rfl
    | trivial
    | rfl
theorem lnvN (t : Value) : ∃ hs, vx.call 3 [.agg ⟨[I rw, I st, nilS, slV 3 0 cv, nilS]⟩, t, .int .u8 j] (retK fun r => r = .ret (.bool true)) (mL0 tabC) hs := by
  refine ⟨_, (f3nvN rw st cv j t tabC _).mpr ?_⟩
  repeat' (first | with_reducible apply And.intro | with_reducible intro)
  all_goals first
    | exact C11t_ok
    | exact rfl
    | trivial
    | rfl
theorem lwnN (t : Value) : ∃ hs, vx.call 3 [.agg ⟨[I rw, I st, slV 2 0 cw, nilS, nilS]⟩, t, .int .u8 j] (retK fun r => r = .ret (.bool true)) (mL0 tabC) hs := by
  refine ⟨_, (f3wnN rw st cw j t tabC _).mpr ?_⟩
  repeat' (first | with_reducible apply And.intro | with_reducible intro)
  all_goals first
    | exact C11t_ok
    | exact rfl
    | trivial
    | rfl
theorem lnkP (h : n ≠ 0) (t : Value) : ∃ hs, vx.call 3 [.agg ⟨[I rw, I st, nilS, slV 3 n cv, slV 4 m cu]⟩, t, .int .u8 j] (retK fun r => r = .ret (.bool true)) (mL0 tabC) hs := by
  refine ⟨_, (f3nkP rw st n cv m cu j t tabC _).mpr ?_⟩
  repeat' (first | with_reducible apply And.intro | with_reducible intro)
  all_goals first
    | exact C11t_ok
    | exact tt (lne (b := 0) h)
    | trivial
    | rfl
theorem lnkN (h : n ≠ 0) (t : Value) : ∃ hs, vx.call 3 [.agg ⟨[I rw, I st, nilS, slV 3 n cv, nilS]⟩, t, .int .u8 j] (retK fun r => r = .ret (.bool true)) (mL0 tabC) hs := by
  refine ⟨_, (f3nkN rw st n cv j t tabC _).mpr ?_⟩
  repeat' (first | with_reducible apply And.intro | with_reducible intro)
  all_goals first
    | exact C11t_ok
    | exact tt (lne (b := 0) h)
    | trivial
    | rfl
theorem lknP (h : 0 ≠ n) (t : Value) : ∃ hs, vx.call 3 [.agg ⟨[I rw, I st, slV 2 n cw, nilS, slV 4 m cu]⟩, t, .int .u8 j] (retK fun r => r = .ret (.bool true)) (mL0 tabC) hs := by
  refine ⟨_, (f3knP rw st n cw m cu j t tabC _).mpr ?_⟩
  repeat' (first | with_reducible apply And.intro | with_reducible intro)
  all_goals first
    | exact C11t_ok
    | exact tt (lne (a := 0) h)
    | trivial
    | rfl
theorem lknN (h : 0 ≠ n) (t : Value) : ∃ hs, vx.call 3 [.agg ⟨[I rw, I st, slV 2 n cw, nilS, nilS]⟩, t, .int .u8 j] (retK fun r => r = .ret (.bool true)) (mL0 tabC) hs := by
  refine ⟨_, (f3knN rw st n cw j t tabC _).mpr ?_⟩
  repeat' (first | with_reducible apply And.intro | with_reducible intro)
  all_goals first
    | exact C11t_ok
    | exact tt (lne (a := 0) h)
    | trivial
    | rfl
end
end Go.Ab
