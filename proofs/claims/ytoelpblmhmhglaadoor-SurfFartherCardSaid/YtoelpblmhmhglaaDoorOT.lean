/- package surf: what comes of an hour. -/
import Derived.Test.YtoelpblmhmhglaaDoorOS
set_option maxRecDepth 100000
namespace Go.Ab
open Go Go.RowKit Go.Proofs
theorem f104 (rw st w v fl br row : Int) (n cw cv m cu : Nat) (R : ARes → Prop) : (vx.call 104 [shV rw st n cw cv m cu, .agg ⟨[I w, I v]⟩, .agg ⟨[I fl, I br, I row]⟩] (retK R) m6 ([(24, .split ([(7, .split ([]) ([]))]) ([]))])) =
(((decide ((if (0 : Int) > IntKind.i64.wrap (w - IntKind.i64.wrap (st * row)) then (0 : Int) else IntKind.i64.wrap (w - IntKind.i64.wrap (st * row))) > (0 : Int))) = true → (((decide (IntKind.i64.wrap ((if (0 : Int) > IntKind.i64.wrap (w - IntKind.i64.wrap (st * row)) then (0 : Int) else IntKind.i64.wrap (w - IntKind.i64.wrap (st * row))) + v) > fl)) = true → R (.ret (.bool true))) ∧
((decide (IntKind.i64.wrap ((if (0 : Int) > IntKind.i64.wrap (w - IntKind.i64.wrap (st * row)) then (0 : Int) else IntKind.i64.wrap (w - IntKind.i64.wrap (st * row))) + v) > fl)) = false → R (.ret (.bool false))))) ∧
((decide ((if (0 : Int) > IntKind.i64.wrap (w - IntKind.i64.wrap (st * row)) then (0 : Int) else IntKind.i64.wrap (w - IntKind.i64.wrap (st * row))) > (0 : Int))) = false → R (.ret (.bool false)))) := by kernel_rfl
theorem f99 (r1 r2 : Int) (a1 a2 b1 b2 : Bool) (R : ARes → Prop) : (vx.call 99 [.agg ⟨[I r1, .bool a1, .bool b1]⟩, .agg ⟨[I r2, .bool a2, .bool b2]⟩] (retK R) m2d ([(9, .split ([(1, .split ((33, .again) :: []) ((33, .again) :: [(4, .split ([]) ([]))]))]) ([(1, .split ((33, .again) :: [(2, .split ([]) ([]))]) ((33, .again) :: [(2, .split ([(3, .split ([]) ([]))]) ([(3, .split ([]) ([]))]))]))]))])) =
((a1 = true → ((b1 = true → (((OT b1 true) ∧ ((OT a1 true) ∧ True)) ∧
R (.ret (.agg ⟨[I (bits BinOp.or IntKind.i64 (bits BinOp.or IntKind.i64 (0 : Int) r1) r2), .bool true, .bool true]⟩)))) ∧
(b1 = false → (((OT b1 false) ∧ ((OT a1 true) ∧ True)) ∧
((b2 = true → R (.ret (.agg ⟨[I (bits BinOp.or IntKind.i64 (bits BinOp.or IntKind.i64 (0 : Int) r1) r2), .bool true, .bool true]⟩))) ∧
(b2 = false → R (.ret (.agg ⟨[I (bits BinOp.or IntKind.i64 (bits BinOp.or IntKind.i64 (0 : Int) r1) r2), .bool true, .bool false]⟩)))))))) ∧
(a1 = false → ((b1 = true → (((OT b1 true) ∧ ((OT a1 false) ∧ True)) ∧
((a2 = true → R (.ret (.agg ⟨[I (bits BinOp.or IntKind.i64 (bits BinOp.or IntKind.i64 (0 : Int) r1) r2), .bool true, .bool true]⟩))) ∧
(a2 = false → R (.ret (.agg ⟨[I (bits BinOp.or IntKind.i64 (bits BinOp.or IntKind.i64 (0 : Int) r1) r2), .bool false, .bool true]⟩)))))) ∧
(b1 = false → (((OT b1 false) ∧ ((OT a1 false) ∧ True)) ∧
((a2 = true → ((b2 = true → R (.ret (.agg ⟨[I (bits BinOp.or IntKind.i64 (bits BinOp.or IntKind.i64 (0 : Int) r1) r2), .bool true, .bool true]⟩))) ∧
(b2 = false → R (.ret (.agg ⟨[I (bits BinOp.or IntKind.i64 (bits BinOp.or IntKind.i64 (0 : Int) r1) r2), .bool true, .bool false]⟩))))) ∧
(a2 = false → ((b2 = true → R (.ret (.agg ⟨[I (bits BinOp.or IntKind.i64 (bits BinOp.or IntKind.i64 (0 : Int) r1) r2), .bool false, .bool true]⟩))) ∧
(b2 = false → R (.ret (.agg ⟨[I (bits BinOp.or IntKind.i64 (bits BinOp.or IntKind.i64 (0 : Int) r1) r2), .bool false, .bool false]⟩))))))))))) := by kernel_rfl
theorem f105 (row : Nat) (R : ARes → Prop) : (vx.call 105 [I row] (retK R) m2d ([(3, .split ([]) ([]))])) =
((((row : Int) == 0) = true → R (.ret (I 6))) ∧
(((row : Int) == 0) = false → R (.ret (I (IntKind.i64.wrap ((row : Int) - (1 : Int))))))) := by kernel_rfl
theorem b107i (rw st fl br : Int) (row hour n cw cv m cu : Nat) (s : Nat) (wt vt r : Int) (a b lf : Bool) (w v : Nat → Sp) (es : List (Value × Value)) (R : Nat → AExit → Hw → Prop) : (vx.code none (.l p107i) (leafW [T107i] R) (T107i.inst (h107 (⟨rw, st, n, cw, cv, m, cu, fl, br, row, hour⟩ : Cx) [I wt, I vt] (spL n w) (spL n v) es r a b)) ((5, .val (.pointer (some ⟨3, 0 + hour * 2, none⟩))) :: (1, .val (I (v hour).hi)) :: [(0, .split ((10, .val (.bool false)) :: (6, .con (C104 rw st n cw cv m cu wt vt fl br (row : Int) lf)) :: [(0, .split ((9, .val (I (IntKind.i64.wrap ((1 : Int) * (2 : Int) ^ row)))) :: (1, .again) :: (1, .con (C99 r (IntKind.i64.wrap ((1 : Int) * (2 : Int) ^ row)) a b false true)) :: [(6, .tm 0 [])]) ([(7, .split ((9, .val (I (IntKind.i64.wrap ((1 : Int) * (2 : Int) ^ row)))) :: (1, .again) :: (1, .con (C99 r (IntKind.i64.wrap ((1 : Int) * (2 : Int) ^ row)) a b true false)) :: [(6, .tm 0 [])]) ((6, .con (C105 row s)) :: (0, .again) :: (3, .val (I (IntKind.i64.wrap ((1 : Int) * (2 : Int) ^ s)))) :: (1, .again) :: (1, .con (C99 r (IntKind.i64.wrap ((1 : Int) * (2 : Int) ^ s)) a b true false)) :: [(6, .tm 0 [])]))]))]) ([(1, .tm 0 [])]))])) =
(((((0 : Int) ≤ hour) ∧ ((hour : Int) < n)) ∧ (VR (.pointer (some ⟨3, 0 + hour * 2, none⟩)))) ∧
(((spL n v)[(0 : Nat) + hour * (2 : Nat) + (1 : Nat)]? = some (I (v hour).hi)) ∧
(((decide (vt ≤ (v hour).hi)) = true → ((OT ((row : Int) == 6) false) ∧
(CA 104 (C104 rw st n cw cv m cu wt vt fl br (row : Int) lf) ⟨⟨[I rw, I st, I wt, I vt, I fl, I br, I row], [⟨n, cw⟩, ⟨n, cv⟩, ⟨m, cu⟩]⟩, []⟩ <|
(((!lf) = true → (((((0 : Int) ≤ row) ∧ ((row : Int) ≤ (↑(64 : Nat) : Int))) ∧ (((I (IntKind.i64.wrap ((1 : Int) * (2 : Int) ^ row))) : Value) = (I (IntKind.i64.wrap ((1 : Int) * (2 : Int) ^ row))))) ∧
(((((3 : Nat) ≤ (3 : Nat)) ∧ (((.agg ⟨[I r, .bool a, .bool b]⟩) : Value) = (.agg ⟨[I r, .bool a, .bool b]⟩))) ∧ True) ∧
(CA 99 (C99 r (IntKind.i64.wrap ((1 : Int) * (2 : Int) ^ row)) a b false true) ⟨⟨[I r, .bool a, .bool b, I (IntKind.i64.wrap ((1 : Int) * (2 : Int) ^ row)), .bool false, .bool true], []⟩, []⟩ <|
R (0 : Nat) .normal ⟨⟨[I wt, I (IntKind.i64.wrap (vt + (1 : Int))), I rw, I st, I fl, I br, I row, I hour, I (jnI r (IntKind.i64.wrap ((1 : Int) * (2 : Int) ^ row))), .bool (a || false), .bool (b || true), I rw, I st, I hour], [⟨n, cw⟩, ⟨n, cv⟩, ⟨m, cu⟩, ⟨n, cw⟩, ⟨n, cv⟩, ⟨m, cu⟩]⟩, [spL n w, spL n v], [es]⟩)))) ∧
((!lf) = false → (((decide (vt ≤ br)) = true → (((((0 : Int) ≤ row) ∧ ((row : Int) ≤ (↑(64 : Nat) : Int))) ∧ (((I (IntKind.i64.wrap ((1 : Int) * (2 : Int) ^ row))) : Value) = (I (IntKind.i64.wrap ((1 : Int) * (2 : Int) ^ row))))) ∧
(((((3 : Nat) ≤ (3 : Nat)) ∧ (((.agg ⟨[I r, .bool a, .bool b]⟩) : Value) = (.agg ⟨[I r, .bool a, .bool b]⟩))) ∧ True) ∧
(CA 99 (C99 r (IntKind.i64.wrap ((1 : Int) * (2 : Int) ^ row)) a b true false) ⟨⟨[I r, .bool a, .bool b, I (IntKind.i64.wrap ((1 : Int) * (2 : Int) ^ row)), .bool true, .bool false], []⟩, []⟩ <|
R (0 : Nat) .normal ⟨⟨[I wt, I (IntKind.i64.wrap (vt + (1 : Int))), I rw, I st, I fl, I br, I row, I hour, I (jnI r (IntKind.i64.wrap ((1 : Int) * (2 : Int) ^ row))), .bool (a || true), .bool (b || false), I rw, I st, I hour], [⟨n, cw⟩, ⟨n, cv⟩, ⟨m, cu⟩, ⟨n, cw⟩, ⟨n, cv⟩, ⟨m, cu⟩]⟩, [spL n w, spL n v], [es]⟩)))) ∧
((decide (vt ≤ br)) = false → (CA 105 (C105 row s) ⟨⟨[I row], []⟩, []⟩ <|
(((((3 : Nat) ≤ (3 : Nat)) ∧ (((.agg ⟨[I r, .bool a, .bool b]⟩) : Value) = (.agg ⟨[I r, .bool a, .bool b]⟩))) ∧ True) ∧
(((((0 : Int) ≤ s) ∧ ((s : Int) ≤ (↑(64 : Nat) : Int))) ∧ (((I (IntKind.i64.wrap ((1 : Int) * (2 : Int) ^ s))) : Value) = (I (IntKind.i64.wrap ((1 : Int) * (2 : Int) ^ s))))) ∧
(((((3 : Nat) ≤ (3 : Nat)) ∧ (((.agg ⟨[I r, .bool a, .bool b]⟩) : Value) = (.agg ⟨[I r, .bool a, .bool b]⟩))) ∧ True) ∧
(CA 99 (C99 r (IntKind.i64.wrap ((1 : Int) * (2 : Int) ^ s)) a b true false) ⟨⟨[I r, .bool a, .bool b, I (IntKind.i64.wrap ((1 : Int) * (2 : Int) ^ s)), .bool true, .bool false], []⟩, []⟩ <|
R (0 : Nat) .normal ⟨⟨[I wt, I (IntKind.i64.wrap (vt + (1 : Int))), I rw, I st, I fl, I br, I row, I hour, I (jnI r (IntKind.i64.wrap ((1 : Int) * (2 : Int) ^ s))), .bool (a || true), .bool (b || false), I rw, I st, I hour], [⟨n, cw⟩, ⟨n, cv⟩, ⟨m, cu⟩, ⟨n, cw⟩, ⟨n, cv⟩, ⟨m, cu⟩]⟩, [spL n w, spL n v], [es]⟩)))))))))))) ∧
((decide (vt ≤ (v hour).hi)) = false → R (0 : Nat) (.exit 2) ⟨⟨[I wt, I vt, I rw, I st, I fl, I br, I row, I hour, I r, .bool a, .bool b, I rw, I st, I hour], [⟨n, cw⟩, ⟨n, cv⟩, ⟨m, cu⟩, ⟨n, cw⟩, ⟨n, cv⟩, ⟨m, cu⟩]⟩, [spL n w, spL n v], [es]⟩)))) := by kernel_rfl
theorem b107o (rw st fl br : Int) (row hour n cw cv m cu : Nat) (wt r r2 : Int) (a b a2 b2 : Bool) (w v : Nat → Sp) (es : List (Value × Value)) (R : Nat → AExit → Hw → Prop) : (vx.code none (.l p107o) (leafW [T107o] R) (T107o.inst (h107 (⟨rw, st, n, cw, cv, m, cu, fl, br, row, hour⟩ : Cx) [I wt] (spL n w) (spL n v) es r a b)) ((5, .val (.pointer (some ⟨2, 0 + hour * 2, none⟩))) :: (1, .val (I (w hour).hi)) :: [(0, .split ((5, .val (.pointer (some ⟨3, 0 + hour * 2, none⟩))) :: (1, .val (I (v hour).lo)) :: (1, .loopW T107i (.exit 2) T107i fun _ => h107 { rw := rw, st := st, n := n, cw := cw, cv := cv, m := m, cu := cu, fl := fl, br := br, row := row, hour := hour } [I wt, I (IntKind.i64.wrap ((v hour).hi + (1 : Int)))] (spL n w) (spL n v) es r2 a2 b2) :: [(3, .tm 0 [])]) ([(1, .tm 0 [])]))])) =
(((((0 : Int) ≤ hour) ∧ ((hour : Int) < n)) ∧ (VR (.pointer (some ⟨2, 0 + hour * 2, none⟩)))) ∧
(((spL n w)[(0 : Nat) + hour * (2 : Nat) + (1 : Nat)]? = some (I (w hour).hi)) ∧
(((decide (wt ≤ (w hour).hi)) = true → (((((0 : Int) ≤ hour) ∧ ((hour : Int) < n)) ∧ (VR (.pointer (some ⟨3, 0 + hour * 2, none⟩)))) ∧
(((spL n v)[(0 : Nat) + hour * (2 : Nat) + (0 : Nat)]? = some (I (v hour).lo)) ∧
(LW p107i T107i ⟨⟨[I wt, I (v hour).lo, I rw, I st, I fl, I br, I row, I hour, I r, .bool a, .bool b, I rw, I st, I hour], [⟨n, cw⟩, ⟨n, cv⟩, ⟨m, cu⟩, ⟨n, cw⟩, ⟨n, cv⟩, ⟨m, cu⟩]⟩, [spL n w, spL n v], [es]⟩ (.exit 2) T107i (h107 { rw := rw, st := st, n := n, cw := cw, cv := cv, m := m, cu := cu, fl := fl, br := br, row := row, hour := hour } [I wt, I (IntKind.i64.wrap ((v hour).hi + (1 : Int)))] (spL n w) (spL n v) es r2 a2 b2) <|
R (0 : Nat) .normal ⟨⟨[I (IntKind.i64.wrap (wt + (1 : Int))), I rw, I st, I fl, I br, I row, I hour, I r2, .bool a2, .bool b2, I rw, I st, I hour], [⟨n, cw⟩, ⟨n, cv⟩, ⟨m, cu⟩, ⟨n, cw⟩, ⟨n, cv⟩, ⟨m, cu⟩]⟩, [spL n w, spL n v], [es]⟩)))) ∧
((decide (wt ≤ (w hour).hi)) = false → R (0 : Nat) (.exit 0) ⟨⟨[I wt, I rw, I st, I fl, I br, I row, I hour, I r, .bool a, .bool b, I rw, I st, I hour], [⟨n, cw⟩, ⟨n, cv⟩, ⟨m, cu⟩, ⟨n, cw⟩, ⟨n, cv⟩, ⟨m, cu⟩]⟩, [spL n w, spL n v], [es]⟩)))) := by kernel_rfl
theorem f100h (rw st fl br : Int) (row hour n cw cv m cu r : Nat) (a b : Bool) (ws vs : List Value) (es : List (Value × Value)) (R : ARes → List WB → Prop) : (vx.call 100 [shV rw st n cw cv m cu, .agg ⟨[I fl, I br, I row, I hour]⟩] (retW bs100 R) (m100 ws vs es) ((7, .val (.tuple ⟨[.agg ⟨[I r, .bool a, .bool b]⟩, .bool true]⟩)) :: [])) =
((LookC Tryd.prog 153 (.agg ⟨[I 0, .bool false, .bool false]⟩) es (.agg ⟨[I fl, I br, I row, I hour]⟩) true (.tuple ⟨[.agg ⟨[I r, .bool a, .bool b]⟩, .bool true]⟩)) ∧
R (.ret (.agg ⟨[I r, .bool a, .bool b]⟩)) [.mp es]) := by kernel_rfl
theorem f100l (rw st fl br : Int) (hour n cw cv m cu : Nat) (w v : Nat → Sp) (es es2 : List (Value × Value)) (R : ARes → List WB → Prop) : (vx.call 100 [shV rw st n cw cv m cu, .agg ⟨[I fl, I br, I 6, I hour]⟩] (retW bs100 R) (m100 (spL n w) (spL n v) es) ((7, .val (.tuple ⟨[.agg ⟨[I 0, .bool false, .bool false]⟩, .bool false]⟩)) :: (23, .val (.pointer (some ⟨2, 0 + hour * 2, none⟩))) :: (1, .val (I (w hour).lo)) :: (7, .val (.pointer (some ⟨2, 0 + hour * 2, none⟩))) :: (1, .val (I (w hour).hi)) :: (0, .val (.bool true)) :: (5, .val (.pointer (some ⟨3, 0 + hour * 2, none⟩))) :: (1, .val (I (v hour).lo)) :: (7, .val (.pointer (some ⟨3, 0 + hour * 2, none⟩))) :: (1, .val (I (v hour).hi)) :: (0, .val (.bool true)) :: (26, Hint.mset es2) :: [])) =
((LookC Tryd.prog 153 (.agg ⟨[I 0, .bool false, .bool false]⟩) es (.agg ⟨[I fl, I br, I 6, I hour]⟩) true (.tuple ⟨[.agg ⟨[I 0, .bool false, .bool false]⟩, .bool false]⟩)) ∧
(((((0 : Int) ≤ hour) ∧ ((hour : Int) < n)) ∧ (VR (.pointer (some ⟨2, 0 + hour * 2, none⟩)))) ∧
(((spL n w)[(0 : Nat) + hour * (2 : Nat) + (0 : Nat)]? = some (I (w hour).lo)) ∧
(((((0 : Int) ≤ hour) ∧ ((hour : Int) < n)) ∧ (VR (.pointer (some ⟨2, 0 + hour * 2, none⟩)))) ∧
(((spL n w)[(0 : Nat) + hour * (2 : Nat) + (1 : Nat)]? = some (I (w hour).hi)) ∧
((OT (decide ((w hour).lo ≤ (w hour).hi)) true) ∧
(((((0 : Int) ≤ hour) ∧ ((hour : Int) < n)) ∧ (VR (.pointer (some ⟨3, 0 + hour * 2, none⟩)))) ∧
(((spL n v)[(0 : Nat) + hour * (2 : Nat) + (0 : Nat)]? = some (I (v hour).lo)) ∧
(((((0 : Int) ≤ hour) ∧ ((hour : Int) < n)) ∧ (VR (.pointer (some ⟨3, 0 + hour * 2, none⟩)))) ∧
(((spL n v)[(0 : Nat) + hour * (2 : Nat) + (1 : Nat)]? = some (I (v hour).hi)) ∧
((OT (decide ((v hour).lo ≤ (v hour).hi)) true) ∧
((SetC Tryd.prog 153 es (.agg ⟨[I fl, I br, I 6, I hour]⟩) (.agg ⟨[I (IntKind.i64.wrap ((1 : Int) * (2 : Int) ^ (6 : Nat))), .bool false, .bool true]⟩) es2) ∧
R (.ret (.agg ⟨[I (IntKind.i64.wrap ((1 : Int) * (2 : Int) ^ (6 : Nat))), .bool false, .bool true]⟩)) [.mp es2])))))))))))) := by kernel_rfl
theorem f100m (rw st fl br : Int) (row hour n cw cv m cu : Nat) (r : Int) (a b : Bool) (w v : Nat → Sp) (es es2 : List (Value × Value)) (R : ARes → List WB → Prop) : (vx.call 100 [shV rw st n cw cv m cu, .agg ⟨[I fl, I br, I row, I hour]⟩] (retW bs100 R) (m100 (spL n w) (spL n v) es) ((7, .val (.tuple ⟨[.agg ⟨[I 0, .bool false, .bool false]⟩, .bool false]⟩)) :: (23, .val (.pointer (some ⟨2, 0 + hour * 2, none⟩))) :: (1, .val (I (w hour).lo)) :: (1, .loopW T107o (.exit 0) T107o fun _ => h107 { rw := rw, st := st, n := n, cw := cw, cv := cv, m := m, cu := cu, fl := fl, br := br, row := row, hour := hour } [I (IntKind.i64.wrap ((w hour).hi + (1 : Int)))] (spL n w) (spL n v) es r a b) :: (4, Hint.mset es2) :: [])) =
((LookC Tryd.prog 153 (.agg ⟨[I 0, .bool false, .bool false]⟩) es (.agg ⟨[I fl, I br, I row, I hour]⟩) true (.tuple ⟨[.agg ⟨[I 0, .bool false, .bool false]⟩, .bool false]⟩)) ∧
(((((0 : Int) ≤ hour) ∧ ((hour : Int) < n)) ∧ (VR (.pointer (some ⟨2, 0 + hour * 2, none⟩)))) ∧
(((spL n w)[(0 : Nat) + hour * (2 : Nat) + (0 : Nat)]? = some (I (w hour).lo)) ∧
(LW p107o T107o ⟨⟨[I (w hour).lo, I rw, I st, I fl, I br, I row, I hour, I 0, .bool false, .bool false, I rw, I st, I hour], [⟨n, cw⟩, ⟨n, cv⟩, ⟨m, cu⟩, ⟨n, cw⟩, ⟨n, cv⟩, ⟨m, cu⟩]⟩, [spL n w, spL n v], [es]⟩ (.exit 0) T107o (h107 { rw := rw, st := st, n := n, cw := cw, cv := cv, m := m, cu := cu, fl := fl, br := br, row := row, hour := hour } [I (IntKind.i64.wrap ((w hour).hi + (1 : Int)))] (spL n w) (spL n v) es r a b) <|
((SetC Tryd.prog 153 es (.agg ⟨[I fl, I br, I row, I hour]⟩) (.agg ⟨[I r, .bool a, .bool b]⟩) es2) ∧
R (.ret (.agg ⟨[I r, .bool a, .bool b]⟩)) [.mp es2]))))) := by kernel_rfl
theorem spL_at (n : Nat) (w : Nat → Sp) : ∀ v ∈ spL n w, atomic v = true := flatC_atomic fun i _ v hv => by
 have hv : v ∈ [I (w i).lo, I (w i).hi] := hv
 simp only [List.mem_cons, List.not_mem_nil, or_false] at hv
 rcases hv with rfl | rfl <;> rfl
theorem spL_len (n : Nat) (w : Nat → Sp) : (spL n w).length = n * 2 := flatC_len fun i _ => rfl
theorem spL_get {n i : Nat} (w : Nat → Sp) (h : i < n) : (spL n w)[0 + i * 2 + 0]? = some (I (w i).lo) ∧ (spL n w)[0 + i * 2 + 1]? = some (I (w i).hi) := by
 have h1 := flatC_get (n := n) (k := 2) (g := fun i => spV (w i)) (fun i _ => rfl) h (j := 0) (by omega)
 have h2 := flatC_get (n := n) (k := 2) (g := fun i => spV (w i)) (fun i _ => rfl) h (j := 1) (by omega)
 rw [Nat.zero_add]
 exact ⟨h1, h2⟩
theorem aEq153' (a1 a2 a3 a4 b1 b2 b3 b4 : Int) : aEq Tryd.prog 153 (.agg ⟨[I a1, I a2, I a3, I a4]⟩) (.agg ⟨[I b1, I b2, I b3, I b4]⟩) = some (a1 == b1 && (a2 == b2 && (a3 == b3 && (a4 == b4 && true)))) := by kernel_rfl
theorem aEqK (a b : Key) : aEq Tryd.prog 153 (keV a) (keV b) = some (decide (a = b)) := by
 refine (aEq153' _ _ _ _ _ _ _ _).trans ?_
 obtain ⟨a1, a2, a3, a4⟩ := a
 obtain ⟨b1, b2, b3, b4⟩ := b
 congr 1
 rw [Bool.eq_iff_iff]
 simp only [Bool.and_eq_true, beq_iff_eq, Bool.and_true, decide_eq_true_eq, Key.mk.injEq]
 constructor
 · rintro ⟨h1, h2, h3, h4⟩
   exact ⟨h1, h2, by omega, by omega⟩
 · rintro ⟨h1, h2, h3, h4⟩
   exact ⟨h1, h2, by omega, by omega⟩
def fndK : List (Key × Out) → Key → Nat → Option (Nat × Out)
 | [], _, _ => none
 | e :: l, h, i => if h = e.1 then some (i, e.2) else fndK l h (i + 1)
theorem findA_K (M : List (Key × Out)) (h : Key) (i : Nat) : findA Tryd.prog 153 (keV h) (encK M) i = some ((fndK M h i).map fun x => (x.1, ouV x.2)) := by
 induction M generalizing i with
 | nil => rfl
 | cons e l ih =>
  simp only [encK, List.map_cons, findA, fndK, aEqK, Option.bind_some]
  by_cases he : h = e.1
  · simp [he]
  · simp only [he, decide_false, cond_false, if_false]
    exact ih (i + 1)
theorem fndK_get (M : List (Key × Out)) (h : Key) (i : Nat) : (fndK M h i).map (·.2) = getK M h := by
 induction M generalizing i with
 | nil => rfl
 | cons e l ih =>
  simp only [fndK, getK]
  split
  · rfl
  · exact ih (i + 1)
theorem lookC_K {M : List (Key × Out)} {h : Key} {z v : Value} {ok : Bool} (hv : v = lookR z ok ((getK M h).map fun a => (0, ouV a))) : LookC Tryd.prog 153 z (encK M) (keV h) ok v := by
 refine ⟨?_⟩
 rw [findA_K, Option.bind_some, hv]
 have := fndK_get M h 0
 cases hf : fndK M h 0 with
 | none => rw [hf] at this; rw [← this]; rfl
 | some x => rw [hf] at this; rw [← this]; rfl
theorem setC_K {M : List (Key × Out)} {h : Key} (hn : getK M h = none) (a : Out) : SetC Tryd.prog 153 (encK M) (keV h) (ouV a) (encK (M ++ [(h, a)])) := by
 refine ⟨?_⟩
 rw [findA_K, Option.bind_some]
 have := fndK_get M h 0
 cases hf : fndK M h 0 with
 | none => simp only [Option.map_none, encK, List.map_append, List.map_cons, List.map_nil]
 | some x => rw [hf, hn] at this; cases this
theorem encK_cl (M : List (Key × Out)) : ∀ e ∈ encK M, cl 50 e.1 = true ∧ cl 50 e.2 = true := by
 intro e hm
 simp only [encK, List.mem_map] at hm
 obtain ⟨x, _, rfl⟩ := hm
 exact ⟨rfl, rfl⟩
theorem jns : ((List.range 128).all fun a => (List.range 7).all fun j => decide (jnI (a : Int) (IntKind.i64.wrap ((1 : Int) * (2 : Int) ^ j)) = ((a ||| 2 ^ j : Nat) : Int))) = true := by kernel_rfl
theorem jn_or {a j : Nat} (ha : a < 128) (hj : j ≤ 6) : jnI (a : Int) (IntKind.i64.wrap ((1 : Int) * (2 : Int) ^ j)) = ((a ||| 2 ^ j : Nat) : Int) :=
 of_decide_eq_true (List.all_eq_true.1 (List.all_eq_true.1 jns a (List.mem_range.2 ha)) j (List.mem_range.2 (by omega)))
theorem C104_ok (rw st : Int) (n cw cv m cu : Nat) (w v fl br row : Int) : ConOK Tryd.prog 104 (C104 rw st n cw cv m cu w v fl br row (liI st w v fl row)) := by
 refine con_of vx_sound _ (fun y hy => ?_) rfl (fun y _ => rfl) (fun y hy => ?_) rfl (Nat.le_of_ble_eq_true rfl) (by rw [nglob]; exact Nat.le_of_ble_eq_true rfl)
 · cases hy
   have key : ∀ R : ARes → Prop, R (.ret (.bool (liI st w v fl row))) → ∃ hs, vx.call 104 [shV rw st n cw cv m cu, .agg ⟨[I w, I v]⟩, .agg ⟨[I fl, I br, I row]⟩] (retK R) m6 hs := fun R hR => by
    have e : liI st w v fl row = (decide (dpI st w row > (0 : Int)) && decide (IntKind.i64.wrap (dpI st w row + v) > fl)) := rfl
    refine ⟨_, (f104 rw st w v fl br row n cw cv m cu R).mpr ⟨fun h1 => ⟨fun h2 => ?_, fun h2 => ?_⟩, fun h1 => ?_⟩⟩
    · have : liI st w v fl row = true := by rw [e]; unfold dpI; rw [h1, h2]; rfl
      rwa [this] at hR
    · have : liI st w v fl row = false := by rw [e]; unfold dpI; rw [h2, Bool.and_false]
      rwa [this] at hR
    · have : liI st w v fl row = false := by rw [e]; unfold dpI; rw [h1]; rfl
      rwa [this] at hR
   obtain ⟨hs, h⟩ := key (fun r => r = .ret (.bool (liI st w v fl row))) rfl
   exact ⟨hs, h⟩
 · cases hy
   intro cs hcs
   cases hcs
theorem C99_ok (r1 r2 : Int) (a1 b1 a2 b2 : Bool) : ConOK Tryd.prog 99 (C99 r1 r2 a1 b1 a2 b2) := by
 refine con_of vx_sound _ (fun y hy => ?_) rfl (fun y _ => rfl) (fun y hy => ?_) rfl (Nat.le_of_ble_eq_true rfl) (by rw [nglob]; exact Nat.le_of_ble_eq_true rfl)
 · cases hy
   have key : ∀ R : ARes → Prop, R (.ret (.agg ⟨[I (jnI r1 r2), .bool (a1 || a2), .bool (b1 || b2)]⟩)) → ∃ hs, vx.call 99 [.agg ⟨[I r1, .bool a1, .bool b1]⟩, .agg ⟨[I r2, .bool a2, .bool b2]⟩] (retK R) m2d hs := fun R hR => by
    refine ⟨_, (f99 r1 r2 a1 a2 b1 b2 R).mpr ?_⟩
    cases a1 <;> cases b1 <;> cases a2 <;> cases b2 <;> simp_all [jnI] <;> exact hR
   obtain ⟨hs, h⟩ := key (fun r => r = .ret (.agg ⟨[I (jnI r1 r2), .bool (a1 || a2), .bool (b1 || b2)]⟩)) rfl
   exact ⟨hs, h⟩
 · cases hy
   intro cs hcs
   cases hcs
theorem C105_ok {row : Nat} (hr : row ≤ 6) : ConOK Tryd.prog 105 (C105 row (swN row)) := by
 refine con_of vx_sound _ (fun y hy => ?_) rfl (fun y _ => rfl) (fun y hy => ?_) rfl (Nat.le_of_ble_eq_true rfl) (by rw [nglob]; exact Nat.le_of_ble_eq_true rfl)
 · cases hy
   have key : ∀ R : ARes → Prop, R (.ret (I (swN row))) → ∃ hs, vx.call 105 [I row] (retK R) m2d hs := fun R hR => by
    refine ⟨_, (f105 row R).mpr ⟨fun h => ?_, fun h => ?_⟩⟩
    · have h0 : row = 0 := by have := eq_of_beq h; omega
      subst h0
      exact hR
    · have h0 : row ≠ 0 := fun e => by rw [e] at h; cases h
      have e : IntKind.i64.wrap ((row : Int) - 1) = ((swN row : Nat) : Int) := by
       rw [wrapI (by omega) (by omega)]
       unfold swN
       rw [if_neg h0]
       omega
      rw [e]
      exact hR
   obtain ⟨hs, h⟩ := key (fun r => r = .ret (I (swN row))) rfl
   exact ⟨hs, h⟩
 · cases hy
   intro cs hcs
   cases hcs
def Cx.k (x : Cx) : Key := ⟨x.fl, x.br, x.row, x.hour⟩
section
variable {x : Cx} {w v : Nat → Sp} {es : List (Value × Value)}
theorem cl107 (hes : ∀ e ∈ es, cl 50 e.1 = true ∧ cl 50 e.2 = true) (q : List Value) (r : Int) (a b : Bool) : ClW (h107 x q (spL x.n w) (spL x.n v) es r a b) := by
 refine ⟨fun cs hc => ?_, fun e hc => ?_⟩
 · simp only [h107, List.mem_cons, List.not_mem_nil, or_false] at hc
   rcases hc with rfl | rfl
   · exact spL_at _ _
   · exact spL_at _ _
 · simp only [h107, List.mem_singleton] at hc
   subst hc
   exact hes
theorem loop107i (hS : SOK x.rw x.st x.n w v) (hh : x.hour < x.n) (hr : x.row < 6) (hes : ∀ e ∈ es, cl 50 e.1 = true ∧ cl 50 e.2 = true) (wt : Int) {o : Out} (ho : o.rows < 128) :
    LoopOW Tryd.prog none p107i T107i (h107 x [I wt, I (v x.hour).lo] (spL x.n w) (spL x.n v) es o.rows o.fl o.re) (.exit 2) T107i
     (h107 x [I wt, I (IntKind.i64.wrap ((v x.hour).hi + 1))] (spL x.n w) (spL x.n v) es (inO x.st x.k wt (v x.hour).lo o (rdN (v x.hour))).rows (inO x.st x.k wt (v x.hour).lo o (rdN (v x.hour))).fl (inO x.st x.k wt (v x.hour).lo o (rdN (v x.hour))).re) := by
 obtain ⟨v0, v1, v2, v3⟩ := hS.v _ hh
 have hget := (spL_get v hh).2
 have hrd : ((rdN (v x.hour) : Nat) : Int) = (v x.hour).hi - (v x.hour).lo + 1 := by unfold rdN; omega
 have e2 : IntKind.i64.wrap ((v x.hour).hi + 1) = (v x.hour).lo + (rdN (v x.hour) : Nat) := by rw [wrapI (by omega) (by omega)]; omega
 rw [e2]
 have main := loop_forW (P := Tryd.prog) (ro := none) (p := p107i) (Ts := [T107i]) (k := 15) (n := rdN (v x.hour)) (e := .exit 2)
  (st := fun i => (0, h107 x [I wt, I ((v x.hour).lo + (i : Nat))] (spL x.n w) (spL x.n v) es (inO x.st x.k wt (v x.hour).lo o i).rows (inO x.st x.k wt (v x.hour).lo o i).fl (inO x.st x.k wt (v x.hour).lo o i).re)) rfl vx_sound
  (by intro T hT; simp only [List.mem_singleton] at hT; subst hT; rfl) (by rw [nglob]; omega) ⟨by simp, trivial⟩ (fun i _ => cl107 hes _ _ _ _)
  (fun i hi R hR => by
   have hlt := inO_lt (st := x.st) (k := x.k) (w := wt) (va := (v x.hour).lo) (o := o) (by show x.row ≤ 6; omega) ho i
   have hs : inO x.st x.k wt (v x.hour).lo o (i + 1) = orO (inO x.st x.k wt (v x.hour).lo o i) (seaO x.st x.k wt ((v x.hour).lo + (i : Nat))) := rfl
   rw [hs] at hR
   have hw : IntKind.i64.wrap ((v x.hour).lo + (i : Nat) + 1) = (v x.hour).lo + ((i + 1 : Nat) : Int) := by rw [wrapI (by omega) (by omega)]; omega
   generalize inO x.st x.k wt (v x.hour).lo o i = oi at hlt hR ⊢
   have hin : decide ((v x.hour).lo + ((i : Nat) : Int) ≤ (v x.hour).hi) = true := decide_eq_true (by omega)
   have hno : (some (.bool (((x.row : Nat) : Int) == 6)) : Option Value) = some (.bool false) := by
    have : (((x.row : Nat) : Int) == 6) = false := beq_eq_false_iff_ne.2 (by omega)
    rw [this]
   have h104 := C104_ok x.rw x.st x.n x.cw x.cv x.m x.cu wt ((v x.hour).lo + (i : Nat)) x.fl x.br x.row
   have hj1 := jn_or (j := x.row) hlt (by omega)
   have hj2 := jn_or (j := swN x.row) hlt (swN_le (by omega))
   have hse : seaO x.st x.k wt ((v x.hour).lo + (i : Nat)) = if liI x.st wt ((v x.hour).lo + (i : Nat)) x.fl x.row = false then ⟨2 ^ x.row, false, true⟩ else if (v x.hour).lo + (i : Nat) ≤ x.br then ⟨2 ^ x.row, true, false⟩ else ⟨2 ^ swN x.row, true, false⟩ := rfl
   rw [hse] at hR
   refine ⟨T107i, _, rfl, (b107i x.rw x.st x.fl x.br x.row x.hour x.n x.cw x.cv x.m x.cu (swN x.row) wt ((v x.hour).lo + (i : Nat)) oi.rows oi.fl oi.re (liI x.st wt ((v x.hour).lo + (i : Nat)) x.fl x.row) w v es R).mpr ⟨⟨⟨by omega, by omega⟩, rfl⟩, hget, fun _ => ⟨hno, h104, rfl, fun hl => ?_, fun hl => ⟨fun hb => ?_, fun hb => ?_⟩⟩, fun h => by rw [hin] at h; cases h⟩⟩
   · have hl : liI x.st wt ((v x.hour).lo + (i : Nat)) x.fl x.row = false := by simpa using hl
     rw [if_pos hl] at hR
     refine ⟨⟨⟨by omega, by omega⟩, rfl⟩, ⟨⟨Nat.le_refl _, rfl⟩, trivial⟩, C99_ok _ _ _ _ _ _, rfl, ?_⟩
     rw [hw, hj1]
     exact hR
   · have hl : ¬ liI x.st wt ((v x.hour).lo + (i : Nat)) x.fl x.row = false := by simpa using hl
     rw [if_neg hl, if_pos (of_decide_eq_true hb)] at hR
     refine ⟨⟨⟨by omega, by omega⟩, rfl⟩, ⟨⟨Nat.le_refl _, rfl⟩, trivial⟩, C99_ok _ _ _ _ _ _, rfl, ?_⟩
     rw [hw, hj1]
     exact hR
   · have hl : ¬ liI x.st wt ((v x.hour).lo + (i : Nat)) x.fl x.row = false := by simpa using hl
     rw [if_neg hl, if_neg (of_decide_eq_false hb)] at hR
     have := swN_le (row := x.row) (by omega)
     refine ⟨C105_ok (by omega), rfl, ⟨⟨Nat.le_refl _, rfl⟩, trivial⟩, ⟨⟨by omega, by omega⟩, rfl⟩, ⟨⟨Nat.le_refl _, rfl⟩, trivial⟩, C99_ok _ _ _ _ _ _, rfl, ?_⟩
     rw [hw, hj2]
     exact hR)
  (fun R hR => by
   refine ⟨T107i, _, rfl, (b107i x.rw x.st x.fl x.br x.row x.hour x.n x.cw x.cv x.m x.cu 0 wt ((v x.hour).lo + (rdN (v x.hour) : Nat)) _ _ _ false w v es R).mpr ⟨⟨⟨by omega, by omega⟩, rfl⟩, hget, fun h => absurd (of_decide_eq_true h) (by omega), fun _ => hR⟩⟩)
  (T0 := T107i) (T1 := T107i) rfl (Nat.le_of_ble_eq_true rfl) (by decide) rfl
 have e0 : (v x.hour).lo + ((0 : Nat) : Int) = (v x.hour).lo := by omega
 simp only [e0] at main
 exact main
theorem loop107o (hS : SOK x.rw x.st x.n w v) (hh : x.hour < x.n) (hr : x.row < 6) (hes : ∀ e ∈ es, cl 50 e.1 = true ∧ cl 50 e.2 = true) :
    LoopOW Tryd.prog none p107o T107o (h107 x [I (w x.hour).lo] (spL x.n w) (spL x.n v) es 0 false false) (.exit 0) T107o
     (h107 x [I (IntKind.i64.wrap ((w x.hour).hi + 1))] (spL x.n w) (spL x.n v) es (livO x.st w v x.k).rows (livO x.st w v x.k).fl (livO x.st w v x.k).re) := by
 obtain ⟨w0, w1, w2, w3⟩ := hS.w _ hh
 have hget := (spL_get w hh).2
 have hgetv := (spL_get v hh).1
 have hrd : ((rdN (w x.hour) : Nat) : Int) = (w x.hour).hi - (w x.hour).lo + 1 := by unfold rdN; omega
 have e2 : IntKind.i64.wrap ((w x.hour).hi + 1) = (w x.hour).lo + (rdN (w x.hour) : Nat) := by rw [wrapI (by omega) (by omega)]; omega
 rw [e2]
 have main := loop_forW (P := Tryd.prog) (ro := none) (p := p107o) (Ts := [T107o]) (k := 15) (n := rdN (w x.hour)) (e := .exit 0)
  (st := fun i => (0, h107 x [I ((w x.hour).lo + (i : Nat))] (spL x.n w) (spL x.n v) es (thO x.st x.k (w x.hour).lo (v x.hour).lo (rdN (v x.hour)) i).rows (thO x.st x.k (w x.hour).lo (v x.hour).lo (rdN (v x.hour)) i).fl (thO x.st x.k (w x.hour).lo (v x.hour).lo (rdN (v x.hour)) i).re)) rfl vx_sound
  (by intro T hT; simp only [List.mem_singleton] at hT; subst hT; rfl) (by rw [nglob]; omega) ⟨by simp, trivial⟩ (fun i _ => cl107 hes _ _ _ _)
  (fun i hi R hR => by
   have hlt := thO_lt (st := x.st) (k := x.k) (wa := (w x.hour).lo) (va := (v x.hour).lo) (c := rdN (v x.hour)) (by show x.row ≤ 6; omega) i
   have hs : thO x.st x.k (w x.hour).lo (v x.hour).lo (rdN (v x.hour)) (i + 1) = inO x.st x.k ((w x.hour).lo + (i : Nat)) (v x.hour).lo (thO x.st x.k (w x.hour).lo (v x.hour).lo (rdN (v x.hour)) i) (rdN (v x.hour)) := rfl
   rw [hs] at hR
   have hw : IntKind.i64.wrap ((w x.hour).lo + (i : Nat) + 1) = (w x.hour).lo + ((i + 1 : Nat) : Int) := by rw [wrapI (by omega) (by omega)]; omega
   generalize thO x.st x.k (w x.hour).lo (v x.hour).lo (rdN (v x.hour)) i = oi at hlt hR ⊢
   have hin : decide ((w x.hour).lo + ((i : Nat) : Int) ≤ (w x.hour).hi) = true := decide_eq_true (by omega)
   have hl := loop107i hS hh hr hes ((w x.hour).lo + (i : Nat)) hlt
   refine ⟨T107o, _, rfl, (b107o x.rw x.st x.fl x.br x.row x.hour x.n x.cw x.cv x.m x.cu ((w x.hour).lo + (i : Nat)) oi.rows _ oi.fl oi.re _ _ w v es R).mpr ⟨⟨⟨by omega, by omega⟩, rfl⟩, hget, fun _ => ⟨⟨⟨by omega, by omega⟩, rfl⟩, hgetv, cl107 hes [_, _] _ _ _, hl, ?_⟩, fun h => by rw [hin] at h; cases h⟩⟩
   rw [hw]
   exact hR)
  (fun R hR => by
   refine ⟨T107o, _, rfl, (b107o x.rw x.st x.fl x.br x.row x.hour x.n x.cw x.cv x.m x.cu ((w x.hour).lo + (rdN (w x.hour) : Nat)) _ 0 _ _ false false w v es R).mpr ⟨⟨⟨by omega, by omega⟩, rfl⟩, hget, fun h => absurd (of_decide_eq_true h) (by omega), fun _ => hR⟩⟩)
  (T0 := T107o) (T1 := T107o) rfl (Nat.le_of_ble_eq_true rfl) (by decide) rfl
 have e0 : (w x.hour).lo + ((0 : Nat) : Int) = (w x.hour).lo := by omega
 simp only [e0] at main
 exact main
noncomputable def C100 (x : Cx) (w v : Nat → Sp) (M : List (Key × Out)) : ConW where
 A := ShT (.agg (.hole (.hole (.hole (.hole .nil)))) .nil)
 bs := bs100
 pre y := y = ⟨⟨[I x.rw, I x.st, I x.fl, I x.br, I x.row, I x.hour], [(x.n, x.cw), (x.n, x.cv), (x.m, x.cu)]⟩, [spL x.n w, spL x.n v], [encK M]⟩
 out _ := [.mp (encK (addK x.st w v M x.k))]
 res _ := .ret (ouV (outO x.st w v x.k))
theorem C100_ok {M : List (Key × Out)} (hS : SOK x.rw x.st x.n w v) (hh : x.hour < x.n) (hr : x.row ≤ 6) (hM : KpO x.st w v M) : ConWOK Tryd.prog 100 (C100 x w v M) := by
 have hes := encK_cl M
 have clM : ClW ⟨⟨[I x.rw, I x.st, I x.fl, I x.br, I x.row, I x.hour], [(x.n, x.cw), (x.n, x.cv), (x.m, x.cu)]⟩, [spL x.n w, spL x.n v], [encK M]⟩ := by
  refine ⟨fun cs hc => ?_, fun e hc => ?_⟩
  · simp only [List.mem_cons, List.not_mem_nil, or_false] at hc
    rcases hc with rfl | rfl
    · exact spL_at _ _
    · exact spL_at _ _
  · simp only [List.mem_singleton] at hc
    subst hc
    exact hes
 refine conW_of vx_sound (callable 100 _ _ rfl rfl) (fun y hy => ?_) (fun y _ => ⟨rfl, fun b hb => ?_⟩) (fun y hy => ?_) (Nat.le_of_ble_eq_true rfl) (by rw [nglob]; exact Nat.le_of_ble_eq_true rfl)
 · cases hy
   have key : ∀ R : ARes → List WB → Prop, R (.ret (ouV (outO x.st w v x.k))) [.mp (encK (addK x.st w v M x.k))] → ∃ hs, vx.call 100 [shV x.rw x.st x.n x.cw x.cv x.m x.cu, .agg ⟨[I x.fl, I x.br, I x.row, I x.hour]⟩] (retW bs100 R) (m100 (spL x.n w) (spL x.n v) (encK M)) hs := fun R hR => by
    cases hg : getK M x.k with
    | some o =>
     have e1 : addK x.st w v M x.k = M := by unfold addK; rw [hg]
     rw [e1, ← hM.get hg] at hR
     exact ⟨_, (f100h x.rw x.st x.fl x.br x.row x.hour x.n x.cw x.cv x.m x.cu o.rows o.fl o.re (spL x.n w) (spL x.n v) (encK M) R).mpr ⟨lookC_K (h := x.k) (by rw [hg]; rfl), hR⟩⟩
    | none =>
     have e1 : addK x.st w v M x.k = M ++ [(x.k, outO x.st w v x.k)] := by unfold addK; rw [hg]
     rw [e1] at hR
     have hset := setC_K hg (outO x.st w v x.k)
     have hlook : LookC Tryd.prog 153 (.agg ⟨[I 0, .bool false, .bool false]⟩) (encK M) (keV x.k) true (.tuple ⟨[.agg ⟨[I 0, .bool false, .bool false]⟩, .bool false]⟩) := lookC_K (by rw [hg]; rfl)
     obtain ⟨w0, w1, w2, w3⟩ := hS.w _ hh
     obtain ⟨v0, v1, v2, v3⟩ := hS.v _ hh
     have gw := spL_get w hh
     have gv := spL_get v hh
     by_cases h6 : x.row = 6
     · have e2 : outO x.st w v x.k = ⟨64, false, true⟩ := if_pos h6
       rw [e2] at hR hset
       have tw : (some (.bool (decide ((w x.hour).lo ≤ (w x.hour).hi))) : Option Value) = some (.bool true) := by rw [decide_eq_true w1]
       have tv : (some (.bool (decide ((v x.hour).lo ≤ (v x.hour).hi))) : Option Value) = some (.bool true) := by rw [decide_eq_true v1]
       have e3 : x.k = ⟨x.fl, x.br, 6, x.hour⟩ := by show (⟨x.fl, x.br, x.row, x.hour⟩ : Key) = _; rw [h6]
       rw [e3] at hlook hset hR
       rw [h6]
       exact ⟨_, (f100l x.rw x.st x.fl x.br x.hour x.n x.cw x.cv x.m x.cu w v (encK M) _ R).mpr ⟨hlook, ⟨⟨by omega, by omega⟩, rfl⟩, gw.1, ⟨⟨by omega, by omega⟩, rfl⟩, gw.2, tw, ⟨⟨by omega, by omega⟩, rfl⟩, gv.1, ⟨⟨by omega, by omega⟩, rfl⟩, gv.2, tv, hset, hR⟩⟩
     · have e2 : outO x.st w v x.k = livO x.st w v x.k := if_neg h6
       rw [e2] at hR hset
       have hl := loop107o hS hh (show x.row < 6 by omega) hes
       exact ⟨_, (f100m x.rw x.st x.fl x.br x.row x.hour x.n x.cw x.cv x.m x.cu (livO x.st w v x.k).rows (livO x.st w v x.k).fl (livO x.st w v x.k).re w v (encK M) _ R).mpr ⟨hlook, ⟨⟨by omega, by omega⟩, rfl⟩, gw.1, cl107 hes [_] _ _ _, hl, hset, hR⟩⟩
   obtain ⟨hs, h⟩ := key (fun r ws => r = .ret (ouV (outO x.st w v x.k)) ∧ ws = [.mp (encK (addK x.st w v M x.k))]) ⟨rfl, rfl⟩
   exact ⟨hs, h⟩
 · simp only [C100, List.mem_cons, List.not_mem_nil, or_false] at hb
   subst hb
   exact encK_cl _
 · cases hy
   exact clM
end
end Go.Ab
set_option maxRecDepth 100000
namespace Go.Ab
open Go Go.RowKit Go.Proofs
theorem b98 (rw st fl br row0 : Int) (hour n cw cv m cu : Nat) (tb ws vs : List Value) (es es2 : List (Value × Value)) (rest row : Nat) (r q : Int) (a b a2 b2 : Bool) (R : Nat → AExit → Hw → Prop) : (vx.code none (.l p98) (leafW [T98] R) (T98.inst (h98 rw st n cw cv m cu fl br row0 hour tb ws vs es rest r a b)) ([(1, .split ((3, .con (C42 tb rest row)) :: (9, .conW (CW100 rw st n cw cv m cu fl br row hour ws vs es es2 q a2 b2)) :: (0, .again) :: (0, .con (C99 r q a b a2 b2)) :: [(8, .tm 0 [])]) ([(1, .tm 0 [])]))])) =
((((rest : Int) != 0) = true → (CA 42 (C42 tb rest row) ⟨⟨[I rest], []⟩, [tb]⟩ <|
(CW 100 (CW100 rw st n cw cv m cu fl br row hour ws vs es es2 q a2 b2) ⟨⟨[I rw, I st, I fl, I br, I row, I hour], [⟨n, cw⟩, ⟨n, cv⟩, ⟨m, cu⟩]⟩, [ws, vs], [es]⟩ <|
(((((3 : Nat) ≤ (3 : Nat)) ∧ (((.agg ⟨[I r, .bool a, .bool b]⟩) : Value) = (.agg ⟨[I r, .bool a, .bool b]⟩))) ∧ True) ∧
(CA 99 (C99 r q a b a2 b2) ⟨⟨[I r, .bool a, .bool b, I q, .bool a2, .bool b2], []⟩, []⟩ <|
R (0 : Nat) .normal ⟨⟨[I (bits BinOp.and IntKind.i64 (rest : Int) (IntKind.i64.wrap ((rest : Int) - (1 : Int)))), I rw, I st, I fl, I br, I row, I hour, I (jnI r q), .bool (a || a2), .bool (b || b2)], [⟨n, cw⟩, ⟨n, cv⟩, ⟨m, cu⟩]⟩, [tb, ws, vs], [es2]⟩))))) ∧
(((rest : Int) != 0) = false → R (0 : Nat) (.exit 0) ⟨⟨[I rest, I rw, I st, I fl, I br, I row0, I hour, I r, .bool a, .bool b], [⟨n, cw⟩, ⟨n, cv⟩, ⟨m, cu⟩]⟩, [tb, ws, vs], [es]⟩)) := by kernel_rfl
theorem f92 (rw st fl br row0 : Int) (hour n cw cv m cu : Nat) (tb ws vs : List Value) (es es2 : List (Value × Value)) (rows : Nat) (row1 r : Int) (a b : Bool) (R : ARes → List WB → Prop) : (vx.call 92 [shV rw st n cw cv m cu, I rows, .agg ⟨[I fl, I br, I row0]⟩, I hour] (retW bs92 R) (mt92 tb ws vs es) ((11, .loopW T98 (.exit 0) T98 fun _ => h98 rw st n cw cv m cu fl br row1 hour tb ws vs es2 (0 : Int) r a b) :: [])) =
(LW p98 T98 ⟨⟨[I rows, I rw, I st, I fl, I br, I row0, I hour, I 0, .bool false, .bool false], [⟨n, cw⟩, ⟨n, cv⟩, ⟨m, cu⟩]⟩, [tb, ws, vs], [es]⟩ (.exit 0) T98 (h98 rw st n cw cv m cu fl br row1 hour tb ws vs es2 (0 : Int) r a b) <|
R (.ret (.agg ⟨[I r, .bool a, .bool b]⟩)) [.mp es2]) := by kernel_rfl
theorem b72 (rw st fl br : Int) (row : Nat) (n cw cv m cu : Nat) (tb ws vs : List Value) (es es2 : List (Value × Value)) (cs cs2 : List Value) (i ri : Nat) (q : Int) (a b : Bool) (R : Nat → AExit → Hw → Prop) : (vx.code none (.l p72) (leafW [T72] R) (T72.inst (h72 rw st n cw cv m cu fl br row tb ws vs cs es i)) ([(0, .split ((7, .val (.pointer (some ⟨9, 0 + i * 1, none⟩))) :: (0, .val (I ri)) :: (2, .conW (CW92 rw st n cw cv m cu ri fl br row i tb ws vs es es2 q a b)) :: (1, .val (.pointer (.some ⟨(9 : Nat), (0 : Nat) + (IntKind.i64.wrap ((i : Int) + (1 : Int))).toNat * (1 : Nat), .none⟩))) :: (0, .put cs2) :: [(2, .tm 0 [])]) ([(1, .tm 0 [])]))])) =
(((decide ((i : Int) < n)) = true → (((((0 : Int) ≤ i) ∧ ((i : Int) < (↑(9 : Nat) : Int))) ∧ (VR (.pointer (some ⟨9, 0 + i * 1, none⟩)))) ∧
((cs[0 + i * 1]? = some (I ri)) ∧
(CW 92 (CW92 rw st n cw cv m cu ri fl br row i tb ws vs es es2 q a b) ⟨⟨[I rw, I st, I ri, I fl, I br, I row, I i], [⟨n, cw⟩, ⟨n, cv⟩, ⟨m, cu⟩]⟩, [tb, ws, vs], [es]⟩ <|
(((((0 : Int) ≤ IntKind.i64.wrap ((i : Int) + (1 : Int))) ∧ (IntKind.i64.wrap ((i : Int) + (1 : Int)) < (↑(9 : Nat) : Int))) ∧ (((.pointer (.some ⟨(9 : Nat), (0 : Nat) + (IntKind.i64.wrap ((i : Int) + (1 : Int))).toNat * (1 : Nat), .none⟩)) : Value) = (.pointer (.some ⟨(9 : Nat), (0 : Nat) + (IntKind.i64.wrap ((i : Int) + (1 : Int))).toNat * (1 : Nat), .none⟩)))) ∧
((((0 : Nat) + (IntKind.i64.wrap ((i : Int) + (1 : Int))).toNat * (1 : Nat) + (1 : Nat) ≤ cs.length) ∧ (List.take ((0 : Nat) + (IntKind.i64.wrap ((i : Int) + (1 : Int))).toNat * (1 : Nat)) cs ++ [Value.int .i64 q] ++ List.drop ((0 : Nat) + (IntKind.i64.wrap ((i : Int) + (1 : Int))).toNat * (1 : Nat) + (1 : Nat)) cs = cs2)) ∧
R (0 : Nat) .normal ⟨⟨[I n, I (IntKind.i64.wrap ((i : Int) + (1 : Int))), I rw, I st, I fl, I br, I row], [⟨n, cw⟩, ⟨n, cv⟩, ⟨m, cu⟩]⟩, [tb, ws, vs, cs2], [es2]⟩)))))) ∧
((decide ((i : Int) < n)) = false → R (0 : Nat) (.exit 0) ⟨⟨[I n, I i, I rw, I st, I fl, I br, I row], [⟨n, cw⟩, ⟨n, cv⟩, ⟨m, cu⟩]⟩, [tb, ws, vs, cs], [es]⟩)) := by kernel_rfl
theorem f72 (rw st fl br : Int) (row : Nat) (n cw cv m cu : Nat) (tb ws vs : List Value) (es es2 : List (Value × Value)) (c0 c1 c2 c3 c4 c5 c6 c7 c8 : Int) (R : ARes → List WB → Prop) : (vx.call 72 [shV rw st n cw cv m cu, .agg ⟨[I fl, I br, I row]⟩] (retW bs92 R) (mt92 tb ws vs es) ((9, .val (I (IntKind.i64.wrap ((1 : Int) * (2 : Int) ^ row)))) :: (9, .loopW T72 (.exit 0) T72 fun _ => h72 rw st n cw cv m cu fl br row tb ws vs [I c0, I c1, I c2, I c3, I c4, I c5, I c6, I c7, I c8] es2 n) :: [])) =
(((((0 : Int) ≤ row) ∧ ((row : Int) ≤ (↑(64 : Nat) : Int))) ∧ (((I (IntKind.i64.wrap ((1 : Int) * (2 : Int) ^ row))) : Value) = (I (IntKind.i64.wrap ((1 : Int) * (2 : Int) ^ row))))) ∧
(LW p72 T72 ⟨⟨[I n, I 0, I rw, I st, I fl, I br, I row], [⟨n, cw⟩, ⟨n, cv⟩, ⟨m, cu⟩]⟩, [tb, ws, vs, [I (IntKind.i64.wrap ((1 : Int) * (2 : Int) ^ row)), I 0, I 0, I 0, I 0, I 0, I 0, I 0, I 0]], [es]⟩ (.exit 0) T72 (h72 rw st n cw cv m cu fl br row tb ws vs [I c0, I c1, I c2, I c3, I c4, I c5, I c6, I c7, I c8] es2 n) <|
R (.ret (.agg ⟨[I c0, I c1, I c2, I c3, I c4, I c5, I c6, I c7, I c8]⟩)) [.mp es2])) := by kernel_rfl
theorem b90x69 (rw st fl br : Int) (row : Nat) (n cw cv m cu : Nat) (tb ws vs : List Value) (es es2 : List (Value × Value)) (cs : List Value) (i ri : Nat) (acc q : Int) (a b : Bool) (R : Nat → AExit → Hw → Prop) : (vx.code none (.l p90) (leafW [T90 69] R) ((T90 69).inst (h90 rw st n cw cv m cu fl br row tb ws vs cs es acc i)) ([(0, .split ((10, .val (.pointer (some ⟨9, 0 + i * 1, none⟩))) :: (0, .val (I ri)) :: (2, .conW (CW92 rw st n cw cv m cu ri fl br row i tb ws vs es es2 q a b)) :: [(5, .split ([(6, .tm 0 [])]) ((9, .val (I (IntKind.i64.wrap ((1 : Int) * (2 : Int) ^ i)))) :: [(38, .tm 0 [])]))]) ([(1, .tm 0 [])]))])) =
(((decide ((i : Int) < n)) = true → (((((0 : Int) ≤ i) ∧ ((i : Int) < (↑(9 : Nat) : Int))) ∧ (VR (.pointer (some ⟨9, 0 + i * 1, none⟩)))) ∧
((cs[0 + i * 1]? = some (I ri)) ∧
(CW 92 (CW92 rw st n cw cv m cu ri fl br row i tb ws vs es es2 q a b) ⟨⟨[I rw, I st, I ri, I fl, I br, I row, I i], [⟨n, cw⟩, ⟨n, cv⟩, ⟨m, cu⟩]⟩, [tb, ws, vs], [es]⟩ <|
((b = true → R (0 : Nat) .normal ⟨⟨[I acc, I n, I (IntKind.i64.wrap ((i : Int) + (1 : Int))), I rw, I st, I fl, I br, I row], [⟨n, cw⟩, ⟨n, cv⟩, ⟨m, cu⟩]⟩, [tb, ws, vs, cs], [es2]⟩) ∧
(b = false → (((((0 : Int) ≤ i) ∧ ((i : Int) ≤ (↑(64 : Nat) : Int))) ∧ (((I (IntKind.i64.wrap ((1 : Int) * (2 : Int) ^ i))) : Value) = (I (IntKind.i64.wrap ((1 : Int) * (2 : Int) ^ i))))) ∧
R (0 : Nat) .normal ⟨⟨[I (bits BinOp.or IntKind.i64 (bits BinOp.or IntKind.i64 (0 : Int) acc) (IntKind.i64.wrap ((1 : Int) * (2 : Int) ^ i))), I n, I (IntKind.i64.wrap ((i : Int) + (1 : Int))), I rw, I st, I fl, I br, I row], [⟨n, cw⟩, ⟨n, cv⟩, ⟨m, cu⟩]⟩, [tb, ws, vs, cs], [es2]⟩))))))) ∧
((decide ((i : Int) < n)) = false → R (0 : Nat) (.exit 0) ⟨⟨[I acc, I n, I i, I rw, I st, I fl, I br, I row], [⟨n, cw⟩, ⟨n, cv⟩, ⟨m, cu⟩]⟩, [tb, ws, vs, cs], [es]⟩)) := by kernel_rfl
theorem b90x70 (rw st fl br : Int) (row : Nat) (n cw cv m cu : Nat) (tb ws vs : List Value) (es es2 : List (Value × Value)) (cs : List Value) (i ri : Nat) (acc q : Int) (a b : Bool) (R : Nat → AExit → Hw → Prop) : (vx.code none (.l p90) (leafW [T90 70] R) ((T90 70).inst (h90 rw st n cw cv m cu fl br row tb ws vs cs es acc i)) ([(0, .split ((10, .val (.pointer (some ⟨9, 0 + i * 1, none⟩))) :: (0, .val (I ri)) :: (2, .conW (CW92 rw st n cw cv m cu ri fl br row i tb ws vs es es2 q a b)) :: [(5, .split ((8, .val (I (IntKind.i64.wrap ((1 : Int) * (2 : Int) ^ i)))) :: [(38, .tm 0 [])]) ([(5, .tm 0 [])]))]) ([(1, .tm 0 [])]))])) =
(((decide ((i : Int) < n)) = true → (((((0 : Int) ≤ i) ∧ ((i : Int) < (↑(9 : Nat) : Int))) ∧ (VR (.pointer (some ⟨9, 0 + i * 1, none⟩)))) ∧
((cs[0 + i * 1]? = some (I ri)) ∧
(CW 92 (CW92 rw st n cw cv m cu ri fl br row i tb ws vs es es2 q a b) ⟨⟨[I rw, I st, I ri, I fl, I br, I row, I i], [⟨n, cw⟩, ⟨n, cv⟩, ⟨m, cu⟩]⟩, [tb, ws, vs], [es]⟩ <|
((a = true → (((((0 : Int) ≤ i) ∧ ((i : Int) ≤ (↑(64 : Nat) : Int))) ∧ (((I (IntKind.i64.wrap ((1 : Int) * (2 : Int) ^ i))) : Value) = (I (IntKind.i64.wrap ((1 : Int) * (2 : Int) ^ i))))) ∧
R (0 : Nat) .normal ⟨⟨[I (bits BinOp.or IntKind.i64 (bits BinOp.or IntKind.i64 (0 : Int) acc) (IntKind.i64.wrap ((1 : Int) * (2 : Int) ^ i))), I n, I (IntKind.i64.wrap ((i : Int) + (1 : Int))), I rw, I st, I fl, I br, I row], [⟨n, cw⟩, ⟨n, cv⟩, ⟨m, cu⟩]⟩, [tb, ws, vs, cs], [es2]⟩)) ∧
(a = false → R (0 : Nat) .normal ⟨⟨[I acc, I n, I (IntKind.i64.wrap ((i : Int) + (1 : Int))), I rw, I st, I fl, I br, I row], [⟨n, cw⟩, ⟨n, cv⟩, ⟨m, cu⟩]⟩, [tb, ws, vs, cs], [es2]⟩)))))) ∧
((decide ((i : Int) < n)) = false → R (0 : Nat) (.exit 0) ⟨⟨[I acc, I n, I i, I rw, I st, I fl, I br, I row], [⟨n, cw⟩, ⟨n, cv⟩, ⟨m, cu⟩]⟩, [tb, ws, vs, cs], [es]⟩)) := by kernel_rfl
theorem f68x69 (rw st fl br : Int) (row : Nat) (n cw cv m cu : Nat) (tb ws vs : List Value) (es es2 : List (Value × Value)) (es3 : List (Value × Value)) (c0 c1 c2 c3 c4 c5 c6 c7 c8 : Int) (acc : Int) (R : ARes → List WB → Prop) : (vx.call 68 [shV rw st n cw cv m cu, .agg ⟨[I fl, I br, I row]⟩, .func (.func 69) ⟨[]⟩ ⟨[]⟩] (retW bs92 R) (mt92 tb ws vs es) ((7, .conW (CW72 rw st n cw cv m cu fl br row tb ws vs es es2 c0 c1 c2 c3 c4 c5 c6 c7 c8)) :: (12, .loopW (T90 (69 : Nat)) (.exit 0) (T90 (69 : Nat)) fun _ => h90 rw st n cw cv m cu fl br row tb ws vs [I c0, I c1, I c2, I c3, I c4, I c5, I c6, I c7, I c8] es3 acc n) :: [])) =
(CW 72 (CW72 rw st n cw cv m cu fl br row tb ws vs es es2 c0 c1 c2 c3 c4 c5 c6 c7 c8) ⟨⟨[I rw, I st, I fl, I br, I row], [⟨n, cw⟩, ⟨n, cv⟩, ⟨m, cu⟩]⟩, [tb, ws, vs], [es]⟩ <|
(LW p90 (T90 (69 : Nat)) ⟨⟨[I 0, I n, I 0, I rw, I st, I fl, I br, I row], [⟨n, cw⟩, ⟨n, cv⟩, ⟨m, cu⟩]⟩, [tb, ws, vs, [I c0, I c1, I c2, I c3, I c4, I c5, I c6, I c7, I c8]], [es2]⟩ (.exit 0) (T90 (69 : Nat)) ⟨⟨[I acc, I n, I n, I rw, I st, I fl, I br, I row], [⟨n, cw⟩, ⟨n, cv⟩, ⟨m, cu⟩]⟩, [tb, ws, vs, [I c0, I c1, I c2, I c3, I c4, I c5, I c6, I c7, I c8]], [es3]⟩ <|
R (.ret (I acc)) [.mp es3])) := by kernel_rfl
theorem f68x70 (rw st fl br : Int) (row : Nat) (n cw cv m cu : Nat) (tb ws vs : List Value) (es es2 : List (Value × Value)) (es3 : List (Value × Value)) (c0 c1 c2 c3 c4 c5 c6 c7 c8 : Int) (acc : Int) (R : ARes → List WB → Prop) : (vx.call 68 [shV rw st n cw cv m cu, .agg ⟨[I fl, I br, I row]⟩, .func (.func 70) ⟨[]⟩ ⟨[]⟩] (retW bs92 R) (mt92 tb ws vs es) ((7, .conW (CW72 rw st n cw cv m cu fl br row tb ws vs es es2 c0 c1 c2 c3 c4 c5 c6 c7 c8)) :: (12, .loopW (T90 (70 : Nat)) (.exit 0) (T90 (70 : Nat)) fun _ => h90 rw st n cw cv m cu fl br row tb ws vs [I c0, I c1, I c2, I c3, I c4, I c5, I c6, I c7, I c8] es3 acc n) :: [])) =
(CW 72 (CW72 rw st n cw cv m cu fl br row tb ws vs es es2 c0 c1 c2 c3 c4 c5 c6 c7 c8) ⟨⟨[I rw, I st, I fl, I br, I row], [⟨n, cw⟩, ⟨n, cv⟩, ⟨m, cu⟩]⟩, [tb, ws, vs], [es]⟩ <|
(LW p90 (T90 (70 : Nat)) ⟨⟨[I 0, I n, I 0, I rw, I st, I fl, I br, I row], [⟨n, cw⟩, ⟨n, cv⟩, ⟨m, cu⟩]⟩, [tb, ws, vs, [I c0, I c1, I c2, I c3, I c4, I c5, I c6, I c7, I c8]], [es2]⟩ (.exit 0) (T90 (70 : Nat)) ⟨⟨[I acc, I n, I n, I rw, I st, I fl, I br, I row], [⟨n, cw⟩, ⟨n, cv⟩, ⟨m, cu⟩]⟩, [tb, ws, vs, [I c0, I c1, I c2, I c3, I c4, I c5, I c6, I c7, I c8]], [es3]⟩ <|
R (.ret (I acc)) [.mp es3])) := by kernel_rfl
theorem f36 (rw st fl br : Int) (row : Nat) (n cw cv m cu : Nat) (tb ws vs : List Value) (es es2 : List (Value × Value)) (es3 : List (Value × Value)) (x y : Int) (R : ARes → List WB → Prop) : (vx.call 36 [shV rw st n cw cv m cu, .agg ⟨[I fl, I br, I row]⟩] (retW bs92 R) (mt92 tb ws vs es) ((8, .conW (CW68 69 rw st n cw cv m cu fl br row tb ws vs es es2 x)) :: (0, .again) :: (0, .conW (CW68 70 rw st n cw cv m cu fl br row tb ws vs es2 es3 y)) :: [])) =
(CW 68 (CW68 69 rw st n cw cv m cu fl br row tb ws vs es es2 x) ⟨⟨[I rw, I st, I fl, I br, I row], [⟨n, cw⟩, ⟨n, cv⟩, ⟨m, cu⟩]⟩, [tb, ws, vs], [es]⟩ <|
(((((3 : Nat) ≤ (3 : Nat)) ∧ (((.agg ⟨[I fl, I br, I row]⟩) : Value) = (.agg ⟨[I fl, I br, I row]⟩))) ∧ ((((6 : Nat) ≤ (6 : Nat)) ∧ (((.agg ⟨[I rw, I st, .slice (.some ⟨(2 : Nat), (0 : Nat), .none⟩) n cw, .slice (.some ⟨(3 : Nat), (0 : Nat), .none⟩) n cv, .slice (.some ⟨(4 : Nat), (0 : Nat), .none⟩) m cu, .map (.some (5 : Nat))]⟩) : Value) = (.agg ⟨[I rw, I st, .slice (.some ⟨(2 : Nat), (0 : Nat), .none⟩) n cw, .slice (.some ⟨(3 : Nat), (0 : Nat), .none⟩) n cv, .slice (.some ⟨(4 : Nat), (0 : Nat), .none⟩) m cu, .map (.some (5 : Nat))]⟩))) ∧ True)) ∧
(CW 68 (CW68 70 rw st n cw cv m cu fl br row tb ws vs es2 es3 y) ⟨⟨[I rw, I st, I fl, I br, I row], [⟨n, cw⟩, ⟨n, cv⟩, ⟨m, cu⟩]⟩, [tb, ws, vs], [es2]⟩ <|
R (.ret (.agg ⟨[I x, I y]⟩)) [.mp es3]))) := by kernel_rfl
theorem f42all (R : Nat → ARes → Prop) : (Nat.rec True (fun i ih => vx.call 42 [I ((i + 1 : Nat) : Int)] (retK (R i)) mtab [] ∧ ih) 255 : Prop) = (Nat.rec True (fun i ih => R i (.ret (I ((tzN (i + 1) : Nat) : Int))) ∧ ih) 255 : Prop) := by kernel_rfl
theorem rec_all {P : Nat → Prop} {n : Nat} (h : ∀ i, i < n → P i) : (Nat.rec True (fun i ih => P i ∧ ih) n : Prop) := by
 induction n with
 | zero => trivial
 | succ n ih => exact ⟨h n (by omega), ih fun i hi => h i (by omega)⟩
theorem rec_get {P : Nat → Prop} {n : Nat} (h : (Nat.rec True (fun i ih => P i ∧ ih) n : Prop)) : ∀ i, i < n → P i := by
 induction n with
 | zero => intro i hi; omega
 | succ n ih =>
  intro i hi
  by_cases e : i = n
  · subst e; exact h.1
  · exact ih h.2 i (by omega)
theorem tabC_at : ∀ v ∈ tabC, atomic v = true := by
 intro v hv
 simp only [tabC, List.mem_map] at hv
 obtain ⟨n, _, rfl⟩ := hv
 rfl
theorem C42_ok {s : Nat} (h0 : s ≠ 0) (h : s < 256) : ConOK Tryd.prog 42 (C42 tabC s (tzN s)) := by
 have hall := (f42all fun i r => r = .ret (I ((tzN (i + 1) : Nat) : Int))).mpr (rec_all (P := fun i => (ARes.ret (I ((tzN (i + 1) : Nat) : Int))) = ARes.ret (I ((tzN (i + 1) : Nat) : Int))) (n := 255) fun i _ => rfl)
 have hone := rec_get (n := 255) (P := fun i => vx.call 42 [I ((i + 1 : Nat) : Int)] (retK fun r => r = .ret (I ((tzN (i + 1) : Nat) : Int))) mtab []) hall (s - 1) (by omega)
 have e : s - 1 + 1 = s := by omega
 rw [e] at hone
 refine con_of vx_sound _ (fun y hy => ?_) rfl (fun y _ => rfl) (fun y hy => ?_) rfl (Nat.le_of_ble_eq_true rfl) (by rw [nglob]; exact Nat.le_of_ble_eq_true rfl)
 · cases hy
   exact ⟨_, hone⟩
 · cases hy
   intro cs hcs
   simp only [List.mem_singleton] at hcs
   subst hcs
   exact tabC_at
section
variable {rw st : Int} {n cw cv m cu : Nat} {fl br : Int} {w v : Nat → Sp}
theorem cl_tab {a : List Value} {b : List (Nat × Nat)} {M : List (Key × Out)} : ClW ⟨⟨a, b⟩, [tabC, spL n w, spL n v], [encK M]⟩ := by
 refine ⟨fun cs hc => ?_, fun e hc => ?_⟩
 · simp only [List.mem_cons, List.not_mem_nil, or_false] at hc
   rcases hc with rfl | rfl | rfl
   · exact tabC_at
   · exact spL_at _ _
   · exact spL_at _ _
 · simp only [List.mem_singleton] at hc
   subst hc
   exact encK_cl M
theorem cl_tab4 {a : List Value} {b : List (Nat × Nat)} {M : List (Key × Out)} (k : Nat) (o : Nat → Int) : ClW ⟨⟨a, b⟩, [tabC, spL n w, spL n v, ints k o], [encK M]⟩ := by
 refine ⟨fun cs hc => ?_, fun e hc => ?_⟩
 · simp only [List.mem_cons, List.not_mem_nil, or_false] at hc
   rcases hc with rfl | rfl | rfl | rfl
   · exact tabC_at
   · exact spL_at _ _
   · exact spL_at _ _
   · exact ints_at _ _
 · simp only [List.mem_singleton] at hc
   subst hc
   exact encK_cl M
structure E98 where
 rest : Nat
 row0 : Int
 M : List (Key × Out)
 o : Out
noncomputable def s98 (rw st : Int) (n cw cv m cu : Nat) (fl br : Int) (hour : Nat) (w v : Nat → Sp) (y : E98) : Hw := h98 rw st n cw cv m cu fl br y.row0 hour tabC (spL n w) (spL n v) (encK y.M) y.rest y.o.rows y.o.fl y.o.re
noncomputable def x98 (rw st : Int) (n cw cv m cu : Nat) (fl br : Int) (hour : Nat) (w v : Nat → Sp) (y : E98) : Hw :=
 s98 rw st n cw cv m cu fl br hour w v ⟨0, evR (bitsL y.rest) y.row0, evM st w v fl br hour (bitsL y.rest) y.M, evO st w v fl br hour (bitsL y.rest) y.o⟩
theorem loop98 (hS : SOK rw st n w v) {hour : Nat} (hh : hour < n) {y : E98} (h128 : y.rest < 128) (hM : KpO st w v y.M) (ho : y.o.rows < 128) :
    LoopOW Tryd.prog none p98 T98 (s98 rw st n cw cv m cu fl br hour w v y) (.exit 0) T98 (x98 rw st n cw cv m cu fl br hour w v y) := by
 refine loop_vcW (P := Tryd.prog) (ro := none) (p := p98) (Ts := [T98]) (k := 13) (X := E98) (inv := fun y => y.rest < 128 ∧ KpO st w v y.M ∧ y.o.rows < 128) (μ := fun y => y.rest) (st := fun y => (0, s98 rw st n cw cv m cu fl br hour w v y)) (out := fun y => (.exit 0, 0, x98 rw st n cw cv m cu fl br hour w v y)) rfl vx_sound
  (by intro T hT; simp only [List.mem_singleton] at hT; subst hT; rfl) (by rw [nglob]; omega) (fun y hy => ?_) (x := y) ⟨h128, hM, ho⟩ (T0 := T98) (T1 := T98) rfl (Nat.le_of_ble_eq_true rfl) (by decide) rfl
 obtain ⟨rest, row0, M, o⟩ := y
 obtain ⟨hr, hM, ho⟩ := hy
 have hr : rest < 128 := hr
 by_cases h0 : rest = 0
 · subst h0
   refine ⟨T98, _, rfl, (b98 rw st fl br row0 hour n cw cv m cu tabC (spL n w) (spL n v) (encK M) [] 0 0 o.rows 0 o.fl o.re false false _).mpr ⟨fun h => (by simp at h), fun _ => ?_⟩⟩
   refine ⟨⟨cl_tab, trivial⟩, .inr ⟨by simp, ?_⟩⟩
   simp only [x98, bits_zero, evM, evO, evR]
   rfl
 · obtain ⟨b1, b2, b3, b4, b5⟩ := bits_step (show rest < 256 by omega) h0
   have hrow : tzN rest ≤ 6 := by have := b5 hr; omega
   have hC : ConWOK Tryd.prog 100 (CW100 rw st n cw cv m cu fl br (tzN rest) hour (spL n w) (spL n v) (encK M) (encK (addK st w v M ⟨fl, br, tzN rest, hour⟩)) (outO st w v ⟨fl, br, tzN rest, hour⟩).rows (outO st w v ⟨fl, br, tzN rest, hour⟩).fl (outO st w v ⟨fl, br, tzN rest, hour⟩).re) :=
    C100_ok (x := ⟨rw, st, n, cw, cv, m, cu, fl, br, tzN rest, hour⟩) hS hh hrow hM
   have hlt := outO_lt (st := st) (w := w) (v := v) (k := ⟨fl, br, tzN rest, hour⟩) hrow
   have hj := jn_nat ho hlt
   refine ⟨T98, _, rfl, (b98 rw st fl br row0 hour n cw cv m cu tabC (spL n w) (spL n v) (encK M) _ rest (tzN rest) o.rows _ o.fl o.re _ _ _).mpr ⟨fun _ => ⟨C42_ok h0 (by omega), rfl, hC, rfl, ⟨⟨Nat.le_refl _, rfl⟩, trivial⟩, C99_ok _ _ _ _ _ _, rfl, ?_⟩, fun h => absurd (show (rest : Int) = 0 by simpa using h) (by omega)⟩⟩
   rw [hj, b2]
   refine ⟨⟨cl_tab, trivial⟩, .inl ⟨rfl, ⟨clrN rest, (tzN rest : Nat), addK st w v M ⟨fl, br, tzN rest, hour⟩, orO o (outO st w v ⟨fl, br, tzN rest, hour⟩)⟩, ⟨by show clrN rest < 128; omega, hM.add _, or_lt7 ho hlt⟩, b3, rfl, ?_⟩⟩
   simp only [x98, b1, evM, evO, evR]
theorem C92_ok (hS : SOK rw st n w v) {hour rows : Nat} (row0 : Int) (hh : hour < n) (h128 : rows < 128) {M : List (Key × Out)} (hM : KpO st w v M) :
    ConWOK Tryd.prog 92 (CW92 rw st n cw cv m cu rows fl br row0 hour tabC (spL n w) (spL n v) (encK M) (encK (ofM st w v fl br hour rows M)) (ofO st w v fl br hour rows).rows (ofO st w v fl br hour rows).fl (ofO st w v fl br hour rows).re) := by
 have hl := loop98 (rw := rw) (st := st) (n := n) (cw := cw) (cv := cv) (m := m) (cu := cu) (fl := fl) (br := br) (y := ⟨rows, row0, M, nilO⟩) hS hh h128 hM (by decide : (0 : Nat) < 128)
 refine conW_of vx_sound (callable 92 _ _ rfl rfl) (fun y hy => ?_) (fun y _ => ⟨rfl, fun b hb => ?_⟩) (fun y hy => ?_) (Nat.le_of_ble_eq_true rfl) (by rw [nglob]; exact Nat.le_of_ble_eq_true rfl)
 · cases hy
   exact ⟨_, (f92 rw st fl br row0 hour n cw cv m cu tabC (spL n w) (spL n v) (encK M) _ rows _ _ _ _ _).mpr ⟨cl_tab, hl, rfl, rfl⟩⟩
 · simp only [CW92, List.mem_singleton] at hb
   subst hb
   exact encK_cl _
 · cases hy
   exact cl_tab
noncomputable def s72 (rw st : Int) (n cw cv m cu : Nat) (fl br : Int) (row : Nat) (w v : Nat → Sp) (M : List (Key × Out)) (i : Nat) : Hw :=
 h72 rw st n cw cv m cu fl br row tabC (spL n w) (spL n v) (ints 9 (crF st w v fl br row i)) (encK (crM st w v fl br row M i)) i
theorem loop72 (hS : SOK rw st n w v) {row : Nat} (hr : row ≤ 6) {M : List (Key × Out)} (hM : KpO st w v M) :
    LoopOW Tryd.prog none p72 T72 (s72 rw st n cw cv m cu fl br row w v M 0) (.exit 0) T72 (s72 rw st n cw cv m cu fl br row w v M n) := by
 have h8 := hS.n8
 refine loop_forW (Ts := [T72]) (k := 10) (n := n) (e := .exit 0) (st := fun i => (0, s72 rw st n cw cv m cu fl br row w v M i)) rfl vx_sound ?_ (by rw [nglob]; omega) ⟨by simp, trivial⟩ (fun i _ => cl_tab4 _ _) (fun i hi R hR => ?_) (fun R hR => ?_) rfl (Nat.le_of_ble_eq_true rfl) (by decide) rfl
 · intro T hT; simp only [List.mem_singleton] at hT; subst hT; rfl
 · have hw := wrS (i := i) (by omega)
   have hc := crs_lt (st := st) (w := w) (v := v) (fl := fl) (br := br) hr i
   have hC := C92_ok (cw := cw) (cv := cv) (m := m) (cu := cu) (fl := fl) (br := br) hS row hi hc (crM_ok (row := row) (fl := fl) (br := br) hM i)
   have hget : (ints 9 (crF st w v fl br row i))[0 + i * 1]? = some (I (crs st w v fl br row i : Nat)) := by
    rw [ints_get _ (show i < 9 by omega)]
    simp only [crF, if_pos (Nat.le_refl i)]
   have hput := ints_put (n := 9) (crF st w v fl br row i) ((crs st w v fl br row (i + 1) : Nat) : Int) (show i + 1 < 9 by omega)
   have e : (fun x => if x = i + 1 then ((crs st w v fl br row (i + 1) : Nat) : Int) else crF st w v fl br row i x) = crF st w v fl br row (i + 1) := by
    funext j
    simp only [crF]
    by_cases h1 : j = i + 1
    · subst h1; rw [if_pos rfl, if_pos (Nat.le_refl _)]
    · rw [if_neg h1]
      by_cases h2 : j ≤ i
      · rw [if_pos h2, if_pos (by omega)]
      · rw [if_neg h2, if_neg (by omega)]
   rw [e] at hput
   refine ⟨T72, _, rfl, (b72 rw st fl br row n cw cv m cu tabC (spL n w) (spL n v) (encK (crM st w v fl br row M i)) (encK (ofM st w v fl br i (crs st w v fl br row i) (crM st w v fl br row M i))) (ints 9 (crF st w v fl br row i)) (ints 9 (crF st w v fl br row (i + 1))) i (crs st w v fl br row i) (ofO st w v fl br i (crs st w v fl br row i)).rows (ofO st w v fl br i (crs st w v fl br row i)).fl (ofO st w v fl br i (crs st w v fl br row i)).re R).mpr ⟨fun _ => ?_, fun h => absurd (by omega) (of_decide_eq_false h)⟩⟩
   rw [hw, Int.toNat_natCast]
   exact ⟨⟨⟨by omega, by omega⟩, rfl⟩, hget, hC, rfl, ⟨⟨by omega, by omega⟩, rfl⟩, ⟨by rw [ints_len]; omega, hput⟩, hR⟩
 · exact ⟨T72, _, rfl, (b72 rw st fl br row n cw cv m cu tabC (spL n w) (spL n v) (encK (crM st w v fl br row M n)) [] (ints 9 (crF st w v fl br row n)) [] n 0 0 false false R).mpr ⟨fun h => absurd (of_decide_eq_true h) (by omega), fun _ => hR⟩⟩
theorem one_row {row : Nat} (hr : row ≤ 6) : IntKind.i64.wrap ((1 : Int) * (2 : Int) ^ row) = ((2 ^ row : Nat) : Int) := by
 have h := pow_lt7 hr
 have e : (1 : Int) * 2 ^ row = ((2 ^ row : Nat) : Int) := by simp
 rw [e]
 generalize 2 ^ row = z at h
 exact wrapI (by omega) (by omega)
theorem C72_ok (hS : SOK rw st n w v) {row : Nat} (hr : row ≤ 6) {M : List (Key × Out)} (hM : KpO st w v M) :
    ConWOK Tryd.prog 72 (CW72 rw st n cw cv m cu fl br row tabC (spL n w) (spL n v) (encK M) (encK (crM st w v fl br row M n)) (crF st w v fl br row n 0) (crF st w v fl br row n 1) (crF st w v fl br row n 2) (crF st w v fl br row n 3) (crF st w v fl br row n 4) (crF st w v fl br row n 5) (crF st w v fl br row n 6) (crF st w v fl br row n 7) (crF st w v fl br row n 8)) := by
 have hl := loop72 (cw := cw) (cv := cv) (m := m) (cu := cu) (fl := fl) (br := br) hS hr hM
 have h1 := one_row hr
 refine conW_of vx_sound (callable 72 _ _ rfl rfl) (fun y hy => ?_) (fun y _ => ⟨rfl, fun b hb => ?_⟩) (fun y hy => ?_) (Nat.le_of_ble_eq_true rfl) (by rw [nglob]; exact Nat.le_of_ble_eq_true rfl)
 · cases hy
   refine ⟨_, (f72 rw st fl br row n cw cv m cu tabC (spL n w) (spL n v) (encK M) (encK (crM st w v fl br row M n)) (crF st w v fl br row n 0) (crF st w v fl br row n 1) (crF st w v fl br row n 2) (crF st w v fl br row n 3) (crF st w v fl br row n 4) (crF st w v fl br row n 5) (crF st w v fl br row n 6) (crF st w v fl br row n 7) (crF st w v fl br row n 8) _).mpr ?_⟩
   rw [h1]
   exact ⟨⟨⟨by omega, by omega⟩, rfl⟩, cl_tab4 9 (crF st w v fl br row 0), hl, rfl, rfl⟩
 · simp only [CW72, List.mem_singleton] at hb
   subst hb
   exact encK_cl _
 · cases hy
   exact cl_tab
def selP (f : Nat) (o : Out) : Bool := if f = 69 then !o.re else o.fl
noncomputable def s90 (f : Nat) (rw st : Int) (n cw cv m cu : Nat) (fl br : Int) (row : Nat) (w v : Nat → Sp) (M : List (Key × Out)) (i : Nat) : Hw :=
 h90 rw st n cw cv m cu fl br row tabC (spL n w) (spL n v) (ints 9 (crF st w v fl br row n)) (encK (hrM st w v fl br row n M i)) (hrS st w v fl br (selP f) row i : Nat) i
theorem lt_256 {a i : Nat} (h : a < 2 ^ i) (hi : i ≤ 8) : a < 256 := Nat.lt_of_lt_of_le h (Nat.pow_le_pow_right (by omega) hi)
theorem loop90 (f : Nat) (hf : f = 69 ∨ f = 70) (hS : SOK rw st n w v) {row : Nat} (hr : row ≤ 6) {M : List (Key × Out)} (hM : KpO st w v M) :
    LoopOW Tryd.prog none p90 (T90 f) (s90 f rw st n cw cv m cu fl br row w v M 0) (.exit 0) (T90 f) (s90 f rw st n cw cv m cu fl br row w v M n) := by
 have h8 := hS.n8
 refine loop_forW (Ts := [T90 f]) (k := 10) (n := n) (e := .exit 0) (st := fun i => (0, s90 f rw st n cw cv m cu fl br row w v M i)) rfl vx_sound ?_ (by rw [nglob]; omega) ⟨by simp, trivial⟩ (fun i _ => cl_tab4 _ _) (fun i hi R hR => ?_) (fun R hR => ?_) rfl (Nat.le_of_ble_eq_true rfl) (by decide) rfl
 · intro T hT; simp only [List.mem_singleton] at hT; subst hT; rfl
 · have hw := wrS (i := i) (by omega)
   have hc := crs_lt (st := st) (w := w) (v := v) (fl := fl) (br := br) hr i
   have hC := C92_ok (cw := cw) (cv := cv) (m := m) (cu := cu) (fl := fl) (br := br) hS row hi hc (hrM_ok (row := row) (n := n) (fl := fl) (br := br) hM i)
   have hget : (ints 9 (crF st w v fl br row n))[0 + i * 1]? = some (I (crs st w v fl br row i : Nat)) := by
    rw [ints_get _ (show i < 9 by omega)]
    simp only [crF, if_pos (show i ≤ n by omega)]
   have ha := lt_256 (hrS_lt (st := st) (w := w) (v := v) (fl := fl) (br := br) (p := selP f) (row := row) (show i ≤ 8 by omega)) (by omega)
   have hj : bits BinOp.or IntKind.i64 (bits BinOp.or IntKind.i64 (0 : Int) (hrS st w v fl br (selP f) row i : Nat)) (IntKind.i64.wrap ((1 : Int) * (2 : Int) ^ i)) = ((hrS st w v fl br (selP f) row i ||| 2 ^ i : Nat) : Int) := jn_or8 ha (by omega)
   have hstep : hrS st w v fl br (selP f) row (i + 1) = if selP f (ofO st w v fl br i (crs st w v fl br row i)) = true then hrS st w v fl br (selP f) row i ||| 2 ^ i else hrS st w v fl br (selP f) row i := rfl
   unfold s90 at hR
   rw [hstep] at hR
   rcases hf with rfl | rfl
   · refine ⟨T90 69, _, rfl, (b90x69 rw st fl br row n cw cv m cu tabC (spL n w) (spL n v) (encK (hrM st w v fl br row n M i)) (encK (ofM st w v fl br i (crs st w v fl br row i) (hrM st w v fl br row n M i))) (ints 9 (crF st w v fl br row n)) i (crs st w v fl br row i) (hrS st w v fl br (selP 69) row i : Nat) (ofO st w v fl br i (crs st w v fl br row i)).rows (ofO st w v fl br i (crs st w v fl br row i)).fl (ofO st w v fl br i (crs st w v fl br row i)).re R).mpr ⟨fun _ => ⟨⟨⟨by omega, by omega⟩, rfl⟩, hget, hC, rfl, fun hb => ?_, fun hb => ⟨⟨⟨by omega, by omega⟩, rfl⟩, ?_⟩⟩, fun h => absurd (by omega) (of_decide_eq_false h)⟩⟩
     · rw [if_neg (by simp [selP, hb])] at hR
       rw [hw]; exact hR
     · rw [if_pos (by simp [selP, hb])] at hR
       rw [hw, hj]; exact hR
   · refine ⟨T90 70, _, rfl, (b90x70 rw st fl br row n cw cv m cu tabC (spL n w) (spL n v) (encK (hrM st w v fl br row n M i)) (encK (ofM st w v fl br i (crs st w v fl br row i) (hrM st w v fl br row n M i))) (ints 9 (crF st w v fl br row n)) i (crs st w v fl br row i) (hrS st w v fl br (selP 70) row i : Nat) (ofO st w v fl br i (crs st w v fl br row i)).rows (ofO st w v fl br i (crs st w v fl br row i)).fl (ofO st w v fl br i (crs st w v fl br row i)).re R).mpr ⟨fun _ => ⟨⟨⟨by omega, by omega⟩, rfl⟩, hget, hC, rfl, fun hb => ⟨⟨⟨by omega, by omega⟩, rfl⟩, ?_⟩, fun hb => ?_⟩, fun h => absurd (by omega) (of_decide_eq_false h)⟩⟩
     · rw [if_pos (by simp [selP, hb])] at hR
       rw [hw, hj]; exact hR
     · rw [if_neg (by simp [selP, hb])] at hR
       rw [hw]; exact hR
 · unfold s90 at hR
   rcases hf with rfl | rfl
   · exact ⟨T90 69, _, rfl, (b90x69 rw st fl br row n cw cv m cu tabC (spL n w) (spL n v) (encK (hrM st w v fl br row n M n)) [] (ints 9 (crF st w v fl br row n)) n 0 (hrS st w v fl br (selP 69) row n : Nat) 0 false false R).mpr ⟨fun h => absurd (of_decide_eq_true h) (by omega), fun _ => hR⟩⟩
   · exact ⟨T90 70, _, rfl, (b90x70 rw st fl br row n cw cv m cu tabC (spL n w) (spL n v) (encK (hrM st w v fl br row n M n)) [] (ints 9 (crF st w v fl br row n)) n 0 (hrS st w v fl br (selP 70) row n : Nat) 0 false false R).mpr ⟨fun h => absurd (of_decide_eq_true h) (by omega), fun _ => hR⟩⟩
theorem C68_ok (f : Nat) (hf : f = 69 ∨ f = 70) (hS : SOK rw st n w v) {row : Nat} (hr : row ≤ 6) {M : List (Key × Out)} (hM : KpO st w v M) :
    ConWOK Tryd.prog 68 (CW68 f rw st n cw cv m cu fl br row tabC (spL n w) (spL n v) (encK M) (encK (hrM st w v fl br row n M n)) (hrS st w v fl br (selP f) row n : Nat)) := by
 have hl := loop90 (cw := cw) (cv := cv) (m := m) (cu := cu) (fl := fl) (br := br) f hf hS hr hM
 have h72 := C72_ok (cw := cw) (cv := cv) (m := m) (cu := cu) (fl := fl) (br := br) hS hr hM
 refine conW_of vx_sound (callable 68 _ _ rfl rfl) (fun y hy => ?_) (fun y _ => ⟨rfl, fun b hb => ?_⟩) (fun y hy => ?_) (Nat.le_of_ble_eq_true rfl) (by rw [nglob]; exact Nat.le_of_ble_eq_true rfl)
 · cases hy
   rcases hf with rfl | rfl
   · exact ⟨_, (f68x69 rw st fl br row n cw cv m cu tabC (spL n w) (spL n v) (encK M) (encK (crM st w v fl br row M n)) (encK (hrM st w v fl br row n M n)) (crF st w v fl br row n 0) (crF st w v fl br row n 1) (crF st w v fl br row n 2) (crF st w v fl br row n 3) (crF st w v fl br row n 4) (crF st w v fl br row n 5) (crF st w v fl br row n 6) (crF st w v fl br row n 7) (crF st w v fl br row n 8) _ _).mpr ⟨h72, rfl, cl_tab4 9 (crF st w v fl br row n), hl, rfl, rfl⟩⟩
   · exact ⟨_, (f68x70 rw st fl br row n cw cv m cu tabC (spL n w) (spL n v) (encK M) (encK (crM st w v fl br row M n)) (encK (hrM st w v fl br row n M n)) (crF st w v fl br row n 0) (crF st w v fl br row n 1) (crF st w v fl br row n 2) (crF st w v fl br row n 3) (crF st w v fl br row n 4) (crF st w v fl br row n 5) (crF st w v fl br row n 6) (crF st w v fl br row n 7) (crF st w v fl br row n 8) _ _).mpr ⟨h72, rfl, cl_tab4 9 (crF st w v fl br row n), hl, rfl, rfl⟩⟩
 · simp only [CW68, List.mem_singleton] at hb
   subst hb
   exact encK_cl _
 · cases hy
   exact cl_tab
end
end Go.Ab
