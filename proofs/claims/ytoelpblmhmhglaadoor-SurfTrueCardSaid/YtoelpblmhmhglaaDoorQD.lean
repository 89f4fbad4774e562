/- package surf: the law SurfTrue, of valid surfs with hours and huts. -/
import Derived.Test.YtoelpblmhmhglaaDoorQA
import Derived.Test.YtoelpblmhmhglaaDoorQC
set_option maxRecDepth 100000
namespace Go.Ab
open Go Go.RowKit Go.Proofs
theorem f30t (rw : Nat) (st wh l : Int) (n cw cv m cu k d hut x y fi : Nat) (w v : Nat → Sp) (u : Nat → Hut) (bs wt vt ro : Nat → Int) (fo : Nat → Bool) (tb : List Value) (R : ARes → Prop) : (vx.call 3 [suV rw st n cw cv m cu, slV 5 k d, .int .u8 wh] (retK R) (mL3 tb (spL n w) (spL n v) (huL m u) (u16L k bs)) ([(21, .split ((9, Hint.con (C11t tb)) :: []) ((4, Hint.con (C20 (↑rw : Int) st n cw n cv m cu (spL n w) (spL n v) (huL m u) true)) :: (7, .val (.bool false)) :: (7, .val (.int .i64 hut)) :: (3, Hint.conN (C12 (↑rw : Int) st n cw cv m cu k d (spL n w) (spL n v) (u16L k bs) (ints n wt) (ints n vt))) :: (9, .val (.pointer (.some ⟨((4 : Nat)), ((0 : Nat) + hut * (3 : Nat)), .none⟩))) :: (0, .val (.agg ⟨[(.int .i64 ((u hut).fl)), (.int .i64 ((u hut).br)), (.int .i64 ((↑(u hut).row : Int)))]⟩)) :: (2, Hint.conN (C13 (↑rw : Int) st n cw cv m cu n n (u hut).fl (u hut).br (↑(u hut).row : Int) (ints n wt) (ints n vt) (ints n ro) (boolsL n fo))) :: (7, Hint.con (CS1 (↑rw : Int) st n cw cv m cu tb (spL n w) (spL n v) (huL m u) (↑hut : Int) (Value.tuple { toList := [I (↑x : Int), I (↑y : Int), I (0 : Int)] }))) :: (9, Hint.con (CS1 (↑rw : Int) st n cw cv m cu tb (spL n w) (spL n v) (huL m u) (↑hut : Int) (Value.tuple { toList := [I l, I (0 : Int)] }))) :: (7, Hint.con (CS1 (↑rw : Int) st n cw cv m cu tb (spL n w) (spL n v) (huL m u) (↑hut : Int) (Value.tuple { toList := [I (↑fi : Int), I (0 : Int)] }))) :: (15, .val (.bool false)) :: (5, .val (.int .i64 ((↑y : Int) / (2 : Int) ^ n))) :: (0, .val (.bool false)) :: (5, .val (.bool true)) :: (13, Hint.loopW T3a (AExit.exit (0 : Nat)) T3a fun x_1 => h3a (↑rw : Int) st n cw cv m cu hut x y fi l (0 : Int) tb (spL n w) (spL n v) (huL m u) wt ro fo true n) :: [(1, .split ((4, .val (.bool true)) :: (4, Hint.con (C11t tb)) :: []) ((5, .val (.bool true)) :: (4, Hint.con (C11t tb)) :: []))]))])) =
((((decide ((if (↑m : Int) > if (↑n : Int) > (↑n : Int) then (↑n : Int) else (↑n : Int) then (↑m : Int) else if (↑n : Int) > (↑n : Int) then (↑n : Int) else (↑n : Int)) > (40 : Int))) = true → ((ConOK Tryd.prog ((11 : Nat)) (C11t tb)) ∧ (Con.pre (C11t tb) ⟨⟨[], []⟩, [(tb)]⟩) ∧
R (.ret (.bool true)))) ∧
((decide ((if (↑m : Int) > if (↑n : Int) > (↑n : Int) then (↑n : Int) else (↑n : Int) then (↑m : Int) else if (↑n : Int) > (↑n : Int) then (↑n : Int) else (↑n : Int)) > (40 : Int))) = false → ((ConOK Tryd.prog ((20 : Nat)) (C20 (↑rw : Int) st n cw n cv m cu (spL n w) (spL n v) (huL m u) true)) ∧ (Con.pre (C20 (↑rw : Int) st n cw n cv m cu (spL n w) (spL n v) (huL m u) true) ⟨⟨[(.int .i64 rw), (.int .i64 st)], [⟨n, cw⟩, ⟨n, cv⟩, ⟨m, cu⟩]⟩, [(spL n w), (spL n v), (huL m u)]⟩) ∧
((((some (.bool ((↑m : Int) == (0 : Int))) : Option Value) = some (.bool false))) ∧
((((((↑m : Int) ≠ (0 : Int))) ∧ ((IntKind.i64 = IntKind.i64))) ∧ (((.int .i64 hut) : Value) = (.int .i64 ((IntKind.i64.wrap wh).tmod (↑m : Int))))) ∧
((ConNOK Tryd.prog ((12 : Nat)) (C12 (↑rw : Int) st n cw cv m cu k d (spL n w) (spL n v) (u16L k bs) (ints n wt) (ints n vt))) ∧ (ConN.pre (C12 (↑rw : Int) st n cw cv m cu k d (spL n w) (spL n v) (u16L k bs) (ints n wt) (ints n vt)) ⟨⟨[(.int .i64 rw), (.int .i64 st)], [⟨n, cw⟩, ⟨n, cv⟩, ⟨m, cu⟩, ⟨k, d⟩]⟩, [(spL n w), (spL n v), (u16L k bs)]⟩) ∧
((((((0 : Int) ≤ (↑hut : Int))) ∧ (((↑hut : Int) < (↑m : Int)))) ∧ (((.pointer (.some ⟨((4 : Nat)), ((0 : Nat) + hut * (3 : Nat)), .none⟩)) : Value) = (.pointer (.some ⟨((4 : Nat)), ((0 : Nat) + hut * (3 : Nat)), .none⟩)))) ∧
(((((0 : Nat) + hut * (3 : Nat) + (3 : Nat) ≤ (huL m u).length)) ∧ (((.agg ⟨[(.int .i64 ((u hut).fl)), (.int .i64 ((u hut).br)), (.int .i64 ((↑(u hut).row : Int)))]⟩) : Value) = (.agg ⟨(List.take ((3 : Nat)) (List.drop ((0 : Nat) + hut * (3 : Nat)) (huL m u)))⟩))) ∧
((ConNOK Tryd.prog ((13 : Nat)) (C13 (↑rw : Int) st n cw cv m cu n n (u hut).fl (u hut).br (↑(u hut).row : Int) (ints n wt) (ints n vt) (ints n ro) (boolsL n fo))) ∧ (ConN.pre (C13 (↑rw : Int) st n cw cv m cu n n (u hut).fl (u hut).br (↑(u hut).row : Int) (ints n wt) (ints n vt) (ints n ro) (boolsL n fo)) ⟨⟨[(.int .i64 rw), (.int .i64 st), (.int .i64 ((u hut).fl)), (.int .i64 ((u hut).br)), (.int .i64 ((↑(u hut).row : Int)))], [⟨n, cw⟩, ⟨n, cv⟩, ⟨m, cu⟩, ⟨n, n⟩, ⟨n, n⟩]⟩, [(ints n wt), (ints n vt)]⟩) ∧
((ConOK Tryd.prog ((14 : Nat)) (CS1 (↑rw : Int) st n cw cv m cu tb (spL n w) (spL n v) (huL m u) (↑hut : Int) (Value.tuple { toList := [I (↑x : Int), I (↑y : Int), I (0 : Int)] }))) ∧ (Con.pre (CS1 (↑rw : Int) st n cw cv m cu tb (spL n w) (spL n v) (huL m u) (↑hut : Int) (Value.tuple { toList := [I (↑x : Int), I (↑y : Int), I (0 : Int)] })) ⟨⟨[(.int .i64 rw), (.int .i64 st), (.int .i64 hut)], [⟨n, cw⟩, ⟨n, cv⟩, ⟨m, cu⟩]⟩, [(tb), (spL n w), (spL n v), (huL m u)]⟩) ∧
((ConOK Tryd.prog ((15 : Nat)) (CS1 (↑rw : Int) st n cw cv m cu tb (spL n w) (spL n v) (huL m u) (↑hut : Int) (Value.tuple { toList := [I l, I (0 : Int)] }))) ∧ (Con.pre (CS1 (↑rw : Int) st n cw cv m cu tb (spL n w) (spL n v) (huL m u) (↑hut : Int) (Value.tuple { toList := [I l, I (0 : Int)] })) ⟨⟨[(.int .i64 rw), (.int .i64 st), (.int .i64 hut)], [⟨n, cw⟩, ⟨n, cv⟩, ⟨m, cu⟩]⟩, [(tb), (spL n w), (spL n v), (huL m u)]⟩) ∧
((ConOK Tryd.prog ((16 : Nat)) (CS1 (↑rw : Int) st n cw cv m cu tb (spL n w) (spL n v) (huL m u) (↑hut : Int) (Value.tuple { toList := [I (↑fi : Int), I (0 : Int)] }))) ∧ (Con.pre (CS1 (↑rw : Int) st n cw cv m cu tb (spL n w) (spL n v) (huL m u) (↑hut : Int) (Value.tuple { toList := [I (↑fi : Int), I (0 : Int)] })) ⟨⟨[(.int .i64 rw), (.int .i64 st), (.int .i64 hut)], [⟨n, cw⟩, ⟨n, cv⟩, ⟨m, cu⟩]⟩, [(tb), (spL n w), (spL n v), (huL m u)]⟩) ∧
((((some (.bool (bits BinOp.andNot IntKind.i64 (↑x : Int) (↑y : Int) != (0 : Int))) : Option Value) = some (.bool false))) ∧
((((((0 : Int) ≤ (↑n : Int))) ∧ (((↑n : Int) ≤ (↑(64 : Nat) : Int)))) ∧ (((.int .i64 ((↑y : Int) / (2 : Int) ^ n)) : Value) = (.int .i64 ((↑y : Int) / (2 : Int) ^ n)))) ∧
((((some (.bool ((↑y : Int) / (2 : Int) ^ n != (0 : Int))) : Option Value) = some (.bool false))) ∧
((((some (.bool ((↑y : Int) != (0 : Int))) : Option Value) = some (.bool true))) ∧
((ClW ⟨⟨[(.int .i64 hut), (.int .i64 x), (.int .i64 y), (.int .i64 l), (.int .i64 fi), (.int .i64 0), (.bool false), (.int .i64 n), (.int .i64 0), (.int .i64 rw), (.int .i64 st)], [⟨n, n⟩, ⟨n, n⟩, ⟨n, n⟩, ⟨n, cw⟩, ⟨n, cv⟩, ⟨m, cu⟩]⟩, [(tb), (spL n w), (spL n v), (huL m u), (ints n wt), (ints n ro), (boolsL n fo)], []⟩) ∧ (LoopOW Tryd.prog .none p3o (T3a) ⟨⟨[(.int .i64 hut), (.int .i64 x), (.int .i64 y), (.int .i64 l), (.int .i64 fi), (.int .i64 0), (.bool false), (.int .i64 n), (.int .i64 0), (.int .i64 rw), (.int .i64 st)], [⟨n, n⟩, ⟨n, n⟩, ⟨n, n⟩, ⟨n, cw⟩, ⟨n, cv⟩, ⟨m, cu⟩]⟩, [(tb), (spL n w), (spL n v), (huL m u), (ints n wt), (ints n ro), (boolsL n fo)], []⟩ (.exit ((0 : Nat))) (T3a) ⟨⟨[(.int .i64 hut), (.int .i64 x), (.int .i64 y), (.int .i64 l), (.int .i64 fi), (.int .i64 0), (.bool true), (.int .i64 n), (.int .i64 n), (.int .i64 rw), (.int .i64 st)], [⟨n, n⟩, ⟨n, n⟩, ⟨n, n⟩, ⟨n, cw⟩, ⟨n, cv⟩, ⟨m, cu⟩]⟩, [(tb), (spL n w), (spL n v), (huL m u), (ints n wt), (ints n ro), (boolsL n fo)], []⟩) ∧
(((l != (2 : Int)) = true → ((((some (.bool (l != (0 : Int))) : Option Value) = some (.bool true))) ∧
((ConOK Tryd.prog ((11 : Nat)) (C11t tb)) ∧ (Con.pre (C11t tb) ⟨⟨[], []⟩, [(tb)]⟩) ∧
R (.ret (.bool true))))) ∧
((l != (2 : Int)) = false → ((((some (.bool (l != (0 : Int))) : Option Value) = some (.bool true))) ∧
((ConOK Tryd.prog ((11 : Nat)) (C11t tb)) ∧ (Con.pre (C11t tb) ⟨⟨[], []⟩, [(tb)]⟩) ∧
R (.ret (.bool true)))))))))))))))))))))))) := by kernel_rfl
theorem f30f (rw : Nat) (st wh l : Int) (n cw cv m cu k d hut x y fi : Nat) (w v : Nat → Sp) (u : Nat → Hut) (bs wt vt ro : Nat → Int) (fo : Nat → Bool) (tb : List Value) (R : ARes → Prop) : (vx.call 3 [suV rw st n cw cv m cu, slV 5 k d, .int .u8 wh] (retK R) (mL3 tb (spL n w) (spL n v) (huL m u) (u16L k bs)) ([(21, .split ((9, Hint.con (C11t tb)) :: []) ((4, Hint.con (C20 (↑rw : Int) st n cw n cv m cu (spL n w) (spL n v) (huL m u) true)) :: (7, .val (.bool false)) :: (7, .val (.int .i64 hut)) :: (3, Hint.conN (C12 (↑rw : Int) st n cw cv m cu k d (spL n w) (spL n v) (u16L k bs) (ints n wt) (ints n vt))) :: (9, .val (.pointer (.some ⟨((4 : Nat)), ((0 : Nat) + hut * (3 : Nat)), .none⟩))) :: (0, .val (.agg ⟨[(.int .i64 ((u hut).fl)), (.int .i64 ((u hut).br)), (.int .i64 ((↑(u hut).row : Int)))]⟩)) :: (2, Hint.conN (C13 (↑rw : Int) st n cw cv m cu n n (u hut).fl (u hut).br (↑(u hut).row : Int) (ints n wt) (ints n vt) (ints n ro) (boolsL n fo))) :: (7, Hint.con (CS1 (↑rw : Int) st n cw cv m cu tb (spL n w) (spL n v) (huL m u) (↑hut : Int) (Value.tuple { toList := [I (↑x : Int), I (↑y : Int), I (0 : Int)] }))) :: (9, Hint.con (CS1 (↑rw : Int) st n cw cv m cu tb (spL n w) (spL n v) (huL m u) (↑hut : Int) (Value.tuple { toList := [I l, I (0 : Int)] }))) :: (7, Hint.con (CS1 (↑rw : Int) st n cw cv m cu tb (spL n w) (spL n v) (huL m u) (↑hut : Int) (Value.tuple { toList := [I (↑fi : Int), I (0 : Int)] }))) :: (15, .val (.bool false)) :: (5, .val (.int .i64 ((↑y : Int) / (2 : Int) ^ n))) :: (0, .val (.bool false)) :: (5, .val (.bool true)) :: (13, Hint.loopW T3a (AExit.exit (0 : Nat)) T3a fun x_1 => h3a (↑rw : Int) st n cw cv m cu hut x y fi l (0 : Int) tb (spL n w) (spL n v) (huL m u) wt ro fo false n) :: (1, .val (.bool true)) :: [(4, .split ((4, Hint.con (C11t tb)) :: []) ((6, Hint.con (C11t tb)) :: []))]))])) =
((((decide ((if (↑m : Int) > if (↑n : Int) > (↑n : Int) then (↑n : Int) else (↑n : Int) then (↑m : Int) else if (↑n : Int) > (↑n : Int) then (↑n : Int) else (↑n : Int)) > (40 : Int))) = true → ((ConOK Tryd.prog ((11 : Nat)) (C11t tb)) ∧ (Con.pre (C11t tb) ⟨⟨[], []⟩, [(tb)]⟩) ∧
R (.ret (.bool true)))) ∧
((decide ((if (↑m : Int) > if (↑n : Int) > (↑n : Int) then (↑n : Int) else (↑n : Int) then (↑m : Int) else if (↑n : Int) > (↑n : Int) then (↑n : Int) else (↑n : Int)) > (40 : Int))) = false → ((ConOK Tryd.prog ((20 : Nat)) (C20 (↑rw : Int) st n cw n cv m cu (spL n w) (spL n v) (huL m u) true)) ∧ (Con.pre (C20 (↑rw : Int) st n cw n cv m cu (spL n w) (spL n v) (huL m u) true) ⟨⟨[(.int .i64 rw), (.int .i64 st)], [⟨n, cw⟩, ⟨n, cv⟩, ⟨m, cu⟩]⟩, [(spL n w), (spL n v), (huL m u)]⟩) ∧
((((some (.bool ((↑m : Int) == (0 : Int))) : Option Value) = some (.bool false))) ∧
((((((↑m : Int) ≠ (0 : Int))) ∧ ((IntKind.i64 = IntKind.i64))) ∧ (((.int .i64 hut) : Value) = (.int .i64 ((IntKind.i64.wrap wh).tmod (↑m : Int))))) ∧
((ConNOK Tryd.prog ((12 : Nat)) (C12 (↑rw : Int) st n cw cv m cu k d (spL n w) (spL n v) (u16L k bs) (ints n wt) (ints n vt))) ∧ (ConN.pre (C12 (↑rw : Int) st n cw cv m cu k d (spL n w) (spL n v) (u16L k bs) (ints n wt) (ints n vt)) ⟨⟨[(.int .i64 rw), (.int .i64 st)], [⟨n, cw⟩, ⟨n, cv⟩, ⟨m, cu⟩, ⟨k, d⟩]⟩, [(spL n w), (spL n v), (u16L k bs)]⟩) ∧
((((((0 : Int) ≤ (↑hut : Int))) ∧ (((↑hut : Int) < (↑m : Int)))) ∧ (((.pointer (.some ⟨((4 : Nat)), ((0 : Nat) + hut * (3 : Nat)), .none⟩)) : Value) = (.pointer (.some ⟨((4 : Nat)), ((0 : Nat) + hut * (3 : Nat)), .none⟩)))) ∧
(((((0 : Nat) + hut * (3 : Nat) + (3 : Nat) ≤ (huL m u).length)) ∧ (((.agg ⟨[(.int .i64 ((u hut).fl)), (.int .i64 ((u hut).br)), (.int .i64 ((↑(u hut).row : Int)))]⟩) : Value) = (.agg ⟨(List.take ((3 : Nat)) (List.drop ((0 : Nat) + hut * (3 : Nat)) (huL m u)))⟩))) ∧
((ConNOK Tryd.prog ((13 : Nat)) (C13 (↑rw : Int) st n cw cv m cu n n (u hut).fl (u hut).br (↑(u hut).row : Int) (ints n wt) (ints n vt) (ints n ro) (boolsL n fo))) ∧ (ConN.pre (C13 (↑rw : Int) st n cw cv m cu n n (u hut).fl (u hut).br (↑(u hut).row : Int) (ints n wt) (ints n vt) (ints n ro) (boolsL n fo)) ⟨⟨[(.int .i64 rw), (.int .i64 st), (.int .i64 ((u hut).fl)), (.int .i64 ((u hut).br)), (.int .i64 ((↑(u hut).row : Int)))], [⟨n, cw⟩, ⟨n, cv⟩, ⟨m, cu⟩, ⟨n, n⟩, ⟨n, n⟩]⟩, [(ints n wt), (ints n vt)]⟩) ∧
((ConOK Tryd.prog ((14 : Nat)) (CS1 (↑rw : Int) st n cw cv m cu tb (spL n w) (spL n v) (huL m u) (↑hut : Int) (Value.tuple { toList := [I (↑x : Int), I (↑y : Int), I (0 : Int)] }))) ∧ (Con.pre (CS1 (↑rw : Int) st n cw cv m cu tb (spL n w) (spL n v) (huL m u) (↑hut : Int) (Value.tuple { toList := [I (↑x : Int), I (↑y : Int), I (0 : Int)] })) ⟨⟨[(.int .i64 rw), (.int .i64 st), (.int .i64 hut)], [⟨n, cw⟩, ⟨n, cv⟩, ⟨m, cu⟩]⟩, [(tb), (spL n w), (spL n v), (huL m u)]⟩) ∧
((ConOK Tryd.prog ((15 : Nat)) (CS1 (↑rw : Int) st n cw cv m cu tb (spL n w) (spL n v) (huL m u) (↑hut : Int) (Value.tuple { toList := [I l, I (0 : Int)] }))) ∧ (Con.pre (CS1 (↑rw : Int) st n cw cv m cu tb (spL n w) (spL n v) (huL m u) (↑hut : Int) (Value.tuple { toList := [I l, I (0 : Int)] })) ⟨⟨[(.int .i64 rw), (.int .i64 st), (.int .i64 hut)], [⟨n, cw⟩, ⟨n, cv⟩, ⟨m, cu⟩]⟩, [(tb), (spL n w), (spL n v), (huL m u)]⟩) ∧
((ConOK Tryd.prog ((16 : Nat)) (CS1 (↑rw : Int) st n cw cv m cu tb (spL n w) (spL n v) (huL m u) (↑hut : Int) (Value.tuple { toList := [I (↑fi : Int), I (0 : Int)] }))) ∧ (Con.pre (CS1 (↑rw : Int) st n cw cv m cu tb (spL n w) (spL n v) (huL m u) (↑hut : Int) (Value.tuple { toList := [I (↑fi : Int), I (0 : Int)] })) ⟨⟨[(.int .i64 rw), (.int .i64 st), (.int .i64 hut)], [⟨n, cw⟩, ⟨n, cv⟩, ⟨m, cu⟩]⟩, [(tb), (spL n w), (spL n v), (huL m u)]⟩) ∧
((((some (.bool (bits BinOp.andNot IntKind.i64 (↑x : Int) (↑y : Int) != (0 : Int))) : Option Value) = some (.bool false))) ∧
((((((0 : Int) ≤ (↑n : Int))) ∧ (((↑n : Int) ≤ (↑(64 : Nat) : Int)))) ∧ (((.int .i64 ((↑y : Int) / (2 : Int) ^ n)) : Value) = (.int .i64 ((↑y : Int) / (2 : Int) ^ n)))) ∧
((((some (.bool ((↑y : Int) / (2 : Int) ^ n != (0 : Int))) : Option Value) = some (.bool false))) ∧
((((some (.bool ((↑y : Int) != (0 : Int))) : Option Value) = some (.bool true))) ∧
((ClW ⟨⟨[(.int .i64 hut), (.int .i64 x), (.int .i64 y), (.int .i64 l), (.int .i64 fi), (.int .i64 0), (.bool false), (.int .i64 n), (.int .i64 0), (.int .i64 rw), (.int .i64 st)], [⟨n, n⟩, ⟨n, n⟩, ⟨n, n⟩, ⟨n, cw⟩, ⟨n, cv⟩, ⟨m, cu⟩]⟩, [(tb), (spL n w), (spL n v), (huL m u), (ints n wt), (ints n ro), (boolsL n fo)], []⟩) ∧ (LoopOW Tryd.prog .none p3o (T3a) ⟨⟨[(.int .i64 hut), (.int .i64 x), (.int .i64 y), (.int .i64 l), (.int .i64 fi), (.int .i64 0), (.bool false), (.int .i64 n), (.int .i64 0), (.int .i64 rw), (.int .i64 st)], [⟨n, n⟩, ⟨n, n⟩, ⟨n, n⟩, ⟨n, cw⟩, ⟨n, cv⟩, ⟨m, cu⟩]⟩, [(tb), (spL n w), (spL n v), (huL m u), (ints n wt), (ints n ro), (boolsL n fo)], []⟩ (.exit ((0 : Nat))) (T3a) ⟨⟨[(.int .i64 hut), (.int .i64 x), (.int .i64 y), (.int .i64 l), (.int .i64 fi), (.int .i64 0), (.bool false), (.int .i64 n), (.int .i64 n), (.int .i64 rw), (.int .i64 st)], [⟨n, n⟩, ⟨n, n⟩, ⟨n, n⟩, ⟨n, cw⟩, ⟨n, cv⟩, ⟨m, cu⟩]⟩, [(tb), (spL n w), (spL n v), (huL m u), (ints n wt), (ints n ro), (boolsL n fo)], []⟩) ∧
((((some (.bool (l != (2 : Int))) : Option Value) = some (.bool true))) ∧
(((l != (0 : Int)) = true → ((ConOK Tryd.prog ((11 : Nat)) (C11t tb)) ∧ (Con.pre (C11t tb) ⟨⟨[], []⟩, [(tb)]⟩) ∧
R (.ret (.bool true)))) ∧
((l != (0 : Int)) = false → ((ConOK Tryd.prog ((11 : Nat)) (C11t tb)) ∧ (Con.pre (C11t tb) ⟨⟨[], []⟩, [(tb)]⟩) ∧
R (.ret (.bool true)))))))))))))))))))))))) := by kernel_rfl
theorem f34t (rw : Nat) (st wh l : Int) (n cw cv m cu k d hut x y fi : Nat) (w v : Nat → Sp) (u : Nat → Hut) (bs wt vt ro : Nat → Int) (fo : Nat → Bool) (tb : List Value) (R : ARes → Prop) : (vx.call 3 [suV rw st n cw cv m cu, slV 5 k d, .int .u8 wh] (retK R) (mL3 tb (spL n w) (spL n v) (huL m u) (u16L k bs)) ([(21, .split ((9, Hint.con (C11t tb)) :: []) ((4, Hint.con (C20 (↑rw : Int) st n cw n cv m cu (spL n w) (spL n v) (huL m u) true)) :: (7, .val (.bool false)) :: (7, .val (.int .i64 hut)) :: (3, Hint.conN (C12 (↑rw : Int) st n cw cv m cu k d (spL n w) (spL n v) (u16L k bs) (ints n wt) (ints n vt))) :: (9, .val (.pointer (.some ⟨((4 : Nat)), ((0 : Nat) + hut * (3 : Nat)), .none⟩))) :: (0, .val (.agg ⟨[(.int .i64 ((u hut).fl)), (.int .i64 ((u hut).br)), (.int .i64 ((↑(u hut).row : Int)))]⟩)) :: (2, Hint.conN (C13 (↑rw : Int) st n cw cv m cu n n (u hut).fl (u hut).br (↑(u hut).row : Int) (ints n wt) (ints n vt) (ints n ro) (boolsL n fo))) :: (7, Hint.con (CS1 (↑rw : Int) st n cw cv m cu tb (spL n w) (spL n v) (huL m u) (↑hut : Int) (Value.tuple { toList := [I (↑x : Int), I (↑y : Int), I (0 : Int)] }))) :: (9, Hint.con (CS1 (↑rw : Int) st n cw cv m cu tb (spL n w) (spL n v) (huL m u) (↑hut : Int) (Value.tuple { toList := [I l, I (0 : Int)] }))) :: (7, Hint.con (CS1 (↑rw : Int) st n cw cv m cu tb (spL n w) (spL n v) (huL m u) (↑hut : Int) (Value.tuple { toList := [I (↑fi : Int), I (4 : Int)] }))) :: (15, .val (.bool false)) :: (5, .val (.int .i64 ((↑y : Int) / (2 : Int) ^ n))) :: (0, .val (.bool false)) :: (5, .val (.bool false)) :: (10, .val (.bool false)) :: (8, Hint.loopW T3a (AExit.exit (0 : Nat)) T3a fun x_1 => h3a (↑rw : Int) st n cw cv m cu hut x y fi l (4 : Int) tb (spL n w) (spL n v) (huL m u) wt ro fo true n) :: [(1, .split ((4, .val (.bool true)) :: (4, Hint.con (C11t tb)) :: []) ((5, .val (.bool true)) :: (4, Hint.con (C11t tb)) :: []))]))])) =
((((decide ((if (↑m : Int) > if (↑n : Int) > (↑n : Int) then (↑n : Int) else (↑n : Int) then (↑m : Int) else if (↑n : Int) > (↑n : Int) then (↑n : Int) else (↑n : Int)) > (40 : Int))) = true → ((ConOK Tryd.prog ((11 : Nat)) (C11t tb)) ∧ (Con.pre (C11t tb) ⟨⟨[], []⟩, [(tb)]⟩) ∧
R (.ret (.bool true)))) ∧
((decide ((if (↑m : Int) > if (↑n : Int) > (↑n : Int) then (↑n : Int) else (↑n : Int) then (↑m : Int) else if (↑n : Int) > (↑n : Int) then (↑n : Int) else (↑n : Int)) > (40 : Int))) = false → ((ConOK Tryd.prog ((20 : Nat)) (C20 (↑rw : Int) st n cw n cv m cu (spL n w) (spL n v) (huL m u) true)) ∧ (Con.pre (C20 (↑rw : Int) st n cw n cv m cu (spL n w) (spL n v) (huL m u) true) ⟨⟨[(.int .i64 rw), (.int .i64 st)], [⟨n, cw⟩, ⟨n, cv⟩, ⟨m, cu⟩]⟩, [(spL n w), (spL n v), (huL m u)]⟩) ∧
((((some (.bool ((↑m : Int) == (0 : Int))) : Option Value) = some (.bool false))) ∧
((((((↑m : Int) ≠ (0 : Int))) ∧ ((IntKind.i64 = IntKind.i64))) ∧ (((.int .i64 hut) : Value) = (.int .i64 ((IntKind.i64.wrap wh).tmod (↑m : Int))))) ∧
((ConNOK Tryd.prog ((12 : Nat)) (C12 (↑rw : Int) st n cw cv m cu k d (spL n w) (spL n v) (u16L k bs) (ints n wt) (ints n vt))) ∧ (ConN.pre (C12 (↑rw : Int) st n cw cv m cu k d (spL n w) (spL n v) (u16L k bs) (ints n wt) (ints n vt)) ⟨⟨[(.int .i64 rw), (.int .i64 st)], [⟨n, cw⟩, ⟨n, cv⟩, ⟨m, cu⟩, ⟨k, d⟩]⟩, [(spL n w), (spL n v), (u16L k bs)]⟩) ∧
((((((0 : Int) ≤ (↑hut : Int))) ∧ (((↑hut : Int) < (↑m : Int)))) ∧ (((.pointer (.some ⟨((4 : Nat)), ((0 : Nat) + hut * (3 : Nat)), .none⟩)) : Value) = (.pointer (.some ⟨((4 : Nat)), ((0 : Nat) + hut * (3 : Nat)), .none⟩)))) ∧
(((((0 : Nat) + hut * (3 : Nat) + (3 : Nat) ≤ (huL m u).length)) ∧ (((.agg ⟨[(.int .i64 ((u hut).fl)), (.int .i64 ((u hut).br)), (.int .i64 ((↑(u hut).row : Int)))]⟩) : Value) = (.agg ⟨(List.take ((3 : Nat)) (List.drop ((0 : Nat) + hut * (3 : Nat)) (huL m u)))⟩))) ∧
((ConNOK Tryd.prog ((13 : Nat)) (C13 (↑rw : Int) st n cw cv m cu n n (u hut).fl (u hut).br (↑(u hut).row : Int) (ints n wt) (ints n vt) (ints n ro) (boolsL n fo))) ∧ (ConN.pre (C13 (↑rw : Int) st n cw cv m cu n n (u hut).fl (u hut).br (↑(u hut).row : Int) (ints n wt) (ints n vt) (ints n ro) (boolsL n fo)) ⟨⟨[(.int .i64 rw), (.int .i64 st), (.int .i64 ((u hut).fl)), (.int .i64 ((u hut).br)), (.int .i64 ((↑(u hut).row : Int)))], [⟨n, cw⟩, ⟨n, cv⟩, ⟨m, cu⟩, ⟨n, n⟩, ⟨n, n⟩]⟩, [(ints n wt), (ints n vt)]⟩) ∧
((ConOK Tryd.prog ((14 : Nat)) (CS1 (↑rw : Int) st n cw cv m cu tb (spL n w) (spL n v) (huL m u) (↑hut : Int) (Value.tuple { toList := [I (↑x : Int), I (↑y : Int), I (0 : Int)] }))) ∧ (Con.pre (CS1 (↑rw : Int) st n cw cv m cu tb (spL n w) (spL n v) (huL m u) (↑hut : Int) (Value.tuple { toList := [I (↑x : Int), I (↑y : Int), I (0 : Int)] })) ⟨⟨[(.int .i64 rw), (.int .i64 st), (.int .i64 hut)], [⟨n, cw⟩, ⟨n, cv⟩, ⟨m, cu⟩]⟩, [(tb), (spL n w), (spL n v), (huL m u)]⟩) ∧
((ConOK Tryd.prog ((15 : Nat)) (CS1 (↑rw : Int) st n cw cv m cu tb (spL n w) (spL n v) (huL m u) (↑hut : Int) (Value.tuple { toList := [I l, I (0 : Int)] }))) ∧ (Con.pre (CS1 (↑rw : Int) st n cw cv m cu tb (spL n w) (spL n v) (huL m u) (↑hut : Int) (Value.tuple { toList := [I l, I (0 : Int)] })) ⟨⟨[(.int .i64 rw), (.int .i64 st), (.int .i64 hut)], [⟨n, cw⟩, ⟨n, cv⟩, ⟨m, cu⟩]⟩, [(tb), (spL n w), (spL n v), (huL m u)]⟩) ∧
((ConOK Tryd.prog ((16 : Nat)) (CS1 (↑rw : Int) st n cw cv m cu tb (spL n w) (spL n v) (huL m u) (↑hut : Int) (Value.tuple { toList := [I (↑fi : Int), I (4 : Int)] }))) ∧ (Con.pre (CS1 (↑rw : Int) st n cw cv m cu tb (spL n w) (spL n v) (huL m u) (↑hut : Int) (Value.tuple { toList := [I (↑fi : Int), I (4 : Int)] })) ⟨⟨[(.int .i64 rw), (.int .i64 st), (.int .i64 hut)], [⟨n, cw⟩, ⟨n, cv⟩, ⟨m, cu⟩]⟩, [(tb), (spL n w), (spL n v), (huL m u)]⟩) ∧
((((some (.bool (bits BinOp.andNot IntKind.i64 (↑x : Int) (↑y : Int) != (0 : Int))) : Option Value) = some (.bool false))) ∧
((((((0 : Int) ≤ (↑n : Int))) ∧ (((↑n : Int) ≤ (↑(64 : Nat) : Int)))) ∧ (((.int .i64 ((↑y : Int) / (2 : Int) ^ n)) : Value) = (.int .i64 ((↑y : Int) / (2 : Int) ^ n)))) ∧
((((some (.bool ((↑y : Int) / (2 : Int) ^ n != (0 : Int))) : Option Value) = some (.bool false))) ∧
((((some (.bool ((↑y : Int) != (0 : Int))) : Option Value) = some (.bool false))) ∧
((((some (.bool ((↑fi : Int) != (0 : Int))) : Option Value) = some (.bool false))) ∧
((ClW ⟨⟨[(.int .i64 hut), (.int .i64 x), (.int .i64 y), (.int .i64 l), (.int .i64 fi), (.int .i64 4), (.bool false), (.int .i64 n), (.int .i64 0), (.int .i64 rw), (.int .i64 st)], [⟨n, n⟩, ⟨n, n⟩, ⟨n, n⟩, ⟨n, cw⟩, ⟨n, cv⟩, ⟨m, cu⟩]⟩, [(tb), (spL n w), (spL n v), (huL m u), (ints n wt), (ints n ro), (boolsL n fo)], []⟩) ∧ (LoopOW Tryd.prog .none p3o (T3a) ⟨⟨[(.int .i64 hut), (.int .i64 x), (.int .i64 y), (.int .i64 l), (.int .i64 fi), (.int .i64 4), (.bool false), (.int .i64 n), (.int .i64 0), (.int .i64 rw), (.int .i64 st)], [⟨n, n⟩, ⟨n, n⟩, ⟨n, n⟩, ⟨n, cw⟩, ⟨n, cv⟩, ⟨m, cu⟩]⟩, [(tb), (spL n w), (spL n v), (huL m u), (ints n wt), (ints n ro), (boolsL n fo)], []⟩ (.exit ((0 : Nat))) (T3a) ⟨⟨[(.int .i64 hut), (.int .i64 x), (.int .i64 y), (.int .i64 l), (.int .i64 fi), (.int .i64 4), (.bool true), (.int .i64 n), (.int .i64 n), (.int .i64 rw), (.int .i64 st)], [⟨n, n⟩, ⟨n, n⟩, ⟨n, n⟩, ⟨n, cw⟩, ⟨n, cv⟩, ⟨m, cu⟩]⟩, [(tb), (spL n w), (spL n v), (huL m u), (ints n wt), (ints n ro), (boolsL n fo)], []⟩) ∧
(((l != (2 : Int)) = true → ((((some (.bool (l != (0 : Int))) : Option Value) = some (.bool true))) ∧
((ConOK Tryd.prog ((11 : Nat)) (C11t tb)) ∧ (Con.pre (C11t tb) ⟨⟨[], []⟩, [(tb)]⟩) ∧
R (.ret (.bool true))))) ∧
((l != (2 : Int)) = false → ((((some (.bool (l != (0 : Int))) : Option Value) = some (.bool true))) ∧
((ConOK Tryd.prog ((11 : Nat)) (C11t tb)) ∧ (Con.pre (C11t tb) ⟨⟨[], []⟩, [(tb)]⟩) ∧
R (.ret (.bool true))))))))))))))))))))))))) := by kernel_rfl
theorem f34f (rw : Nat) (st wh l : Int) (n cw cv m cu k d hut x y fi : Nat) (w v : Nat → Sp) (u : Nat → Hut) (bs wt vt ro : Nat → Int) (fo : Nat → Bool) (tb : List Value) (R : ARes → Prop) : (vx.call 3 [suV rw st n cw cv m cu, slV 5 k d, .int .u8 wh] (retK R) (mL3 tb (spL n w) (spL n v) (huL m u) (u16L k bs)) ([(21, .split ((9, Hint.con (C11t tb)) :: []) ((4, Hint.con (C20 (↑rw : Int) st n cw n cv m cu (spL n w) (spL n v) (huL m u) true)) :: (7, .val (.bool false)) :: (7, .val (.int .i64 hut)) :: (3, Hint.conN (C12 (↑rw : Int) st n cw cv m cu k d (spL n w) (spL n v) (u16L k bs) (ints n wt) (ints n vt))) :: (9, .val (.pointer (.some ⟨((4 : Nat)), ((0 : Nat) + hut * (3 : Nat)), .none⟩))) :: (0, .val (.agg ⟨[(.int .i64 ((u hut).fl)), (.int .i64 ((u hut).br)), (.int .i64 ((↑(u hut).row : Int)))]⟩)) :: (2, Hint.conN (C13 (↑rw : Int) st n cw cv m cu n n (u hut).fl (u hut).br (↑(u hut).row : Int) (ints n wt) (ints n vt) (ints n ro) (boolsL n fo))) :: (7, Hint.con (CS1 (↑rw : Int) st n cw cv m cu tb (spL n w) (spL n v) (huL m u) (↑hut : Int) (Value.tuple { toList := [I (↑x : Int), I (↑y : Int), I (0 : Int)] }))) :: (9, Hint.con (CS1 (↑rw : Int) st n cw cv m cu tb (spL n w) (spL n v) (huL m u) (↑hut : Int) (Value.tuple { toList := [I l, I (0 : Int)] }))) :: (7, Hint.con (CS1 (↑rw : Int) st n cw cv m cu tb (spL n w) (spL n v) (huL m u) (↑hut : Int) (Value.tuple { toList := [I (↑fi : Int), I (4 : Int)] }))) :: (15, .val (.bool false)) :: (5, .val (.int .i64 ((↑y : Int) / (2 : Int) ^ n))) :: (0, .val (.bool false)) :: (5, .val (.bool false)) :: (10, .val (.bool false)) :: (8, Hint.loopW T3a (AExit.exit (0 : Nat)) T3a fun x_1 => h3a (↑rw : Int) st n cw cv m cu hut x y fi l (4 : Int) tb (spL n w) (spL n v) (huL m u) wt ro fo false n) :: (1, .val (.bool true)) :: [(4, .split ((4, Hint.con (C11t tb)) :: []) ((6, Hint.con (C11t tb)) :: []))]))])) =
((((decide ((if (↑m : Int) > if (↑n : Int) > (↑n : Int) then (↑n : Int) else (↑n : Int) then (↑m : Int) else if (↑n : Int) > (↑n : Int) then (↑n : Int) else (↑n : Int)) > (40 : Int))) = true → ((ConOK Tryd.prog ((11 : Nat)) (C11t tb)) ∧ (Con.pre (C11t tb) ⟨⟨[], []⟩, [(tb)]⟩) ∧
R (.ret (.bool true)))) ∧
((decide ((if (↑m : Int) > if (↑n : Int) > (↑n : Int) then (↑n : Int) else (↑n : Int) then (↑m : Int) else if (↑n : Int) > (↑n : Int) then (↑n : Int) else (↑n : Int)) > (40 : Int))) = false → ((ConOK Tryd.prog ((20 : Nat)) (C20 (↑rw : Int) st n cw n cv m cu (spL n w) (spL n v) (huL m u) true)) ∧ (Con.pre (C20 (↑rw : Int) st n cw n cv m cu (spL n w) (spL n v) (huL m u) true) ⟨⟨[(.int .i64 rw), (.int .i64 st)], [⟨n, cw⟩, ⟨n, cv⟩, ⟨m, cu⟩]⟩, [(spL n w), (spL n v), (huL m u)]⟩) ∧
((((some (.bool ((↑m : Int) == (0 : Int))) : Option Value) = some (.bool false))) ∧
((((((↑m : Int) ≠ (0 : Int))) ∧ ((IntKind.i64 = IntKind.i64))) ∧ (((.int .i64 hut) : Value) = (.int .i64 ((IntKind.i64.wrap wh).tmod (↑m : Int))))) ∧
((ConNOK Tryd.prog ((12 : Nat)) (C12 (↑rw : Int) st n cw cv m cu k d (spL n w) (spL n v) (u16L k bs) (ints n wt) (ints n vt))) ∧ (ConN.pre (C12 (↑rw : Int) st n cw cv m cu k d (spL n w) (spL n v) (u16L k bs) (ints n wt) (ints n vt)) ⟨⟨[(.int .i64 rw), (.int .i64 st)], [⟨n, cw⟩, ⟨n, cv⟩, ⟨m, cu⟩, ⟨k, d⟩]⟩, [(spL n w), (spL n v), (u16L k bs)]⟩) ∧
((((((0 : Int) ≤ (↑hut : Int))) ∧ (((↑hut : Int) < (↑m : Int)))) ∧ (((.pointer (.some ⟨((4 : Nat)), ((0 : Nat) + hut * (3 : Nat)), .none⟩)) : Value) = (.pointer (.some ⟨((4 : Nat)), ((0 : Nat) + hut * (3 : Nat)), .none⟩)))) ∧
(((((0 : Nat) + hut * (3 : Nat) + (3 : Nat) ≤ (huL m u).length)) ∧ (((.agg ⟨[(.int .i64 ((u hut).fl)), (.int .i64 ((u hut).br)), (.int .i64 ((↑(u hut).row : Int)))]⟩) : Value) = (.agg ⟨(List.take ((3 : Nat)) (List.drop ((0 : Nat) + hut * (3 : Nat)) (huL m u)))⟩))) ∧
((ConNOK Tryd.prog ((13 : Nat)) (C13 (↑rw : Int) st n cw cv m cu n n (u hut).fl (u hut).br (↑(u hut).row : Int) (ints n wt) (ints n vt) (ints n ro) (boolsL n fo))) ∧ (ConN.pre (C13 (↑rw : Int) st n cw cv m cu n n (u hut).fl (u hut).br (↑(u hut).row : Int) (ints n wt) (ints n vt) (ints n ro) (boolsL n fo)) ⟨⟨[(.int .i64 rw), (.int .i64 st), (.int .i64 ((u hut).fl)), (.int .i64 ((u hut).br)), (.int .i64 ((↑(u hut).row : Int)))], [⟨n, cw⟩, ⟨n, cv⟩, ⟨m, cu⟩, ⟨n, n⟩, ⟨n, n⟩]⟩, [(ints n wt), (ints n vt)]⟩) ∧
((ConOK Tryd.prog ((14 : Nat)) (CS1 (↑rw : Int) st n cw cv m cu tb (spL n w) (spL n v) (huL m u) (↑hut : Int) (Value.tuple { toList := [I (↑x : Int), I (↑y : Int), I (0 : Int)] }))) ∧ (Con.pre (CS1 (↑rw : Int) st n cw cv m cu tb (spL n w) (spL n v) (huL m u) (↑hut : Int) (Value.tuple { toList := [I (↑x : Int), I (↑y : Int), I (0 : Int)] })) ⟨⟨[(.int .i64 rw), (.int .i64 st), (.int .i64 hut)], [⟨n, cw⟩, ⟨n, cv⟩, ⟨m, cu⟩]⟩, [(tb), (spL n w), (spL n v), (huL m u)]⟩) ∧
((ConOK Tryd.prog ((15 : Nat)) (CS1 (↑rw : Int) st n cw cv m cu tb (spL n w) (spL n v) (huL m u) (↑hut : Int) (Value.tuple { toList := [I l, I (0 : Int)] }))) ∧ (Con.pre (CS1 (↑rw : Int) st n cw cv m cu tb (spL n w) (spL n v) (huL m u) (↑hut : Int) (Value.tuple { toList := [I l, I (0 : Int)] })) ⟨⟨[(.int .i64 rw), (.int .i64 st), (.int .i64 hut)], [⟨n, cw⟩, ⟨n, cv⟩, ⟨m, cu⟩]⟩, [(tb), (spL n w), (spL n v), (huL m u)]⟩) ∧
((ConOK Tryd.prog ((16 : Nat)) (CS1 (↑rw : Int) st n cw cv m cu tb (spL n w) (spL n v) (huL m u) (↑hut : Int) (Value.tuple { toList := [I (↑fi : Int), I (4 : Int)] }))) ∧ (Con.pre (CS1 (↑rw : Int) st n cw cv m cu tb (spL n w) (spL n v) (huL m u) (↑hut : Int) (Value.tuple { toList := [I (↑fi : Int), I (4 : Int)] })) ⟨⟨[(.int .i64 rw), (.int .i64 st), (.int .i64 hut)], [⟨n, cw⟩, ⟨n, cv⟩, ⟨m, cu⟩]⟩, [(tb), (spL n w), (spL n v), (huL m u)]⟩) ∧
((((some (.bool (bits BinOp.andNot IntKind.i64 (↑x : Int) (↑y : Int) != (0 : Int))) : Option Value) = some (.bool false))) ∧
((((((0 : Int) ≤ (↑n : Int))) ∧ (((↑n : Int) ≤ (↑(64 : Nat) : Int)))) ∧ (((.int .i64 ((↑y : Int) / (2 : Int) ^ n)) : Value) = (.int .i64 ((↑y : Int) / (2 : Int) ^ n)))) ∧
((((some (.bool ((↑y : Int) / (2 : Int) ^ n != (0 : Int))) : Option Value) = some (.bool false))) ∧
((((some (.bool ((↑y : Int) != (0 : Int))) : Option Value) = some (.bool false))) ∧
((((some (.bool ((↑fi : Int) != (0 : Int))) : Option Value) = some (.bool false))) ∧
((ClW ⟨⟨[(.int .i64 hut), (.int .i64 x), (.int .i64 y), (.int .i64 l), (.int .i64 fi), (.int .i64 4), (.bool false), (.int .i64 n), (.int .i64 0), (.int .i64 rw), (.int .i64 st)], [⟨n, n⟩, ⟨n, n⟩, ⟨n, n⟩, ⟨n, cw⟩, ⟨n, cv⟩, ⟨m, cu⟩]⟩, [(tb), (spL n w), (spL n v), (huL m u), (ints n wt), (ints n ro), (boolsL n fo)], []⟩) ∧ (LoopOW Tryd.prog .none p3o (T3a) ⟨⟨[(.int .i64 hut), (.int .i64 x), (.int .i64 y), (.int .i64 l), (.int .i64 fi), (.int .i64 4), (.bool false), (.int .i64 n), (.int .i64 0), (.int .i64 rw), (.int .i64 st)], [⟨n, n⟩, ⟨n, n⟩, ⟨n, n⟩, ⟨n, cw⟩, ⟨n, cv⟩, ⟨m, cu⟩]⟩, [(tb), (spL n w), (spL n v), (huL m u), (ints n wt), (ints n ro), (boolsL n fo)], []⟩ (.exit ((0 : Nat))) (T3a) ⟨⟨[(.int .i64 hut), (.int .i64 x), (.int .i64 y), (.int .i64 l), (.int .i64 fi), (.int .i64 4), (.bool false), (.int .i64 n), (.int .i64 n), (.int .i64 rw), (.int .i64 st)], [⟨n, n⟩, ⟨n, n⟩, ⟨n, n⟩, ⟨n, cw⟩, ⟨n, cv⟩, ⟨m, cu⟩]⟩, [(tb), (spL n w), (spL n v), (huL m u), (ints n wt), (ints n ro), (boolsL n fo)], []⟩) ∧
((((some (.bool (l != (2 : Int))) : Option Value) = some (.bool true))) ∧
(((l != (0 : Int)) = true → ((ConOK Tryd.prog ((11 : Nat)) (C11t tb)) ∧ (Con.pre (C11t tb) ⟨⟨[], []⟩, [(tb)]⟩) ∧
R (.ret (.bool true)))) ∧
((l != (0 : Int)) = false → ((ConOK Tryd.prog ((11 : Nat)) (C11t tb)) ∧ (Con.pre (C11t tb) ⟨⟨[], []⟩, [(tb)]⟩) ∧
R (.ret (.bool true))))))))))))))))))))))))) := by kernel_rfl
def rwH (u : Nat → Hut) (i : Nat) : Raw := ⟨(u i).fl, (u i).br, (u i).row⟩
section
variable {rw : Nat} {st : Int} {n cw cv m cu k d j : Nat} {w v : Nat → Sp} {u : Nat → Hut} {bs : Nat → Int}
theorem okSu_of {rw st : Int} (hS : SOK rw st n w v) (hU : HUK rw m u) : okSu rw st n n m w v (rwH u) = true := by
  have h1 := hS.rw1
  have h2 := hS.rw6
  have h3 := hS.st0
  have h4 := hS.st4
  have h5 := hS.n8
  have h6 := hU.m5
  have e : IntKind.i64.wrap (rw - 1) = rw - 1 := wrapI (by omega) (by omega)
  have a1 : allF (hoB w v) n 0 = true := (allF_iff n 0).2 fun i _ hi => by
    obtain ⟨w0, w1, w2, w3⟩ := hS.w i (by omega)
    obtain ⟨v0, v1, v2, v3⟩ := hS.v i (by omega)
    have ew : IntKind.i64.wrap ((w i).hi - (w i).lo) = (w i).hi - (w i).lo := wrapI (by omega) (by omega)
    have ev : IntKind.i64.wrap ((v i).hi - (v i).lo) = (v i).hi - (v i).lo := wrapI (by omega) (by omega)
    simp only [hoB, spB, ew, ev, Bool.and_eq_true, decide_eq_true_eq]
    omega
  have a2 : allF (huB rw (rwH u)) m 0 = true := (allF_iff m 0).2 fun i _ hi => by
    obtain ⟨u0, u1, u2, u3, u4⟩ := hU.u i (by omega)
    simp only [huB, inB, rwH, e, Bool.and_eq_true, decide_eq_true_eq]
    exact ⟨⟨decide_eq_true (by omega), decide_eq_true (by omega)⟩, ⟨decide_eq_true (by omega), decide_eq_true (by omega)⟩, decide_eq_true (by omega), by omega⟩
  unfold okSu
  rw [a1, a2]
  simp only [inB, Bool.and_eq_true, decide_eq_true_eq, Bool.not_eq_true', decide_eq_false_iff_not, bne_self_eq_false]
  exact ⟨⟨h1, h2⟩, ⟨h3, h4⟩, by omega, trivial, by omega, trivial, trivial⟩
theorem C11t_ok : ConOK Tryd.prog 11 (C11t tabC) := C11_ok
theorem losN_true {c : Nat} (h : losN c = 2) : c = 64 := by
  unfold losN at h
  split at h
  · assumption
  · split at h <;> omega
theorem losN_false {c : Nat} (h : losN c = 0) : c.testBit 6 = false := by
  unfold losN at h
  split at h
  · omega
  · split at h
    · omega
    · rename_i h1; simpa using h1
theorem lne {a : Nat} {b : Nat} (h : a ≠ b) : (((a : Nat) : Int) != (b : Int)) = true := by
  simp only [bne_iff_ne, ne_eq]; omega
theorem leq {a : Nat} {b : Nat} (h : a = b) : (((a : Nat) : Int) != (b : Int)) = false := by subst h; simp
theorem law3_E (hS : SOK rw st n w v) (hU : HUK rw m u) (h0 : 0 < n) (hm : 0 < m) (hj : j < 256) (hb : ∀ i, i < k → 0 ≤ bs i ∧ bs i < 65536) :
    ∃ hs, vx.call 3 [suV rw st n cw cv m cu, slV 5 k d, .int .u8 j] (retK fun r => r = .ret (.bool true)) (mL3 tabC (spL n w) (spL n v) (huL m u) (u16L k bs)) hs := by
  have h8 := hS.n8
  have h5 := hU.m5
  have h6 := hS.rw6
  have hh : j % m < m := Nat.mod_lt _ hm
  obtain ⟨u0, u1, u2, u3, u4⟩ := hU.u (j % m) hh
  have hr6 : (u (j % m)).row < 6 := by omega
  have ht : TrOK w v n (trW w k bs) (trV v k bs) := fun i hi => by
    obtain ⟨w0, w1, w2, w3⟩ := hS.w i hi
    obtain ⟨v0, v1, v2, v3⟩ := hS.v i hi
    exact ⟨(drI_in w1 hb _).1, (drI_in w1 hb _).2, (drI_in v1 hb _).1, (drI_in v1 hb _).2⟩
  have hlt := perH_lt (st := st) (w := w) (v := v) h8 (u (j % m))
  have hlx := surH_lt (st := st) (w := w) (v := v) (x := u (j % m)) h8
  have hlt2 : perH st w v n (u (j % m)) < 2 ^ n := hrS_lt h8
  have c20 : ConOK Tryd.prog 20 (C20 rw st n cw n cv m cu (spL n w) (spL n v) (huL m u) true) := by
    have h := C20_ok (rw := rw) (st := st) (n := n) (cw := cw) (n2 := n) (cv := cv) (m := m) (cu := cu) (w := w) (v := v) (u := rwH u)
    rw [okSu_of hS hU] at h
    exact h
  have c12 := C12_ok (rw := rw) (st := st) (n := n) (cw := cw) (cv := cv) (m := m) (cu := cu) (k := k) (d := d) (w := w) (v := v) (bs := bs) hS hb h0
  have c13 := C13_ok (rw := rw) (st := st) (n := n) (cw := cw) (cv := cv) (m := m) (cu := cu) (a := n) (b := n) (fl := (u (j % m)).fl) (br := (u (j % m)).br) (row0 := (u (j % m)).row) (wt := trW w k bs) (vt := trV v k bs) h0 h8
  have c14 := C14_ok (cw := cw) (cv := cv) (cu := cu) hS hU hh
  have c15 := C15_ok (cw := cw) (cv := cv) (cu := cu) hS hU hh
  have c16 := C16_ok (cw := cw) (cv := cv) (cu := cu) hS hU hh
  have hwj : IntKind.i64.wrap ((j : Nat) : Int) = (j : Int) := wrapI (by omega) (by omega)
  have hmod : (Value.int .i64 ((j % m : Nat) : Int)) = .int .i64 ((IntKind.i64.wrap ((j : Nat) : Int)).tmod (m : Int)) := by rw [hwj]; rfl
  have hpart := huL_part u hh
  have hlen := huL_len m u
  have han := an_eq hlx hlt (surH_sub hr6 h8 ht)
  have hdv := div_pow hlt2
  have hm0 : ((m : Int) == (0 : Int)) = false := by simp only [beq_eq_false_iff_ne, ne_eq]; omega
  obtain ⟨n', rfl⟩ : ∃ n', n = n' + 1 := ⟨n - 1, by omega⟩
  obtain ⟨e1, e2, e3⟩ := course_true (rw := 0) (st := st) (fl := (u (j % m)).fl) (br := (u (j % m)).br) hr6 ht (n' + 1) (Nat.le_refl _)
  have e1 : (crH st w v (u (j % m)) (n' + 1)).testBit (rowN (roF st (u (j % m)) (trW w k bs) (trV v k bs) n')) = true := e1
  have e2 : -1 ≤ roF st (u (j % m)) (trW w k bs) (trV v k bs) n' := e2
  have e3 : roF st (u (j % m)) (trW w k bs) (trV v k bs) n' ≤ (u (j % m)).row := e3
  have hgo : ∀ b, decide (roF st (u (j % m)) (trW w k bs) (trV v k bs) n' < 0) = b → goF (roF st (u (j % m)) (trW w k bs) (trV v k bs)) (n' + 1) = b := fun b h => h
  by_cases hp : perH st w v (n' + 1) (u (j % m)) = 0
  · have hl := loop3a4 (cw := cw) (cv := cv) (cu := cu) hS hU hh ht hp
    rw [show befV (perH st w v (n' + 1) (u (j % m))) = .tuple ⟨[I 0, I 4]⟩ from if_pos hp] at c16
    by_cases hg : roF st (u (j % m)) (trW w k bs) (trV v k bs) n' < 0
    · have hrn : rowN (roF st (u (j % m)) (trW w k bs) (trV v k bs) n') = 6 := if_pos hg
      rw [hrn] at e1
      have hl0 : losN (crH st w v (u (j % m)) (n' + 1)) ≠ 0 := fun h => by rw [losN_false h] at e1; cases e1
      unfold s3 at hl
      rw [hgo true (decide_eq_true hg)] at hl
      refine ⟨_, (f34t rw st j (losN (crH st w v (u (j % m)) (n' + 1)) : Nat) (n' + 1) cw cv m cu k d (j % m) (surH st w v (n' + 1) (u (j % m))) (perH st w v (n' + 1) (u (j % m))) 0 w v u bs (trW w k bs) (trV v k bs) (roF st (u (j % m)) (trW w k bs) (trV v k bs)) (foF st (u (j % m)) (trW w k bs) (trV v k bs)) tabC _).mpr ⟨fun _ => ⟨C11t_ok, rfl, rfl⟩, fun _ => ⟨c20, rfl, tf hm0, ⟨⟨by omega, rfl⟩, hmod⟩, c12, rfl, ⟨⟨by omega, by omega⟩, rfl⟩, ⟨by rw [hlen]; omega, by rw [hpart]; rfl⟩, c13, rfl, c14, rfl, c15, rfl, c16, rfl, tf han, ⟨⟨by omega, by omega⟩, rfl⟩, tf hdv, tf (leq (b := 0) hp), tf rfl, clL3, hl, ?_⟩⟩⟩
      exact ⟨fun _ => ⟨tt (lne (b := 0) hl0), C11t_ok, rfl, rfl⟩, fun _ => ⟨tt (lne (b := 0) hl0), C11t_ok, rfl, rfl⟩⟩
    · have hrn : rowN (roF st (u (j % m)) (trW w k bs) (trV v k bs) n') = (roF st (u (j % m)) (trW w k bs) (trV v k bs) n').toNat := if_neg hg
      rw [hrn] at e1
      have hl2 : losN (crH st w v (u (j % m)) (n' + 1)) ≠ 2 := fun h => by
        rw [losN_true h, show (64 : Nat) = 2 ^ 6 from rfl, Nat.testBit_two_pow, decide_eq_false (by omega)] at e1
        cases e1
      unfold s3 at hl
      rw [hgo false (decide_eq_false hg)] at hl
      refine ⟨_, (f34f rw st j (losN (crH st w v (u (j % m)) (n' + 1)) : Nat) (n' + 1) cw cv m cu k d (j % m) (surH st w v (n' + 1) (u (j % m))) (perH st w v (n' + 1) (u (j % m))) 0 w v u bs (trW w k bs) (trV v k bs) (roF st (u (j % m)) (trW w k bs) (trV v k bs)) (foF st (u (j % m)) (trW w k bs) (trV v k bs)) tabC _).mpr ⟨fun _ => ⟨C11t_ok, rfl, rfl⟩, fun _ => ⟨c20, rfl, tf hm0, ⟨⟨by omega, rfl⟩, hmod⟩, c12, rfl, ⟨⟨by omega, by omega⟩, rfl⟩, ⟨by rw [hlen]; omega, by rw [hpart]; rfl⟩, c13, rfl, c14, rfl, c15, rfl, c16, rfl, tf han, ⟨⟨by omega, by omega⟩, rfl⟩, tf hdv, tf (leq (b := 0) hp), tf rfl, clL3, hl, tt (lne (b := 2) hl2), ?_⟩⟩⟩
      exact ⟨fun _ => ⟨C11t_ok, rfl, rfl⟩, fun _ => ⟨C11t_ok, rfl, rfl⟩⟩
  · have hl := loop3a0 (cw := cw) (cv := cv) (cu := cu) hS hU hh ht hp
    rw [show befV (perH st w v (n' + 1) (u (j % m))) = .tuple ⟨[I (tzN (perH st w v (n' + 1) (u (j % m))) : Nat), I 0]⟩ from if_neg hp] at c16
    by_cases hg : roF st (u (j % m)) (trW w k bs) (trV v k bs) n' < 0
    · have hrn : rowN (roF st (u (j % m)) (trW w k bs) (trV v k bs) n') = 6 := if_pos hg
      rw [hrn] at e1
      have hl0 : losN (crH st w v (u (j % m)) (n' + 1)) ≠ 0 := fun h => by rw [losN_false h] at e1; cases e1
      unfold s3 at hl
      rw [hgo true (decide_eq_true hg)] at hl
      refine ⟨_, (f30t rw st j (losN (crH st w v (u (j % m)) (n' + 1)) : Nat) (n' + 1) cw cv m cu k d (j % m) (surH st w v (n' + 1) (u (j % m))) (perH st w v (n' + 1) (u (j % m))) (tzN (perH st w v (n' + 1) (u (j % m)))) w v u bs (trW w k bs) (trV v k bs) (roF st (u (j % m)) (trW w k bs) (trV v k bs)) (foF st (u (j % m)) (trW w k bs) (trV v k bs)) tabC _).mpr ⟨fun _ => ⟨C11t_ok, rfl, rfl⟩, fun _ => ⟨c20, rfl, tf hm0, ⟨⟨by omega, rfl⟩, hmod⟩, c12, rfl, ⟨⟨by omega, by omega⟩, rfl⟩, ⟨by rw [hlen]; omega, by rw [hpart]; rfl⟩, c13, rfl, c14, rfl, c15, rfl, c16, rfl, tf han, ⟨⟨by omega, by omega⟩, rfl⟩, tf hdv, tt (lne (b := 0) hp), clL3, hl, ?_⟩⟩⟩
      exact ⟨fun _ => ⟨tt (lne (b := 0) hl0), C11t_ok, rfl, rfl⟩, fun _ => ⟨tt (lne (b := 0) hl0), C11t_ok, rfl, rfl⟩⟩
    · have hrn : rowN (roF st (u (j % m)) (trW w k bs) (trV v k bs) n') = (roF st (u (j % m)) (trW w k bs) (trV v k bs) n').toNat := if_neg hg
      rw [hrn] at e1
      have hl2 : losN (crH st w v (u (j % m)) (n' + 1)) ≠ 2 := fun h => by
        rw [losN_true h, show (64 : Nat) = 2 ^ 6 from rfl, Nat.testBit_two_pow, decide_eq_false (by omega)] at e1
        cases e1
      unfold s3 at hl
      rw [hgo false (decide_eq_false hg)] at hl
      refine ⟨_, (f30f rw st j (losN (crH st w v (u (j % m)) (n' + 1)) : Nat) (n' + 1) cw cv m cu k d (j % m) (surH st w v (n' + 1) (u (j % m))) (perH st w v (n' + 1) (u (j % m))) (tzN (perH st w v (n' + 1) (u (j % m)))) w v u bs (trW w k bs) (trV v k bs) (roF st (u (j % m)) (trW w k bs) (trV v k bs)) (foF st (u (j % m)) (trW w k bs) (trV v k bs)) tabC _).mpr ⟨fun _ => ⟨C11t_ok, rfl, rfl⟩, fun _ => ⟨c20, rfl, tf hm0, ⟨⟨by omega, rfl⟩, hmod⟩, c12, rfl, ⟨⟨by omega, by omega⟩, rfl⟩, ⟨by rw [hlen]; omega, by rw [hpart]; rfl⟩, c13, rfl, c14, rfl, c15, rfl, c16, rfl, tf han, ⟨⟨by omega, by omega⟩, rfl⟩, tf hdv, tt (lne (b := 0) hp), clL3, hl, tt (lne (b := 2) hl2), ?_⟩⟩⟩
      exact ⟨fun _ => ⟨C11t_ok, rfl, rfl⟩, fun _ => ⟨C11t_ok, rfl, rfl⟩⟩
end
end Go.Ab
