/- package surf: the law SurfKnown, of valid surfs with hours and huts, by no remainders. -/
import Derived.Test.YtoelpblmhmhglaaDoorNQ
import Derived.Test.YtoelpblmhmhglaaDoorNG
import Derived.Test.YtoelpblmhmhglaaDoorNI
import Derived.Test.YtoelpblmhmhglaaDoorNO
import Derived.Test.YtoelpblmhmhglaaDoorKO
import Derived.Lib.LaidTab
set_option maxRecDepth 100000
namespace Go.Ab
open Go Go.RowKit Go.Proofs
theorem f4tsn (rw : Nat) (st wh : Int) (n cw cv m cu hut : Nat) (w v : Nat → Sp) (u : Nat → Hut) (wt vt ro : Nat → Int) (fo : Nat → Bool) (tb : List Value) (y c d1 fi : Nat) (R : ARes → Prop) : (vx.call 4 [suV rw st n cw cv m cu, nilS, .int .u8 wh] (retK R) (mL3n tb (spL n w) (spL n v) (huL m u)) ([(17, .split ((2, .con (C11t tb)) :: []) ((3, .con (C20 rw st n cw n cv m cu (spL n w) (spL n v) (huL m u) true)) :: (6, .con (CE1 rw st n cw n cv m cu (spL n w) (spL n v) (huL m u) m (r15 2))) :: (9, .con (CE2 rw st n cw n cv m cu (spL n w) (spL n v) (huL m u) n 0 (r18 2))) :: (9, .con (CE2 rw st n cw n cv m cu (spL n w) (spL n v) (huL m u) 0 rw (r18 2))) :: (7, .con (CE1 rw st n cw n cv m cu (spL n w) (spL n v) (huL m u) 6 (r21 2))) :: (28, .val (.bool false)) :: (6, .val (I hut)) :: (3, .conN (C12n rw st n cw cv m cu (spL n w) (spL n v) (ints n wt) (ints n vt))) :: (21, .loopW T22a (.exit 0) T22b fun x => h22b (rw : Int) st n cw cv m cu tb (spL n w) (spL n v) (huL m u) wt vt (spL n (ptS wt)) (spL n (ptS vt)) n) :: (8, .val (.pointer (some ⟨4, 0 + hut * 3, none⟩))) :: (0, .val (.agg ⟨[(I ((u hut).fl)), (I ((u hut).br)), (I ((↑(u hut).row : Int)))]⟩)) :: (2, .conN (C13 rw st n cw cv m cu n n (u hut).fl (u hut).br (↑(u hut).row : Int) (ints n wt) (ints n vt) (ints n ro) (boolsL n fo))) :: (11, .loopW T4 (.exit 0) T4 fun x => h4 (rw : Int) st n cw cv m cu hut tb (spL n w) (spL n v) (huL m u) (spL n (ptS wt)) (spL n (ptS vt)) ro fo (y : Int) true (fi : Int) n) :: (2, .con (CS1 rw st n n n m cu tb (spL n (ptS wt)) (spL n (ptS vt)) (huL m u) hut (.tuple ⟨[I y, I y, I 0]⟩))) :: (9, .con (CS1 rw st n cw cv m cu tb (spL n w) (spL n v) (huL m u) hut (.tuple ⟨[I c, I d1, I 0]⟩))) :: (9, .con (CS1 rw st n n n m cu tb (spL n (ptS wt)) (spL n (ptS vt)) (huL m u) hut (.tuple ⟨[I 2, I 0]⟩))) :: (7, .con (CS1 rw st n n n m cu tb (spL n (ptS wt)) (spL n (ptS vt)) (huL m u) hut (.tuple ⟨[I fi, I 0]⟩))) :: (10, .val (.bool true)) :: (4, .val (.bool true)) :: (9, .val (.bool true)) :: (5, .val (.bool true)) :: (31, .val (.bool true)) :: (3, .con (C11t tb)) :: []))])) =
((((decide ((if (m : Int) > if (n : Int) > (n : Int) then (n : Int) else (n : Int) then (m : Int) else if (n : Int) > (n : Int) then (n : Int) else (n : Int)) > (40 : Int))) = true → ((ConOK Tryd.prog 11 (C11t tb)) ∧ (Con.pre (C11t tb) ⟨⟨[], []⟩, [(tb)]⟩) ∧
R (.ret (.bool true)))) ∧
((decide ((if (m : Int) > if (n : Int) > (n : Int) then (n : Int) else (n : Int) then (m : Int) else if (n : Int) > (n : Int) then (n : Int) else (n : Int)) > (40 : Int))) = false → ((ConOK Tryd.prog 20 (C20 rw st n cw n cv m cu (spL n w) (spL n v) (huL m u) true)) ∧ (Con.pre (C20 rw st n cw n cv m cu (spL n w) (spL n v) (huL m u) true) ⟨⟨[(I rw), (I st)], [⟨n, cw⟩, ⟨n, cv⟩, ⟨m, cu⟩]⟩, [(spL n w), (spL n v), (huL m u)]⟩) ∧
((ConOK Tryd.prog 15 (CE1 rw st n cw n cv m cu (spL n w) (spL n v) (huL m u) m (r15 2))) ∧ (Con.pre (CE1 rw st n cw n cv m cu (spL n w) (spL n v) (huL m u) m (r15 2)) ⟨⟨[(I rw), (I st), (I m)], [⟨n, cw⟩, ⟨n, cv⟩, ⟨m, cu⟩]⟩, [(spL n w), (spL n v), (huL m u)]⟩) ∧
((ConOK Tryd.prog 18 (CE2 rw st n cw n cv m cu (spL n w) (spL n v) (huL m u) n 0 (r18 2))) ∧ (Con.pre (CE2 rw st n cw n cv m cu (spL n w) (spL n v) (huL m u) n 0 (r18 2)) ⟨⟨[(I rw), (I st), (I n), (I 0)], [⟨n, cw⟩, ⟨n, cv⟩, ⟨m, cu⟩]⟩, [(spL n w), (spL n v), (huL m u)]⟩) ∧
((ConOK Tryd.prog 18 (CE2 rw st n cw n cv m cu (spL n w) (spL n v) (huL m u) 0 rw (r18 2))) ∧ (Con.pre (CE2 rw st n cw n cv m cu (spL n w) (spL n v) (huL m u) 0 rw (r18 2)) ⟨⟨[(I rw), (I st), (I 0), (I rw)], [⟨n, cw⟩, ⟨n, cv⟩, ⟨m, cu⟩]⟩, [(spL n w), (spL n v), (huL m u)]⟩) ∧
((ConOK Tryd.prog 21 (CE1 rw st n cw n cv m cu (spL n w) (spL n v) (huL m u) 6 (r21 2))) ∧ (Con.pre (CE1 rw st n cw n cv m cu (spL n w) (spL n v) (huL m u) 6 (r21 2)) ⟨⟨[(I rw), (I st), (I 6)], [⟨n, cw⟩, ⟨n, cv⟩, ⟨m, cu⟩]⟩, [(spL n w), (spL n v), (huL m u)]⟩) ∧
((((some (.bool ((m : Int) == 0)) : Option Value) = some (.bool false))) ∧
((((((m : Int) ≠ (0 : Int))) ∧ ((IntKind.i64 = IntKind.i64))) ∧ (((I hut) : Value) = (I ((IntKind.i64.wrap wh).tmod (m : Int))))) ∧
((ConNOK Tryd.prog 12 (C12n rw st n cw cv m cu (spL n w) (spL n v) (ints n wt) (ints n vt))) ∧ (ConN.pre (C12n rw st n cw cv m cu (spL n w) (spL n v) (ints n wt) (ints n vt)) ⟨⟨[(I rw), (I st)], [⟨n, cw⟩, ⟨n, cv⟩, ⟨m, cu⟩]⟩, [(spL n w), (spL n v)]⟩) ∧
((ClW ⟨⟨[(I n), (I 0), (I rw), (I st), (I 0), (I 0), (I rw), (I st)], [⟨n, n⟩, ⟨n, n⟩, ⟨n, cw⟩, ⟨n, cv⟩, ⟨m, cu⟩, ⟨m, cu⟩]⟩, [(tb), (spL n w), (spL n v), (huL m u), (ints n wt), (ints n vt)], []⟩) ∧ (LoopOW Tryd.prog .none p22 (T22a) ⟨⟨[(I n), (I 0), (I rw), (I st), (I 0), (I 0), (I rw), (I st)], [⟨n, n⟩, ⟨n, n⟩, ⟨n, cw⟩, ⟨n, cv⟩, ⟨m, cu⟩, ⟨m, cu⟩]⟩, [(tb), (spL n w), (spL n v), (huL m u), (ints n wt), (ints n vt)], []⟩ (.exit 0) (T22b) ⟨⟨[(I n), (I n), (I rw), (I st), (I 0), (I 0), (I rw), (I st)], [⟨n, n⟩, ⟨n, n⟩, ⟨n, cw⟩, ⟨n, cv⟩, ⟨m, cu⟩, ⟨n, n⟩, ⟨n, n⟩, ⟨m, cu⟩]⟩, [(tb), (spL n w), (spL n v), (huL m u), (ints n wt), (ints n vt), (spL n (ptS wt)), (spL n (ptS vt))], []⟩) ∧
((((((0 : Int) ≤ hut)) ∧ (((hut : Int) < m))) ∧ (((.pointer (some ⟨4, 0 + hut * 3, none⟩)) : Value) = (.pointer (some ⟨4, 0 + hut * 3, none⟩)))) ∧
((((0 + hut * 3 + 3 ≤ (huL m u).length)) ∧ (((.agg ⟨[(I ((u hut).fl)), (I ((u hut).br)), (I ((↑(u hut).row : Int)))]⟩) : Value) = (.agg ⟨(List.take 3 (List.drop (0 + hut * 3) (huL m u)))⟩))) ∧
((ConNOK Tryd.prog 13 (C13 rw st n cw cv m cu n n (u hut).fl (u hut).br (↑(u hut).row : Int) (ints n wt) (ints n vt) (ints n ro) (boolsL n fo))) ∧ (ConN.pre (C13 rw st n cw cv m cu n n (u hut).fl (u hut).br (↑(u hut).row : Int) (ints n wt) (ints n vt) (ints n ro) (boolsL n fo)) ⟨⟨[(I rw), (I st), (I ((u hut).fl)), (I ((u hut).br)), (I ((↑(u hut).row : Int)))], [⟨n, cw⟩, ⟨n, cv⟩, ⟨m, cu⟩, ⟨n, n⟩, ⟨n, n⟩]⟩, [(ints n wt), (ints n vt)]⟩) ∧
((ClW ⟨⟨[(I hut), (I 0), (.bool false), (I ((-1 : Int))), (I n), (I 0), (I rw), (I st), (I rw), (I st)], [⟨n, n⟩, ⟨n, n⟩, ⟨n, cw⟩, ⟨n, cv⟩, ⟨m, cu⟩, ⟨n, n⟩, ⟨n, n⟩, ⟨m, cu⟩]⟩, [(tb), (spL n w), (spL n v), (huL m u), (spL n (ptS wt)), (spL n (ptS vt)), (ints n ro), (boolsL n fo)], []⟩) ∧ (LoopOW Tryd.prog .none p4 (T4) ⟨⟨[(I hut), (I 0), (.bool false), (I ((-1 : Int))), (I n), (I 0), (I rw), (I st), (I rw), (I st)], [⟨n, n⟩, ⟨n, n⟩, ⟨n, cw⟩, ⟨n, cv⟩, ⟨m, cu⟩, ⟨n, n⟩, ⟨n, n⟩, ⟨m, cu⟩]⟩, [(tb), (spL n w), (spL n v), (huL m u), (spL n (ptS wt)), (spL n (ptS vt)), (ints n ro), (boolsL n fo)], []⟩ (.exit 0) (T4) ⟨⟨[(I hut), (I y), (.bool true), (I fi), (I n), (I n), (I rw), (I st), (I rw), (I st)], [⟨n, n⟩, ⟨n, n⟩, ⟨n, cw⟩, ⟨n, cv⟩, ⟨m, cu⟩, ⟨n, n⟩, ⟨n, n⟩, ⟨m, cu⟩]⟩, [(tb), (spL n w), (spL n v), (huL m u), (spL n (ptS wt)), (spL n (ptS vt)), (ints n ro), (boolsL n fo)], []⟩) ∧
((ConOK Tryd.prog 14 (CS1 rw st n n n m cu tb (spL n (ptS wt)) (spL n (ptS vt)) (huL m u) hut (.tuple ⟨[I y, I y, I 0]⟩))) ∧ (Con.pre (CS1 rw st n n n m cu tb (spL n (ptS wt)) (spL n (ptS vt)) (huL m u) hut (.tuple ⟨[I y, I y, I 0]⟩)) ⟨⟨[(I rw), (I st), (I hut)], [⟨n, n⟩, ⟨n, n⟩, ⟨m, cu⟩]⟩, [(tb), (spL n (ptS wt)), (spL n (ptS vt)), (huL m u)]⟩) ∧
((ConOK Tryd.prog 14 (CS1 rw st n cw cv m cu tb (spL n w) (spL n v) (huL m u) hut (.tuple ⟨[I c, I d1, I 0]⟩))) ∧ (Con.pre (CS1 rw st n cw cv m cu tb (spL n w) (spL n v) (huL m u) hut (.tuple ⟨[I c, I d1, I 0]⟩)) ⟨⟨[(I rw), (I st), (I hut)], [⟨n, cw⟩, ⟨n, cv⟩, ⟨m, cu⟩]⟩, [(tb), (spL n w), (spL n v), (huL m u)]⟩) ∧
((ConOK Tryd.prog 15 (CS1 rw st n n n m cu tb (spL n (ptS wt)) (spL n (ptS vt)) (huL m u) hut (.tuple ⟨[I 2, I 0]⟩))) ∧ (Con.pre (CS1 rw st n n n m cu tb (spL n (ptS wt)) (spL n (ptS vt)) (huL m u) hut (.tuple ⟨[I 2, I 0]⟩)) ⟨⟨[(I rw), (I st), (I hut)], [⟨n, n⟩, ⟨n, n⟩, ⟨m, cu⟩]⟩, [(tb), (spL n (ptS wt)), (spL n (ptS vt)), (huL m u)]⟩) ∧
((ConOK Tryd.prog 16 (CS1 rw st n n n m cu tb (spL n (ptS wt)) (spL n (ptS vt)) (huL m u) hut (.tuple ⟨[I fi, I 0]⟩))) ∧ (Con.pre (CS1 rw st n n n m cu tb (spL n (ptS wt)) (spL n (ptS vt)) (huL m u) hut (.tuple ⟨[I fi, I 0]⟩)) ⟨⟨[(I rw), (I st), (I hut)], [⟨n, n⟩, ⟨n, n⟩, ⟨m, cu⟩]⟩, [(tb), (spL n (ptS wt)), (spL n (ptS vt)), (huL m u)]⟩) ∧
((((some (.bool ((y : Int) == y)) : Option Value) = some (.bool true))) ∧
((((some (.bool ((y : Int) == y)) : Option Value) = some (.bool true))) ∧
((((some (.bool (bits BinOp.andNot IntKind.i64 (c : Int) (y : Int) == 0)) : Option Value) = some (.bool true))) ∧
((((some (.bool (bits BinOp.andNot IntKind.i64 (y : Int) (d1 : Int) == 0)) : Option Value) = some (.bool true))) ∧
((((some (.bool ((fi : Int) == fi)) : Option Value) = some (.bool true))) ∧
((ConOK Tryd.prog 11 (C11t tb)) ∧ (Con.pre (C11t tb) ⟨⟨[], []⟩, [(tb)]⟩) ∧
R (.ret (.bool true)))))))))))))))))))))))))))) := by kernel_rfl
theorem f4tnn (rw : Nat) (st wh : Int) (n cw cv m cu hut : Nat) (w v : Nat → Sp) (u : Nat → Hut) (wt vt ro : Nat → Int) (fo : Nat → Bool) (tb : List Value) (y c d1 fi : Nat) (R : ARes → Prop) : (vx.call 4 [suV rw st n cw cv m cu, nilS, .int .u8 wh] (retK R) (mL3n tb (spL n w) (spL n v) (huL m u)) ([(17, .split ((2, .con (C11t tb)) :: []) ((3, .con (C20 rw st n cw n cv m cu (spL n w) (spL n v) (huL m u) true)) :: (6, .con (CE1 rw st n cw n cv m cu (spL n w) (spL n v) (huL m u) m (r15 2))) :: (9, .con (CE2 rw st n cw n cv m cu (spL n w) (spL n v) (huL m u) n 0 (r18 2))) :: (9, .con (CE2 rw st n cw n cv m cu (spL n w) (spL n v) (huL m u) 0 rw (r18 2))) :: (7, .con (CE1 rw st n cw n cv m cu (spL n w) (spL n v) (huL m u) 6 (r21 2))) :: (28, .val (.bool false)) :: (6, .val (I hut)) :: (3, .conN (C12n rw st n cw cv m cu (spL n w) (spL n v) (ints n wt) (ints n vt))) :: (21, .loopW T22a (.exit 0) T22b fun x => h22b (rw : Int) st n cw cv m cu tb (spL n w) (spL n v) (huL m u) wt vt (spL n (ptS wt)) (spL n (ptS vt)) n) :: (8, .val (.pointer (some ⟨4, 0 + hut * 3, none⟩))) :: (0, .val (.agg ⟨[(I ((u hut).fl)), (I ((u hut).br)), (I ((↑(u hut).row : Int)))]⟩)) :: (2, .conN (C13 rw st n cw cv m cu n n (u hut).fl (u hut).br (↑(u hut).row : Int) (ints n wt) (ints n vt) (ints n ro) (boolsL n fo))) :: (11, .loopW T4 (.exit 0) T4 fun x => h4 (rw : Int) st n cw cv m cu hut tb (spL n w) (spL n v) (huL m u) (spL n (ptS wt)) (spL n (ptS vt)) ro fo (0 : Int) true (-1 : Int) n) :: (2, .con (CS1 rw st n n n m cu tb (spL n (ptS wt)) (spL n (ptS vt)) (huL m u) hut (.tuple ⟨[I 0, I 0, I 0]⟩))) :: (9, .con (CS1 rw st n cw cv m cu tb (spL n w) (spL n v) (huL m u) hut (.tuple ⟨[I c, I d1, I 0]⟩))) :: (9, .con (CS1 rw st n n n m cu tb (spL n (ptS wt)) (spL n (ptS vt)) (huL m u) hut (.tuple ⟨[I 2, I 0]⟩))) :: (7, .con (CS1 rw st n n n m cu tb (spL n (ptS wt)) (spL n (ptS vt)) (huL m u) hut (.tuple ⟨[I 0, I 4]⟩))) :: (25, .val (.bool true)) :: (38, .con (C11t tb)) :: []))])) =
((((decide ((if (m : Int) > if (n : Int) > (n : Int) then (n : Int) else (n : Int) then (m : Int) else if (n : Int) > (n : Int) then (n : Int) else (n : Int)) > (40 : Int))) = true → ((ConOK Tryd.prog 11 (C11t tb)) ∧ (Con.pre (C11t tb) ⟨⟨[], []⟩, [(tb)]⟩) ∧
R (.ret (.bool true)))) ∧
((decide ((if (m : Int) > if (n : Int) > (n : Int) then (n : Int) else (n : Int) then (m : Int) else if (n : Int) > (n : Int) then (n : Int) else (n : Int)) > (40 : Int))) = false → ((ConOK Tryd.prog 20 (C20 rw st n cw n cv m cu (spL n w) (spL n v) (huL m u) true)) ∧ (Con.pre (C20 rw st n cw n cv m cu (spL n w) (spL n v) (huL m u) true) ⟨⟨[(I rw), (I st)], [⟨n, cw⟩, ⟨n, cv⟩, ⟨m, cu⟩]⟩, [(spL n w), (spL n v), (huL m u)]⟩) ∧
((ConOK Tryd.prog 15 (CE1 rw st n cw n cv m cu (spL n w) (spL n v) (huL m u) m (r15 2))) ∧ (Con.pre (CE1 rw st n cw n cv m cu (spL n w) (spL n v) (huL m u) m (r15 2)) ⟨⟨[(I rw), (I st), (I m)], [⟨n, cw⟩, ⟨n, cv⟩, ⟨m, cu⟩]⟩, [(spL n w), (spL n v), (huL m u)]⟩) ∧
((ConOK Tryd.prog 18 (CE2 rw st n cw n cv m cu (spL n w) (spL n v) (huL m u) n 0 (r18 2))) ∧ (Con.pre (CE2 rw st n cw n cv m cu (spL n w) (spL n v) (huL m u) n 0 (r18 2)) ⟨⟨[(I rw), (I st), (I n), (I 0)], [⟨n, cw⟩, ⟨n, cv⟩, ⟨m, cu⟩]⟩, [(spL n w), (spL n v), (huL m u)]⟩) ∧
((ConOK Tryd.prog 18 (CE2 rw st n cw n cv m cu (spL n w) (spL n v) (huL m u) 0 rw (r18 2))) ∧ (Con.pre (CE2 rw st n cw n cv m cu (spL n w) (spL n v) (huL m u) 0 rw (r18 2)) ⟨⟨[(I rw), (I st), (I 0), (I rw)], [⟨n, cw⟩, ⟨n, cv⟩, ⟨m, cu⟩]⟩, [(spL n w), (spL n v), (huL m u)]⟩) ∧
((ConOK Tryd.prog 21 (CE1 rw st n cw n cv m cu (spL n w) (spL n v) (huL m u) 6 (r21 2))) ∧ (Con.pre (CE1 rw st n cw n cv m cu (spL n w) (spL n v) (huL m u) 6 (r21 2)) ⟨⟨[(I rw), (I st), (I 6)], [⟨n, cw⟩, ⟨n, cv⟩, ⟨m, cu⟩]⟩, [(spL n w), (spL n v), (huL m u)]⟩) ∧
((((some (.bool ((m : Int) == 0)) : Option Value) = some (.bool false))) ∧
((((((m : Int) ≠ (0 : Int))) ∧ ((IntKind.i64 = IntKind.i64))) ∧ (((I hut) : Value) = (I ((IntKind.i64.wrap wh).tmod (m : Int))))) ∧
((ConNOK Tryd.prog 12 (C12n rw st n cw cv m cu (spL n w) (spL n v) (ints n wt) (ints n vt))) ∧ (ConN.pre (C12n rw st n cw cv m cu (spL n w) (spL n v) (ints n wt) (ints n vt)) ⟨⟨[(I rw), (I st)], [⟨n, cw⟩, ⟨n, cv⟩, ⟨m, cu⟩]⟩, [(spL n w), (spL n v)]⟩) ∧
((ClW ⟨⟨[(I n), (I 0), (I rw), (I st), (I 0), (I 0), (I rw), (I st)], [⟨n, n⟩, ⟨n, n⟩, ⟨n, cw⟩, ⟨n, cv⟩, ⟨m, cu⟩, ⟨m, cu⟩]⟩, [(tb), (spL n w), (spL n v), (huL m u), (ints n wt), (ints n vt)], []⟩) ∧ (LoopOW Tryd.prog .none p22 (T22a) ⟨⟨[(I n), (I 0), (I rw), (I st), (I 0), (I 0), (I rw), (I st)], [⟨n, n⟩, ⟨n, n⟩, ⟨n, cw⟩, ⟨n, cv⟩, ⟨m, cu⟩, ⟨m, cu⟩]⟩, [(tb), (spL n w), (spL n v), (huL m u), (ints n wt), (ints n vt)], []⟩ (.exit 0) (T22b) ⟨⟨[(I n), (I n), (I rw), (I st), (I 0), (I 0), (I rw), (I st)], [⟨n, n⟩, ⟨n, n⟩, ⟨n, cw⟩, ⟨n, cv⟩, ⟨m, cu⟩, ⟨n, n⟩, ⟨n, n⟩, ⟨m, cu⟩]⟩, [(tb), (spL n w), (spL n v), (huL m u), (ints n wt), (ints n vt), (spL n (ptS wt)), (spL n (ptS vt))], []⟩) ∧
((((((0 : Int) ≤ hut)) ∧ (((hut : Int) < m))) ∧ (((.pointer (some ⟨4, 0 + hut * 3, none⟩)) : Value) = (.pointer (some ⟨4, 0 + hut * 3, none⟩)))) ∧
((((0 + hut * 3 + 3 ≤ (huL m u).length)) ∧ (((.agg ⟨[(I ((u hut).fl)), (I ((u hut).br)), (I ((↑(u hut).row : Int)))]⟩) : Value) = (.agg ⟨(List.take 3 (List.drop (0 + hut * 3) (huL m u)))⟩))) ∧
((ConNOK Tryd.prog 13 (C13 rw st n cw cv m cu n n (u hut).fl (u hut).br (↑(u hut).row : Int) (ints n wt) (ints n vt) (ints n ro) (boolsL n fo))) ∧ (ConN.pre (C13 rw st n cw cv m cu n n (u hut).fl (u hut).br (↑(u hut).row : Int) (ints n wt) (ints n vt) (ints n ro) (boolsL n fo)) ⟨⟨[(I rw), (I st), (I ((u hut).fl)), (I ((u hut).br)), (I ((↑(u hut).row : Int)))], [⟨n, cw⟩, ⟨n, cv⟩, ⟨m, cu⟩, ⟨n, n⟩, ⟨n, n⟩]⟩, [(ints n wt), (ints n vt)]⟩) ∧
((ClW ⟨⟨[(I hut), (I 0), (.bool false), (I ((-1 : Int))), (I n), (I 0), (I rw), (I st), (I rw), (I st)], [⟨n, n⟩, ⟨n, n⟩, ⟨n, cw⟩, ⟨n, cv⟩, ⟨m, cu⟩, ⟨n, n⟩, ⟨n, n⟩, ⟨m, cu⟩]⟩, [(tb), (spL n w), (spL n v), (huL m u), (spL n (ptS wt)), (spL n (ptS vt)), (ints n ro), (boolsL n fo)], []⟩) ∧ (LoopOW Tryd.prog .none p4 (T4) ⟨⟨[(I hut), (I 0), (.bool false), (I ((-1 : Int))), (I n), (I 0), (I rw), (I st), (I rw), (I st)], [⟨n, n⟩, ⟨n, n⟩, ⟨n, cw⟩, ⟨n, cv⟩, ⟨m, cu⟩, ⟨n, n⟩, ⟨n, n⟩, ⟨m, cu⟩]⟩, [(tb), (spL n w), (spL n v), (huL m u), (spL n (ptS wt)), (spL n (ptS vt)), (ints n ro), (boolsL n fo)], []⟩ (.exit 0) (T4) ⟨⟨[(I hut), (I 0), (.bool true), (I ((-1 : Int))), (I n), (I n), (I rw), (I st), (I rw), (I st)], [⟨n, n⟩, ⟨n, n⟩, ⟨n, cw⟩, ⟨n, cv⟩, ⟨m, cu⟩, ⟨n, n⟩, ⟨n, n⟩, ⟨m, cu⟩]⟩, [(tb), (spL n w), (spL n v), (huL m u), (spL n (ptS wt)), (spL n (ptS vt)), (ints n ro), (boolsL n fo)], []⟩) ∧
((ConOK Tryd.prog 14 (CS1 rw st n n n m cu tb (spL n (ptS wt)) (spL n (ptS vt)) (huL m u) hut (.tuple ⟨[I 0, I 0, I 0]⟩))) ∧ (Con.pre (CS1 rw st n n n m cu tb (spL n (ptS wt)) (spL n (ptS vt)) (huL m u) hut (.tuple ⟨[I 0, I 0, I 0]⟩)) ⟨⟨[(I rw), (I st), (I hut)], [⟨n, n⟩, ⟨n, n⟩, ⟨m, cu⟩]⟩, [(tb), (spL n (ptS wt)), (spL n (ptS vt)), (huL m u)]⟩) ∧
((ConOK Tryd.prog 14 (CS1 rw st n cw cv m cu tb (spL n w) (spL n v) (huL m u) hut (.tuple ⟨[I c, I d1, I 0]⟩))) ∧ (Con.pre (CS1 rw st n cw cv m cu tb (spL n w) (spL n v) (huL m u) hut (.tuple ⟨[I c, I d1, I 0]⟩)) ⟨⟨[(I rw), (I st), (I hut)], [⟨n, cw⟩, ⟨n, cv⟩, ⟨m, cu⟩]⟩, [(tb), (spL n w), (spL n v), (huL m u)]⟩) ∧
((ConOK Tryd.prog 15 (CS1 rw st n n n m cu tb (spL n (ptS wt)) (spL n (ptS vt)) (huL m u) hut (.tuple ⟨[I 2, I 0]⟩))) ∧ (Con.pre (CS1 rw st n n n m cu tb (spL n (ptS wt)) (spL n (ptS vt)) (huL m u) hut (.tuple ⟨[I 2, I 0]⟩)) ⟨⟨[(I rw), (I st), (I hut)], [⟨n, n⟩, ⟨n, n⟩, ⟨m, cu⟩]⟩, [(tb), (spL n (ptS wt)), (spL n (ptS vt)), (huL m u)]⟩) ∧
((ConOK Tryd.prog 16 (CS1 rw st n n n m cu tb (spL n (ptS wt)) (spL n (ptS vt)) (huL m u) hut (.tuple ⟨[I 0, I 4]⟩))) ∧ (Con.pre (CS1 rw st n n n m cu tb (spL n (ptS wt)) (spL n (ptS vt)) (huL m u) hut (.tuple ⟨[I 0, I 4]⟩)) ⟨⟨[(I rw), (I st), (I hut)], [⟨n, n⟩, ⟨n, n⟩, ⟨m, cu⟩]⟩, [(tb), (spL n (ptS wt)), (spL n (ptS vt)), (huL m u)]⟩) ∧
((((some (.bool (bits BinOp.andNot IntKind.i64 (c : Int) (0 : Int) == 0)) : Option Value) = some (.bool true))) ∧
((ConOK Tryd.prog 11 (C11t tb)) ∧ (Con.pre (C11t tb) ⟨⟨[], []⟩, [(tb)]⟩) ∧
R (.ret (.bool true)))))))))))))))))))))))) := by kernel_rfl
theorem f4fsn (rw : Nat) (st wh : Int) (n cw cv m cu hut : Nat) (w v : Nat → Sp) (u : Nat → Hut) (wt vt ro : Nat → Int) (fo : Nat → Bool) (tb : List Value) (y c d1 fi : Nat) (R : ARes → Prop) : (vx.call 4 [suV rw st n cw cv m cu, nilS, .int .u8 wh] (retK R) (mL3n tb (spL n w) (spL n v) (huL m u)) ([(17, .split ((2, .con (C11t tb)) :: []) ((3, .con (C20 rw st n cw n cv m cu (spL n w) (spL n v) (huL m u) true)) :: (6, .con (CE1 rw st n cw n cv m cu (spL n w) (spL n v) (huL m u) m (r15 2))) :: (9, .con (CE2 rw st n cw n cv m cu (spL n w) (spL n v) (huL m u) n 0 (r18 2))) :: (9, .con (CE2 rw st n cw n cv m cu (spL n w) (spL n v) (huL m u) 0 rw (r18 2))) :: (7, .con (CE1 rw st n cw n cv m cu (spL n w) (spL n v) (huL m u) 6 (r21 2))) :: (28, .val (.bool false)) :: (6, .val (I hut)) :: (3, .conN (C12n rw st n cw cv m cu (spL n w) (spL n v) (ints n wt) (ints n vt))) :: (21, .loopW T22a (.exit 0) T22b fun x => h22b (rw : Int) st n cw cv m cu tb (spL n w) (spL n v) (huL m u) wt vt (spL n (ptS wt)) (spL n (ptS vt)) n) :: (8, .val (.pointer (some ⟨4, 0 + hut * 3, none⟩))) :: (0, .val (.agg ⟨[(I ((u hut).fl)), (I ((u hut).br)), (I ((↑(u hut).row : Int)))]⟩)) :: (2, .conN (C13 rw st n cw cv m cu n n (u hut).fl (u hut).br (↑(u hut).row : Int) (ints n wt) (ints n vt) (ints n ro) (boolsL n fo))) :: (11, .loopW T4 (.exit 0) T4 fun x => h4 (rw : Int) st n cw cv m cu hut tb (spL n w) (spL n v) (huL m u) (spL n (ptS wt)) (spL n (ptS vt)) ro fo (y : Int) false (fi : Int) n) :: (2, .con (CS1 rw st n n n m cu tb (spL n (ptS wt)) (spL n (ptS vt)) (huL m u) hut (.tuple ⟨[I y, I y, I 0]⟩))) :: (9, .con (CS1 rw st n cw cv m cu tb (spL n w) (spL n v) (huL m u) hut (.tuple ⟨[I c, I d1, I 0]⟩))) :: (9, .con (CS1 rw st n n n m cu tb (spL n (ptS wt)) (spL n (ptS vt)) (huL m u) hut (.tuple ⟨[I 0, I 0]⟩))) :: (7, .con (CS1 rw st n n n m cu tb (spL n (ptS wt)) (spL n (ptS vt)) (huL m u) hut (.tuple ⟨[I fi, I 0]⟩))) :: (10, .val (.bool true)) :: (4, .val (.bool true)) :: (9, .val (.bool true)) :: (5, .val (.bool true)) :: (31, .val (.bool true)) :: (3, .con (C11t tb)) :: []))])) =
((((decide ((if (m : Int) > if (n : Int) > (n : Int) then (n : Int) else (n : Int) then (m : Int) else if (n : Int) > (n : Int) then (n : Int) else (n : Int)) > (40 : Int))) = true → ((ConOK Tryd.prog 11 (C11t tb)) ∧ (Con.pre (C11t tb) ⟨⟨[], []⟩, [(tb)]⟩) ∧
R (.ret (.bool true)))) ∧
((decide ((if (m : Int) > if (n : Int) > (n : Int) then (n : Int) else (n : Int) then (m : Int) else if (n : Int) > (n : Int) then (n : Int) else (n : Int)) > (40 : Int))) = false → ((ConOK Tryd.prog 20 (C20 rw st n cw n cv m cu (spL n w) (spL n v) (huL m u) true)) ∧ (Con.pre (C20 rw st n cw n cv m cu (spL n w) (spL n v) (huL m u) true) ⟨⟨[(I rw), (I st)], [⟨n, cw⟩, ⟨n, cv⟩, ⟨m, cu⟩]⟩, [(spL n w), (spL n v), (huL m u)]⟩) ∧
((ConOK Tryd.prog 15 (CE1 rw st n cw n cv m cu (spL n w) (spL n v) (huL m u) m (r15 2))) ∧ (Con.pre (CE1 rw st n cw n cv m cu (spL n w) (spL n v) (huL m u) m (r15 2)) ⟨⟨[(I rw), (I st), (I m)], [⟨n, cw⟩, ⟨n, cv⟩, ⟨m, cu⟩]⟩, [(spL n w), (spL n v), (huL m u)]⟩) ∧
((ConOK Tryd.prog 18 (CE2 rw st n cw n cv m cu (spL n w) (spL n v) (huL m u) n 0 (r18 2))) ∧ (Con.pre (CE2 rw st n cw n cv m cu (spL n w) (spL n v) (huL m u) n 0 (r18 2)) ⟨⟨[(I rw), (I st), (I n), (I 0)], [⟨n, cw⟩, ⟨n, cv⟩, ⟨m, cu⟩]⟩, [(spL n w), (spL n v), (huL m u)]⟩) ∧
((ConOK Tryd.prog 18 (CE2 rw st n cw n cv m cu (spL n w) (spL n v) (huL m u) 0 rw (r18 2))) ∧ (Con.pre (CE2 rw st n cw n cv m cu (spL n w) (spL n v) (huL m u) 0 rw (r18 2)) ⟨⟨[(I rw), (I st), (I 0), (I rw)], [⟨n, cw⟩, ⟨n, cv⟩, ⟨m, cu⟩]⟩, [(spL n w), (spL n v), (huL m u)]⟩) ∧
((ConOK Tryd.prog 21 (CE1 rw st n cw n cv m cu (spL n w) (spL n v) (huL m u) 6 (r21 2))) ∧ (Con.pre (CE1 rw st n cw n cv m cu (spL n w) (spL n v) (huL m u) 6 (r21 2)) ⟨⟨[(I rw), (I st), (I 6)], [⟨n, cw⟩, ⟨n, cv⟩, ⟨m, cu⟩]⟩, [(spL n w), (spL n v), (huL m u)]⟩) ∧
((((some (.bool ((m : Int) == 0)) : Option Value) = some (.bool false))) ∧
((((((m : Int) ≠ (0 : Int))) ∧ ((IntKind.i64 = IntKind.i64))) ∧ (((I hut) : Value) = (I ((IntKind.i64.wrap wh).tmod (m : Int))))) ∧
((ConNOK Tryd.prog 12 (C12n rw st n cw cv m cu (spL n w) (spL n v) (ints n wt) (ints n vt))) ∧ (ConN.pre (C12n rw st n cw cv m cu (spL n w) (spL n v) (ints n wt) (ints n vt)) ⟨⟨[(I rw), (I st)], [⟨n, cw⟩, ⟨n, cv⟩, ⟨m, cu⟩]⟩, [(spL n w), (spL n v)]⟩) ∧
((ClW ⟨⟨[(I n), (I 0), (I rw), (I st), (I 0), (I 0), (I rw), (I st)], [⟨n, n⟩, ⟨n, n⟩, ⟨n, cw⟩, ⟨n, cv⟩, ⟨m, cu⟩, ⟨m, cu⟩]⟩, [(tb), (spL n w), (spL n v), (huL m u), (ints n wt), (ints n vt)], []⟩) ∧ (LoopOW Tryd.prog .none p22 (T22a) ⟨⟨[(I n), (I 0), (I rw), (I st), (I 0), (I 0), (I rw), (I st)], [⟨n, n⟩, ⟨n, n⟩, ⟨n, cw⟩, ⟨n, cv⟩, ⟨m, cu⟩, ⟨m, cu⟩]⟩, [(tb), (spL n w), (spL n v), (huL m u), (ints n wt), (ints n vt)], []⟩ (.exit 0) (T22b) ⟨⟨[(I n), (I n), (I rw), (I st), (I 0), (I 0), (I rw), (I st)], [⟨n, n⟩, ⟨n, n⟩, ⟨n, cw⟩, ⟨n, cv⟩, ⟨m, cu⟩, ⟨n, n⟩, ⟨n, n⟩, ⟨m, cu⟩]⟩, [(tb), (spL n w), (spL n v), (huL m u), (ints n wt), (ints n vt), (spL n (ptS wt)), (spL n (ptS vt))], []⟩) ∧
((((((0 : Int) ≤ hut)) ∧ (((hut : Int) < m))) ∧ (((.pointer (some ⟨4, 0 + hut * 3, none⟩)) : Value) = (.pointer (some ⟨4, 0 + hut * 3, none⟩)))) ∧
((((0 + hut * 3 + 3 ≤ (huL m u).length)) ∧ (((.agg ⟨[(I ((u hut).fl)), (I ((u hut).br)), (I ((↑(u hut).row : Int)))]⟩) : Value) = (.agg ⟨(List.take 3 (List.drop (0 + hut * 3) (huL m u)))⟩))) ∧
((ConNOK Tryd.prog 13 (C13 rw st n cw cv m cu n n (u hut).fl (u hut).br (↑(u hut).row : Int) (ints n wt) (ints n vt) (ints n ro) (boolsL n fo))) ∧ (ConN.pre (C13 rw st n cw cv m cu n n (u hut).fl (u hut).br (↑(u hut).row : Int) (ints n wt) (ints n vt) (ints n ro) (boolsL n fo)) ⟨⟨[(I rw), (I st), (I ((u hut).fl)), (I ((u hut).br)), (I ((↑(u hut).row : Int)))], [⟨n, cw⟩, ⟨n, cv⟩, ⟨m, cu⟩, ⟨n, n⟩, ⟨n, n⟩]⟩, [(ints n wt), (ints n vt)]⟩) ∧
((ClW ⟨⟨[(I hut), (I 0), (.bool false), (I ((-1 : Int))), (I n), (I 0), (I rw), (I st), (I rw), (I st)], [⟨n, n⟩, ⟨n, n⟩, ⟨n, cw⟩, ⟨n, cv⟩, ⟨m, cu⟩, ⟨n, n⟩, ⟨n, n⟩, ⟨m, cu⟩]⟩, [(tb), (spL n w), (spL n v), (huL m u), (spL n (ptS wt)), (spL n (ptS vt)), (ints n ro), (boolsL n fo)], []⟩) ∧ (LoopOW Tryd.prog .none p4 (T4) ⟨⟨[(I hut), (I 0), (.bool false), (I ((-1 : Int))), (I n), (I 0), (I rw), (I st), (I rw), (I st)], [⟨n, n⟩, ⟨n, n⟩, ⟨n, cw⟩, ⟨n, cv⟩, ⟨m, cu⟩, ⟨n, n⟩, ⟨n, n⟩, ⟨m, cu⟩]⟩, [(tb), (spL n w), (spL n v), (huL m u), (spL n (ptS wt)), (spL n (ptS vt)), (ints n ro), (boolsL n fo)], []⟩ (.exit 0) (T4) ⟨⟨[(I hut), (I y), (.bool false), (I fi), (I n), (I n), (I rw), (I st), (I rw), (I st)], [⟨n, n⟩, ⟨n, n⟩, ⟨n, cw⟩, ⟨n, cv⟩, ⟨m, cu⟩, ⟨n, n⟩, ⟨n, n⟩, ⟨m, cu⟩]⟩, [(tb), (spL n w), (spL n v), (huL m u), (spL n (ptS wt)), (spL n (ptS vt)), (ints n ro), (boolsL n fo)], []⟩) ∧
((ConOK Tryd.prog 14 (CS1 rw st n n n m cu tb (spL n (ptS wt)) (spL n (ptS vt)) (huL m u) hut (.tuple ⟨[I y, I y, I 0]⟩))) ∧ (Con.pre (CS1 rw st n n n m cu tb (spL n (ptS wt)) (spL n (ptS vt)) (huL m u) hut (.tuple ⟨[I y, I y, I 0]⟩)) ⟨⟨[(I rw), (I st), (I hut)], [⟨n, n⟩, ⟨n, n⟩, ⟨m, cu⟩]⟩, [(tb), (spL n (ptS wt)), (spL n (ptS vt)), (huL m u)]⟩) ∧
((ConOK Tryd.prog 14 (CS1 rw st n cw cv m cu tb (spL n w) (spL n v) (huL m u) hut (.tuple ⟨[I c, I d1, I 0]⟩))) ∧ (Con.pre (CS1 rw st n cw cv m cu tb (spL n w) (spL n v) (huL m u) hut (.tuple ⟨[I c, I d1, I 0]⟩)) ⟨⟨[(I rw), (I st), (I hut)], [⟨n, cw⟩, ⟨n, cv⟩, ⟨m, cu⟩]⟩, [(tb), (spL n w), (spL n v), (huL m u)]⟩) ∧
((ConOK Tryd.prog 15 (CS1 rw st n n n m cu tb (spL n (ptS wt)) (spL n (ptS vt)) (huL m u) hut (.tuple ⟨[I 0, I 0]⟩))) ∧ (Con.pre (CS1 rw st n n n m cu tb (spL n (ptS wt)) (spL n (ptS vt)) (huL m u) hut (.tuple ⟨[I 0, I 0]⟩)) ⟨⟨[(I rw), (I st), (I hut)], [⟨n, n⟩, ⟨n, n⟩, ⟨m, cu⟩]⟩, [(tb), (spL n (ptS wt)), (spL n (ptS vt)), (huL m u)]⟩) ∧
((ConOK Tryd.prog 16 (CS1 rw st n n n m cu tb (spL n (ptS wt)) (spL n (ptS vt)) (huL m u) hut (.tuple ⟨[I fi, I 0]⟩))) ∧ (Con.pre (CS1 rw st n n n m cu tb (spL n (ptS wt)) (spL n (ptS vt)) (huL m u) hut (.tuple ⟨[I fi, I 0]⟩)) ⟨⟨[(I rw), (I st), (I hut)], [⟨n, n⟩, ⟨n, n⟩, ⟨m, cu⟩]⟩, [(tb), (spL n (ptS wt)), (spL n (ptS vt)), (huL m u)]⟩) ∧
((((some (.bool ((y : Int) == y)) : Option Value) = some (.bool true))) ∧
((((some (.bool ((y : Int) == y)) : Option Value) = some (.bool true))) ∧
((((some (.bool (bits BinOp.andNot IntKind.i64 (c : Int) (y : Int) == 0)) : Option Value) = some (.bool true))) ∧
((((some (.bool (bits BinOp.andNot IntKind.i64 (y : Int) (d1 : Int) == 0)) : Option Value) = some (.bool true))) ∧
((((some (.bool ((fi : Int) == fi)) : Option Value) = some (.bool true))) ∧
((ConOK Tryd.prog 11 (C11t tb)) ∧ (Con.pre (C11t tb) ⟨⟨[], []⟩, [(tb)]⟩) ∧
R (.ret (.bool true)))))))))))))))))))))))))))) := by kernel_rfl
theorem f4fnn (rw : Nat) (st wh : Int) (n cw cv m cu hut : Nat) (w v : Nat → Sp) (u : Nat → Hut) (wt vt ro : Nat → Int) (fo : Nat → Bool) (tb : List Value) (y c d1 fi : Nat) (R : ARes → Prop) : (vx.call 4 [suV rw st n cw cv m cu, nilS, .int .u8 wh] (retK R) (mL3n tb (spL n w) (spL n v) (huL m u)) ([(17, .split ((2, .con (C11t tb)) :: []) ((3, .con (C20 rw st n cw n cv m cu (spL n w) (spL n v) (huL m u) true)) :: (6, .con (CE1 rw st n cw n cv m cu (spL n w) (spL n v) (huL m u) m (r15 2))) :: (9, .con (CE2 rw st n cw n cv m cu (spL n w) (spL n v) (huL m u) n 0 (r18 2))) :: (9, .con (CE2 rw st n cw n cv m cu (spL n w) (spL n v) (huL m u) 0 rw (r18 2))) :: (7, .con (CE1 rw st n cw n cv m cu (spL n w) (spL n v) (huL m u) 6 (r21 2))) :: (28, .val (.bool false)) :: (6, .val (I hut)) :: (3, .conN (C12n rw st n cw cv m cu (spL n w) (spL n v) (ints n wt) (ints n vt))) :: (21, .loopW T22a (.exit 0) T22b fun x => h22b (rw : Int) st n cw cv m cu tb (spL n w) (spL n v) (huL m u) wt vt (spL n (ptS wt)) (spL n (ptS vt)) n) :: (8, .val (.pointer (some ⟨4, 0 + hut * 3, none⟩))) :: (0, .val (.agg ⟨[(I ((u hut).fl)), (I ((u hut).br)), (I ((↑(u hut).row : Int)))]⟩)) :: (2, .conN (C13 rw st n cw cv m cu n n (u hut).fl (u hut).br (↑(u hut).row : Int) (ints n wt) (ints n vt) (ints n ro) (boolsL n fo))) :: (11, .loopW T4 (.exit 0) T4 fun x => h4 (rw : Int) st n cw cv m cu hut tb (spL n w) (spL n v) (huL m u) (spL n (ptS wt)) (spL n (ptS vt)) ro fo (0 : Int) false (-1 : Int) n) :: (2, .con (CS1 rw st n n n m cu tb (spL n (ptS wt)) (spL n (ptS vt)) (huL m u) hut (.tuple ⟨[I 0, I 0, I 0]⟩))) :: (9, .con (CS1 rw st n cw cv m cu tb (spL n w) (spL n v) (huL m u) hut (.tuple ⟨[I c, I d1, I 0]⟩))) :: (9, .con (CS1 rw st n n n m cu tb (spL n (ptS wt)) (spL n (ptS vt)) (huL m u) hut (.tuple ⟨[I 0, I 0]⟩))) :: (7, .con (CS1 rw st n n n m cu tb (spL n (ptS wt)) (spL n (ptS vt)) (huL m u) hut (.tuple ⟨[I 0, I 4]⟩))) :: (25, .val (.bool true)) :: (38, .con (C11t tb)) :: []))])) =
((((decide ((if (m : Int) > if (n : Int) > (n : Int) then (n : Int) else (n : Int) then (m : Int) else if (n : Int) > (n : Int) then (n : Int) else (n : Int)) > (40 : Int))) = true → ((ConOK Tryd.prog 11 (C11t tb)) ∧ (Con.pre (C11t tb) ⟨⟨[], []⟩, [(tb)]⟩) ∧
R (.ret (.bool true)))) ∧
((decide ((if (m : Int) > if (n : Int) > (n : Int) then (n : Int) else (n : Int) then (m : Int) else if (n : Int) > (n : Int) then (n : Int) else (n : Int)) > (40 : Int))) = false → ((ConOK Tryd.prog 20 (C20 rw st n cw n cv m cu (spL n w) (spL n v) (huL m u) true)) ∧ (Con.pre (C20 rw st n cw n cv m cu (spL n w) (spL n v) (huL m u) true) ⟨⟨[(I rw), (I st)], [⟨n, cw⟩, ⟨n, cv⟩, ⟨m, cu⟩]⟩, [(spL n w), (spL n v), (huL m u)]⟩) ∧
((ConOK Tryd.prog 15 (CE1 rw st n cw n cv m cu (spL n w) (spL n v) (huL m u) m (r15 2))) ∧ (Con.pre (CE1 rw st n cw n cv m cu (spL n w) (spL n v) (huL m u) m (r15 2)) ⟨⟨[(I rw), (I st), (I m)], [⟨n, cw⟩, ⟨n, cv⟩, ⟨m, cu⟩]⟩, [(spL n w), (spL n v), (huL m u)]⟩) ∧
((ConOK Tryd.prog 18 (CE2 rw st n cw n cv m cu (spL n w) (spL n v) (huL m u) n 0 (r18 2))) ∧ (Con.pre (CE2 rw st n cw n cv m cu (spL n w) (spL n v) (huL m u) n 0 (r18 2)) ⟨⟨[(I rw), (I st), (I n), (I 0)], [⟨n, cw⟩, ⟨n, cv⟩, ⟨m, cu⟩]⟩, [(spL n w), (spL n v), (huL m u)]⟩) ∧
((ConOK Tryd.prog 18 (CE2 rw st n cw n cv m cu (spL n w) (spL n v) (huL m u) 0 rw (r18 2))) ∧ (Con.pre (CE2 rw st n cw n cv m cu (spL n w) (spL n v) (huL m u) 0 rw (r18 2)) ⟨⟨[(I rw), (I st), (I 0), (I rw)], [⟨n, cw⟩, ⟨n, cv⟩, ⟨m, cu⟩]⟩, [(spL n w), (spL n v), (huL m u)]⟩) ∧
((ConOK Tryd.prog 21 (CE1 rw st n cw n cv m cu (spL n w) (spL n v) (huL m u) 6 (r21 2))) ∧ (Con.pre (CE1 rw st n cw n cv m cu (spL n w) (spL n v) (huL m u) 6 (r21 2)) ⟨⟨[(I rw), (I st), (I 6)], [⟨n, cw⟩, ⟨n, cv⟩, ⟨m, cu⟩]⟩, [(spL n w), (spL n v), (huL m u)]⟩) ∧
((((some (.bool ((m : Int) == 0)) : Option Value) = some (.bool false))) ∧
((((((m : Int) ≠ (0 : Int))) ∧ ((IntKind.i64 = IntKind.i64))) ∧ (((I hut) : Value) = (I ((IntKind.i64.wrap wh).tmod (m : Int))))) ∧
((ConNOK Tryd.prog 12 (C12n rw st n cw cv m cu (spL n w) (spL n v) (ints n wt) (ints n vt))) ∧ (ConN.pre (C12n rw st n cw cv m cu (spL n w) (spL n v) (ints n wt) (ints n vt)) ⟨⟨[(I rw), (I st)], [⟨n, cw⟩, ⟨n, cv⟩, ⟨m, cu⟩]⟩, [(spL n w), (spL n v)]⟩) ∧
((ClW ⟨⟨[(I n), (I 0), (I rw), (I st), (I 0), (I 0), (I rw), (I st)], [⟨n, n⟩, ⟨n, n⟩, ⟨n, cw⟩, ⟨n, cv⟩, ⟨m, cu⟩, ⟨m, cu⟩]⟩, [(tb), (spL n w), (spL n v), (huL m u), (ints n wt), (ints n vt)], []⟩) ∧ (LoopOW Tryd.prog .none p22 (T22a) ⟨⟨[(I n), (I 0), (I rw), (I st), (I 0), (I 0), (I rw), (I st)], [⟨n, n⟩, ⟨n, n⟩, ⟨n, cw⟩, ⟨n, cv⟩, ⟨m, cu⟩, ⟨m, cu⟩]⟩, [(tb), (spL n w), (spL n v), (huL m u), (ints n wt), (ints n vt)], []⟩ (.exit 0) (T22b) ⟨⟨[(I n), (I n), (I rw), (I st), (I 0), (I 0), (I rw), (I st)], [⟨n, n⟩, ⟨n, n⟩, ⟨n, cw⟩, ⟨n, cv⟩, ⟨m, cu⟩, ⟨n, n⟩, ⟨n, n⟩, ⟨m, cu⟩]⟩, [(tb), (spL n w), (spL n v), (huL m u), (ints n wt), (ints n vt), (spL n (ptS wt)), (spL n (ptS vt))], []⟩) ∧
((((((0 : Int) ≤ hut)) ∧ (((hut : Int) < m))) ∧ (((.pointer (some ⟨4, 0 + hut * 3, none⟩)) : Value) = (.pointer (some ⟨4, 0 + hut * 3, none⟩)))) ∧
((((0 + hut * 3 + 3 ≤ (huL m u).length)) ∧ (((.agg ⟨[(I ((u hut).fl)), (I ((u hut).br)), (I ((↑(u hut).row : Int)))]⟩) : Value) = (.agg ⟨(List.take 3 (List.drop (0 + hut * 3) (huL m u)))⟩))) ∧
((ConNOK Tryd.prog 13 (C13 rw st n cw cv m cu n n (u hut).fl (u hut).br (↑(u hut).row : Int) (ints n wt) (ints n vt) (ints n ro) (boolsL n fo))) ∧ (ConN.pre (C13 rw st n cw cv m cu n n (u hut).fl (u hut).br (↑(u hut).row : Int) (ints n wt) (ints n vt) (ints n ro) (boolsL n fo)) ⟨⟨[(I rw), (I st), (I ((u hut).fl)), (I ((u hut).br)), (I ((↑(u hut).row : Int)))], [⟨n, cw⟩, ⟨n, cv⟩, ⟨m, cu⟩, ⟨n, n⟩, ⟨n, n⟩]⟩, [(ints n wt), (ints n vt)]⟩) ∧
((ClW ⟨⟨[(I hut), (I 0), (.bool false), (I ((-1 : Int))), (I n), (I 0), (I rw), (I st), (I rw), (I st)], [⟨n, n⟩, ⟨n, n⟩, ⟨n, cw⟩, ⟨n, cv⟩, ⟨m, cu⟩, ⟨n, n⟩, ⟨n, n⟩, ⟨m, cu⟩]⟩, [(tb), (spL n w), (spL n v), (huL m u), (spL n (ptS wt)), (spL n (ptS vt)), (ints n ro), (boolsL n fo)], []⟩) ∧ (LoopOW Tryd.prog .none p4 (T4) ⟨⟨[(I hut), (I 0), (.bool false), (I ((-1 : Int))), (I n), (I 0), (I rw), (I st), (I rw), (I st)], [⟨n, n⟩, ⟨n, n⟩, ⟨n, cw⟩, ⟨n, cv⟩, ⟨m, cu⟩, ⟨n, n⟩, ⟨n, n⟩, ⟨m, cu⟩]⟩, [(tb), (spL n w), (spL n v), (huL m u), (spL n (ptS wt)), (spL n (ptS vt)), (ints n ro), (boolsL n fo)], []⟩ (.exit 0) (T4) ⟨⟨[(I hut), (I 0), (.bool false), (I ((-1 : Int))), (I n), (I n), (I rw), (I st), (I rw), (I st)], [⟨n, n⟩, ⟨n, n⟩, ⟨n, cw⟩, ⟨n, cv⟩, ⟨m, cu⟩, ⟨n, n⟩, ⟨n, n⟩, ⟨m, cu⟩]⟩, [(tb), (spL n w), (spL n v), (huL m u), (spL n (ptS wt)), (spL n (ptS vt)), (ints n ro), (boolsL n fo)], []⟩) ∧
((ConOK Tryd.prog 14 (CS1 rw st n n n m cu tb (spL n (ptS wt)) (spL n (ptS vt)) (huL m u) hut (.tuple ⟨[I 0, I 0, I 0]⟩))) ∧ (Con.pre (CS1 rw st n n n m cu tb (spL n (ptS wt)) (spL n (ptS vt)) (huL m u) hut (.tuple ⟨[I 0, I 0, I 0]⟩)) ⟨⟨[(I rw), (I st), (I hut)], [⟨n, n⟩, ⟨n, n⟩, ⟨m, cu⟩]⟩, [(tb), (spL n (ptS wt)), (spL n (ptS vt)), (huL m u)]⟩) ∧
((ConOK Tryd.prog 14 (CS1 rw st n cw cv m cu tb (spL n w) (spL n v) (huL m u) hut (.tuple ⟨[I c, I d1, I 0]⟩))) ∧ (Con.pre (CS1 rw st n cw cv m cu tb (spL n w) (spL n v) (huL m u) hut (.tuple ⟨[I c, I d1, I 0]⟩)) ⟨⟨[(I rw), (I st), (I hut)], [⟨n, cw⟩, ⟨n, cv⟩, ⟨m, cu⟩]⟩, [(tb), (spL n w), (spL n v), (huL m u)]⟩) ∧
((ConOK Tryd.prog 15 (CS1 rw st n n n m cu tb (spL n (ptS wt)) (spL n (ptS vt)) (huL m u) hut (.tuple ⟨[I 0, I 0]⟩))) ∧ (Con.pre (CS1 rw st n n n m cu tb (spL n (ptS wt)) (spL n (ptS vt)) (huL m u) hut (.tuple ⟨[I 0, I 0]⟩)) ⟨⟨[(I rw), (I st), (I hut)], [⟨n, n⟩, ⟨n, n⟩, ⟨m, cu⟩]⟩, [(tb), (spL n (ptS wt)), (spL n (ptS vt)), (huL m u)]⟩) ∧
((ConOK Tryd.prog 16 (CS1 rw st n n n m cu tb (spL n (ptS wt)) (spL n (ptS vt)) (huL m u) hut (.tuple ⟨[I 0, I 4]⟩))) ∧ (Con.pre (CS1 rw st n n n m cu tb (spL n (ptS wt)) (spL n (ptS vt)) (huL m u) hut (.tuple ⟨[I 0, I 4]⟩)) ⟨⟨[(I rw), (I st), (I hut)], [⟨n, n⟩, ⟨n, n⟩, ⟨m, cu⟩]⟩, [(tb), (spL n (ptS wt)), (spL n (ptS vt)), (huL m u)]⟩) ∧
((((some (.bool (bits BinOp.andNot IntKind.i64 (c : Int) (0 : Int) == 0)) : Option Value) = some (.bool true))) ∧
((ConOK Tryd.prog 11 (C11t tb)) ∧ (Con.pre (C11t tb) ⟨⟨[], []⟩, [(tb)]⟩) ∧
R (.ret (.bool true)))))))))))))))))))))))) := by kernel_rfl
section
variable {rw : Nat} {st : Int} {n cw cv m cu j : Nat} {w v : Nat → Sp} {u : Nat → Hut}
theorem law4_En (hS : SOK rw st n w v) (hU : HUK rw m u) (h0 : 0 < n) (hm : 0 < m) (hj : j < 256) :
    ∃ hs, vx.call 4 [suV rw st n cw cv m cu, nilS, .int .u8 j] (retK fun r => r = .ret (.bool true)) (mL3n tabC (spL n w) (spL n v) (huL m u)) hs := by
 have h8 := hS.n8
 have h5 := hU.m5
 have h6 := hS.rw6
 have hh : j % m < m := Nat.mod_lt _ hm
 obtain ⟨u0, u1, u2, u3, u4⟩ := hU.u (j % m) hh
 have hr6 : (u (j % m)).row < 6 := by omega
 have ht : TrOK w v n (trW w 0 bs0) (trV v 0 bs0) := fun i hi => by
  obtain ⟨w0, w1, w2, w3⟩ := hS.w i hi
  obtain ⟨v0, v1, v2, v3⟩ := hS.v i hi
  exact ⟨(drI_in (k := 0) (bs := bs0) w1 (fun i hi => absurd hi (Nat.not_lt_zero i)) _).1, (drI_in (k := 0) (bs := bs0) w1 (fun i hi => absurd hi (Nat.not_lt_zero i)) _).2, (drI_in (k := 0) (bs := bs0) v1 (fun i hi => absurd hi (Nat.not_lt_zero i)) _).1, (drI_in (k := 0) (bs := bs0) v1 (fun i hi => absurd hi (Nat.not_lt_zero i)) _).2⟩
 have hSx := SOK_pt hS ht
 have hlt := perH_lt (st := st) (w := w) (v := v) h8 (u (j % m))
 have hlx := surH_lt (st := st) (w := w) (v := v) (x := u (j % m)) h8
 have hly := fobits_256 (fo := foF st (u (j % m)) (trW w 0 bs0) (trV v 0 bs0)) h8
 have hs1 := an0 hlx hly (sur_sub_fob hr6 h8 ht)
 have hs2 := an0 hly hlt (fob_sub_per hr6 h8 ht)
 have c20 : ConOK Tryd.prog 20 (C20 rw st n cw n cv m cu (spL n w) (spL n v) (huL m u) true) := by
  have h := C20_ok (rw := rw) (st := st) (n := n) (cw := cw) (n2 := n) (cv := cv) (m := m) (cu := cu) (w := w) (v := v) (u := rwH u)
  rw [okSu_of hS hU] at h
  exact h
 have e15 := C15E_ok (cw := cw) (cv := cv) (cu := cu) hS hU
 have e18a := C18Ea_ok (cw := cw) (cv := cv) (cu := cu) hS hU
 have e18b := C18Eb_ok (cw := cw) (cv := cv) (cu := cu) hS hU
 have e21 := C21E_ok (cw := cw) (cv := cv) (cu := cu) hS hU
 have c12 := C12n_ok (cw := cw) (cv := cv) (m := m) (cu := cu) hS h0
 have c13 := C13_ok (rw := rw) (st := st) (n := n) (cw := cw) (cv := cv) (m := m) (cu := cu) (a := n) (b := n) (fl := (u (j % m)).fl) (br := (u (j % m)).br) (row0 := (u (j % m)).row) (wt := trW w 0 bs0) (vt := trV v 0 bs0) h0 h8
 have c14 := C14_ok (cw := cw) (cv := cv) (cu := cu) hS hU hh
 have x14 := C14_ok (cw := n) (cv := n) (cu := cu) hSx hU hh
 have x15 := C15_ok (cw := n) (cv := n) (cu := cu) hSx hU hh
 have x16 := C16_ok (cw := n) (cv := n) (cu := cu) hSx hU hh
 rw [surH_pt hr6, perH_pt hr6] at x14
 rw [perH_pt hr6] at x16
 have hwj : IntKind.i64.wrap ((j : Nat) : Int) = (j : Int) := wrapI (by omega) (by omega)
 have hmod : (Value.int .i64 ((j % m : Nat) : Int)) = .int .i64 ((IntKind.i64.wrap ((j : Nat) : Int)).tmod (m : Int)) := by rw [hwj]; rfl
 have hpart := huL_part u hh
 have hlen := huL_len m u
 have hm0 : ((m : Int) == (0 : Int)) = false := by simp only [beq_eq_false_iff_ne, ne_eq]; omega
 have l22 := loop22 (rw := rw) (st := st) (n := n) (cw := cw) (cv := cv) (m := m) (cu := cu) (w := w) (v := v) (u := u) (wt := trW w 0 bs0) (vt := trV v 0 bs0) h0 h8
 have q22 := cl22 (rw := rw) (st := st) (n := n) (cw := cw) (cv := cv) (m := m) (cu := cu) (w := w) (v := v) (u := u) (wt := trW w 0 bs0) (vt := trV v 0 bs0) 0
 have hl := loop4 (cw := cw) (cv := cv) (cu := cu) hS hU hh ht
 unfold s4 at hl
 obtain ⟨n', rfl⟩ : ∃ n', n = n' + 1 := ⟨n - 1, by omega⟩
 obtain ⟨e1, e2, e3⟩ := course_true (rw := 0) (st := st) (fl := (u (j % m)).fl) (br := (u (j % m)).br) hr6 ht (n' + 1) (Nat.le_refl _)
 have e2 : -1 ≤ roF st (u (j % m)) (trW w 0 bs0) (trV v 0 bs0) n' := e2
 have e3 : roF st (u (j % m)) (trW w 0 bs0) (trV v 0 bs0) n' ≤ (u (j % m)).row := e3
 rw [show crH st (ptS (trW w 0 bs0)) (ptS (trV v 0 bs0)) (u (j % m)) (n' + 1) = 2 ^ rowN (roF st (u (j % m)) (trW w 0 bs0) (trV v 0 bs0) n') from crH_pt (n := n' + 1) hr6 (Nat.le_refl _)] at x15
 have hgo : ∀ b, decide (roF st (u (j % m)) (trW w 0 bs0) (trV v 0 bs0) n' < 0) = b → goF (roF st (u (j % m)) (trW w 0 bs0) (trV v 0 bs0)) (n' + 1) = b := fun b h => h
 by_cases hp : fobits (foF st (u (j % m)) (trW w 0 bs0) (trV v 0 bs0)) (n' + 1) = 0
 · by_cases hg : roF st (u (j % m)) (trW w 0 bs0) (trV v 0 bs0) n' < 0
   · skip
     have hrn : rowN (roF st (u (j % m)) (trW w 0 bs0) (trV v 0 bs0) n') = 6 := if_pos hg
     have hlo : losN (2 ^ rowN (roF st (u (j % m)) (trW w 0 bs0) (trV v 0 bs0) n')) = 2 := by rw [hrn]; rfl
     rw [hlo] at x15
     rw [hgo true (decide_eq_true hg)] at hl
     rw [show befV (fobits (foF st (u (j % m)) (trW w 0 bs0) (trV v 0 bs0)) (n' + 1)) = .tuple ⟨[I 0, I 4]⟩ from if_pos hp] at x16
     rw [ffst_none hp] at hl
     rw [hp] at hl x14 hs1 hs2
     exact ⟨_, (f4tnn rw st j (n' + 1) cw cv m cu (j % m) w v u (trW w 0 bs0) (trV v 0 bs0) (roF st (u (j % m)) (trW w 0 bs0) (trV v 0 bs0)) (foF st (u (j % m)) (trW w 0 bs0) (trV v 0 bs0)) tabC 0 (surH st w v (n' + 1) (u (j % m))) (perH st w v (n' + 1) (u (j % m))) 0 _).mpr ⟨fun _ => ⟨C11t_ok, rfl, rfl⟩, fun _ => ⟨c20, rfl, e15, rfl, e18a, rfl, e18b, rfl, e21, rfl, tf hm0, ⟨⟨by omega, rfl⟩, hmod⟩, c12, rfl, q22, l22, ⟨⟨by omega, by omega⟩, rfl⟩, ⟨by rw [hlen]; omega, by rw [hpart]; rfl⟩, c13, rfl, cl4, hl, x14, rfl, c14, rfl, x15, rfl, x16, rfl, tt hs1, C11t_ok, rfl, rfl⟩⟩⟩
   · skip
     have hrn : rowN (roF st (u (j % m)) (trW w 0 bs0) (trV v 0 bs0) n') = (roF st (u (j % m)) (trW w 0 bs0) (trV v 0 bs0) n').toNat := if_neg hg
     have hlo : losN (2 ^ rowN (roF st (u (j % m)) (trW w 0 bs0) (trV v 0 bs0) n')) = 0 := by
      rw [hrn]
      unfold losN
      rw [if_neg (pow_not64 (by omega)), if_neg (by rw [Nat.testBit_two_pow, decide_eq_false (by omega)]; simp)]
     rw [hlo] at x15
     rw [hgo false (decide_eq_false hg)] at hl
     rw [show befV (fobits (foF st (u (j % m)) (trW w 0 bs0) (trV v 0 bs0)) (n' + 1)) = .tuple ⟨[I 0, I 4]⟩ from if_pos hp] at x16
     rw [ffst_none hp] at hl
     rw [hp] at hl x14 hs1 hs2
     exact ⟨_, (f4fnn rw st j (n' + 1) cw cv m cu (j % m) w v u (trW w 0 bs0) (trV v 0 bs0) (roF st (u (j % m)) (trW w 0 bs0) (trV v 0 bs0)) (foF st (u (j % m)) (trW w 0 bs0) (trV v 0 bs0)) tabC 0 (surH st w v (n' + 1) (u (j % m))) (perH st w v (n' + 1) (u (j % m))) 0 _).mpr ⟨fun _ => ⟨C11t_ok, rfl, rfl⟩, fun _ => ⟨c20, rfl, e15, rfl, e18a, rfl, e18b, rfl, e21, rfl, tf hm0, ⟨⟨by omega, rfl⟩, hmod⟩, c12, rfl, q22, l22, ⟨⟨by omega, by omega⟩, rfl⟩, ⟨by rw [hlen]; omega, by rw [hpart]; rfl⟩, c13, rfl, cl4, hl, x14, rfl, c14, rfl, x15, rfl, x16, rfl, tt hs1, C11t_ok, rfl, rfl⟩⟩⟩
 · by_cases hg : roF st (u (j % m)) (trW w 0 bs0) (trV v 0 bs0) n' < 0
   · skip
     have hrn : rowN (roF st (u (j % m)) (trW w 0 bs0) (trV v 0 bs0) n') = 6 := if_pos hg
     have hlo : losN (2 ^ rowN (roF st (u (j % m)) (trW w 0 bs0) (trV v 0 bs0) n')) = 2 := by rw [hrn]; rfl
     rw [hlo] at x15
     rw [hgo true (decide_eq_true hg)] at hl
     rw [show befV (fobits (foF st (u (j % m)) (trW w 0 bs0) (trV v 0 bs0)) (n' + 1)) = .tuple ⟨[I (tzN (fobits (foF st (u (j % m)) (trW w 0 bs0) (trV v 0 bs0)) (n' + 1)) : Nat), I 0]⟩ from if_neg hp] at x16
     rw [ffst_some h8 hp] at hl
     exact ⟨_, (f4tsn rw st j (n' + 1) cw cv m cu (j % m) w v u (trW w 0 bs0) (trV v 0 bs0) (roF st (u (j % m)) (trW w 0 bs0) (trV v 0 bs0)) (foF st (u (j % m)) (trW w 0 bs0) (trV v 0 bs0)) tabC (fobits (foF st (u (j % m)) (trW w 0 bs0) (trV v 0 bs0)) (n' + 1)) (surH st w v (n' + 1) (u (j % m))) (perH st w v (n' + 1) (u (j % m))) (tzN (fobits (foF st (u (j % m)) (trW w 0 bs0) (trV v 0 bs0)) (n' + 1))) _).mpr ⟨fun _ => ⟨C11t_ok, rfl, rfl⟩, fun _ => ⟨c20, rfl, e15, rfl, e18a, rfl, e18b, rfl, e21, rfl, tf hm0, ⟨⟨by omega, rfl⟩, hmod⟩, c12, rfl, q22, l22, ⟨⟨by omega, by omega⟩, rfl⟩, ⟨by rw [hlen]; omega, by rw [hpart]; rfl⟩, c13, rfl, cl4, hl, x14, rfl, c14, rfl, x15, rfl, x16, rfl, tt (nle _), tt (nle _), tt hs1, tt hs2, tt (nle _), C11t_ok, rfl, rfl⟩⟩⟩
   · skip
     have hrn : rowN (roF st (u (j % m)) (trW w 0 bs0) (trV v 0 bs0) n') = (roF st (u (j % m)) (trW w 0 bs0) (trV v 0 bs0) n').toNat := if_neg hg
     have hlo : losN (2 ^ rowN (roF st (u (j % m)) (trW w 0 bs0) (trV v 0 bs0) n')) = 0 := by
      rw [hrn]
      unfold losN
      rw [if_neg (pow_not64 (by omega)), if_neg (by rw [Nat.testBit_two_pow, decide_eq_false (by omega)]; simp)]
     rw [hlo] at x15
     rw [hgo false (decide_eq_false hg)] at hl
     rw [show befV (fobits (foF st (u (j % m)) (trW w 0 bs0) (trV v 0 bs0)) (n' + 1)) = .tuple ⟨[I (tzN (fobits (foF st (u (j % m)) (trW w 0 bs0) (trV v 0 bs0)) (n' + 1)) : Nat), I 0]⟩ from if_neg hp] at x16
     rw [ffst_some h8 hp] at hl
     exact ⟨_, (f4fsn rw st j (n' + 1) cw cv m cu (j % m) w v u (trW w 0 bs0) (trV v 0 bs0) (roF st (u (j % m)) (trW w 0 bs0) (trV v 0 bs0)) (foF st (u (j % m)) (trW w 0 bs0) (trV v 0 bs0)) tabC (fobits (foF st (u (j % m)) (trW w 0 bs0) (trV v 0 bs0)) (n' + 1)) (surH st w v (n' + 1) (u (j % m))) (perH st w v (n' + 1) (u (j % m))) (tzN (fobits (foF st (u (j % m)) (trW w 0 bs0) (trV v 0 bs0)) (n' + 1))) _).mpr ⟨fun _ => ⟨C11t_ok, rfl, rfl⟩, fun _ => ⟨c20, rfl, e15, rfl, e18a, rfl, e18b, rfl, e21, rfl, tf hm0, ⟨⟨by omega, rfl⟩, hmod⟩, c12, rfl, q22, l22, ⟨⟨by omega, by omega⟩, rfl⟩, ⟨by rw [hlen]; omega, by rw [hpart]; rfl⟩, c13, rfl, cl4, hl, x14, rfl, c14, rfl, x15, rfl, x16, rfl, tt (nle _), tt (nle _), tt hs1, tt hs2, tt (nle _), C11t_ok, rfl, rfl⟩⟩⟩
end
end Go.Ab
set_option maxRecDepth 100000
namespace Go.Ab
open Go Go.RowKit Go.Proofs
section
variable {W : World}
theorem go4 (hT : RcHolds W gl1) {rw st : Int} {j : Nat} {A B C T a b c t : Value} {z2 z3 z4 z5 : RoC} (h2 : RcHolds W z2) (h3 : RcHolds W z3) (h4 : RcHolds W z4) (h5 : RcHolds W z5)
    (ha : ∀ m : NMap, m 2 = some z2.1 → VRel m A a) (hb : ∀ m : NMap, m 3 = some z3.1 → VRel m B b) (hc : ∀ m : NMap, m 4 = some z4.1 → VRel m C c) (ht : ∀ m : NMap, m 5 = some z5.1 → VRel m T t)
    (hr : ∃ hs, vx.call 4 [.agg ⟨[I rw, I st, A, B, C]⟩, T, .int .u8 j] (retK fun r => r = .ret (.bool true)) (wlM [gl0, gl1, z2, z3, z4, z5]) hs) :
    Calls Tryd.prog 4 #[.agg #[I rw, I st, a, b, c], t, .int .u8 j] W fun e W' => e = .returned (.bool true) ∧ Below W.heap.size W W' := by
 refine calls_wl (l := [gl0, gl1, z2, z3, z4, z5]) (args' := [.agg ⟨[I rw, I st, a, b, c]⟩, t, .int .u8 j]) (Nat.le_of_ble_eq_true rfl) (fun x hx => ?_) gl_ok (surf_args (ha _ rfl) (hb _ rfl) (hc _ rfl) (ht _ rfl)) hr
 simp only [List.mem_cons, List.not_mem_nil, or_false] at hx
 rcases hx with rfl | rfl | rfl | rfl | rfl | rfl
 · exact holds_none rfl
 · exact hT
 · exact h2
 · exact h3
 · exact h4
 · exact h5
theorem run4 (hT : RcHolds W gl1) {rw st : Int} {j : Nat} {a b c t : Value} (ha : SpsIn W a) (hb : SpsIn W b) (hc : HutsIn W c) (ht : NumsIn W t) (hj : j < 256) :
    Calls Tryd.prog 4 #[.agg #[I rw, I st, a, b, c], t, .int .u8 j] W fun e W' => e = .returned (.bool true) ∧ Below W.heap.size W W' := by
 have h0 : RcHolds W no0 := holds_none rfl
 have hn : ∀ F : BInfo, RcHolds W (F, none) := fun F => holds_none rfl
 obtain ⟨F5, T, hT5⟩ : ∃ (F5 : BInfo) (T : Value), ∀ m : NMap, m 5 = some F5 → VRel m T t := by
  rcases ht with rfl | ⟨k, f, _, F, d, _, h⟩
  · exact ⟨⟨0, 0, 0⟩, nilS, fun _ _ => nil_rel⟩
  · exact ⟨F, _, fun m hm => h 5 m hm⟩
 rcases ha with rfl | ⟨n, w, F2, cw, hF2, ha⟩
 · rcases hb with rfl | ⟨n2, v, F3, cv, hF3, hb⟩
   · rcases hc with rfl | ⟨m, u, F4, cu, hF4, hc⟩
     · exact go4 hT (z2 := no0) (z3 := no0) (z4 := no0) (z5 := (F5, none)) h0 h0 h0 (hn _) (fun _ _ => nil_rel) (fun _ _ => nil_rel) (fun _ _ => nil_rel) hT5 (l4nnN T)
     · exact go4 hT (z2 := no0) (z3 := no0) (z4 := (F4, some (raL m u, 1))) (z5 := (F5, none)) h0 h0 hF4 (hn _) (fun _ _ => nil_rel) (fun _ _ => nil_rel) (hc 4) hT5 (law4n (c1 := 0) hj T)
   · by_cases e : n2 = 0
     · subst e
       rcases hc with rfl | ⟨m, u, F4, cu, hF4, hc⟩
       · exact go4 hT (z2 := no0) (z3 := (F3, none)) (z4 := no0) (z5 := (F5, none)) h0 (hn _) h0 (hn _) (fun _ _ => nil_rel) (hb 3) (fun _ _ => nil_rel) hT5 (l4nvN T)
       · exact go4 hT (z2 := no0) (z3 := (F3, none)) (z4 := (F4, some (raL m u, 1))) (z5 := (F5, none)) h0 (hn _) hF4 (hn _) (fun _ _ => nil_rel) (hb 3) (hc 4) hT5 (law4v hj T)
     · rcases hc with rfl | ⟨m, u, F4, cu, hF4, hc⟩
       · exact go4 hT (z2 := no0) (z3 := (F3, none)) (z4 := no0) (z5 := (F5, none)) h0 (hn _) h0 (hn _) (fun _ _ => nil_rel) (hb 3) (fun _ _ => nil_rel) hT5 (l4nkN e T)
       · exact go4 hT (z2 := no0) (z3 := (F3, none)) (z4 := (F4, none)) (z5 := (F5, none)) h0 (hn _) (hn _) (hn _) (fun _ _ => nil_rel) (hb 3) (hc 4) hT5 (l4nkP e T)
 · rcases hb with rfl | ⟨n2, v, F3, cv, hF3, hb⟩
   · by_cases e : 0 = n
     · subst e
       rcases hc with rfl | ⟨m, u, F4, cu, hF4, hc⟩
       · exact go4 hT (z2 := (F2, none)) (z3 := no0) (z4 := no0) (z5 := (F5, none)) (hn _) h0 h0 (hn _) (ha 2) (fun _ _ => nil_rel) (fun _ _ => nil_rel) hT5 (l4wnN T)
       · exact go4 hT (z2 := (F2, none)) (z3 := no0) (z4 := (F4, some (raL m u, 1))) (z5 := (F5, none)) (hn _) h0 hF4 (hn _) (ha 2) (fun _ _ => nil_rel) (hc 4) hT5 (law4w hj T)
     · rcases hc with rfl | ⟨m, u, F4, cu, hF4, hc⟩
       · exact go4 hT (z2 := (F2, none)) (z3 := no0) (z4 := no0) (z5 := (F5, none)) (hn _) h0 h0 (hn _) (ha 2) (fun _ _ => nil_rel) (fun _ _ => nil_rel) hT5 (l4knN e T)
       · exact go4 hT (z2 := (F2, none)) (z3 := no0) (z4 := (F4, none)) (z5 := (F5, none)) (hn _) h0 (hn _) (hn _) (ha 2) (fun _ _ => nil_rel) (hc 4) hT5 (l4knP e T)
   · rcases hc with rfl | ⟨m, u, F4, cu, hF4, hc⟩
     · exact go4 hT (z2 := (F2, some (spL n w, 1))) (z3 := (F3, some (spL n2 v, 1))) (z4 := no0) (z5 := (F5, none)) hF2 hF3 h0 (hn _) (ha 2) (hb 3) (fun _ _ => nil_rel) hT5 (law4N T)
     · by_cases hE : okSu rw st n n2 m w v u = false ∨ m = 0 ∨ n = 0
       · exact go4 hT (z2 := (F2, some (spL n w, 1))) (z3 := (F3, some (spL n2 v, 1))) (z4 := (F4, some (raL m u, 1))) (z5 := (F5, none)) hF2 hF3 hF4 (hn _) (ha 2) (hb 3) (hc 4) hT5 (law4R hj hE T)
       · have hok : okSu rw st n n2 m w v u = true := by
          cases h : okSu rw st n n2 m w v u with
          | true => rfl
          | false => exact absurd (.inl h) hE
         have hm : 0 < m := by
          rcases Nat.eq_zero_or_pos m with h | h
          · exact absurd (.inr (.inl h)) hE
          · exact h
         have hnp : 0 < n := by
          rcases Nat.eq_zero_or_pos n with h | h
          · exact absurd (.inr (.inr h)) hE
          · exact h
         obtain ⟨e, hS, h5, hall⟩ := okSu_inv hok
         subst e
         obtain ⟨hl, hU⟩ := huts_conv hS.rw1 hS.rw6 h5 hall
         rw [hl] at hF4
         obtain ⟨r, rfl⟩ : ∃ r : Nat, rw = (r : Int) := ⟨rw.toNat, (Int.toNat_of_nonneg (by have := hS.rw1; omega)).symm⟩
         rcases ht with rfl | ⟨k, f, hf, F, d, hF, ht⟩
         · exact go4 hT (z2 := (F2, some (spL n2 w, 1))) (z3 := (F3, some (spL n2 v, 1))) (z4 := (F4, some (huL m fun i => toH (u i), 1))) (z5 := no0) hF2 hF3 hF4 h0 (ha 2) (hb 3) (hc 4) (fun _ _ => nil_rel) (law4_En hS hU hnp hm hj)
         · have hF' : RcHolds W (F, some (u16L k f, 2)) := fun q hq => by cases hq; exact hF (u16L k f, 1) rfl
           exact go4 hT (z2 := (F2, some (spL n2 w, 1))) (z3 := (F3, some (spL n2 v, 1))) (z4 := (F4, some (huL m fun i => toH (u i), 1))) (z5 := (F, some (u16L k f, 2))) hF2 hF3 hF4 hF' (ha 2) (hb 3) (hc 4) (ht 5) (law4_E hS hU hnp hm hj fun i _ => hf i)
end
end Go.Ab
namespace Go.Ab
open Go Go.RowKit Go.Lib
theorem laidMet_tail {P : Program} {x : String × DataW Unit} {rest : List (String × DataW Unit)} {W : World} (h : laidMet P (x :: rest) W) : laidMet P rest W := by
 obtain ⟨ps, ⟨g, t, cs, fuel, p, q, hg, ht, hvar, hd, hrest, rfl⟩, hnd, hall⟩ := h
 refine ⟨q, hrest, (List.nodup_append.1 hnd).2.1, fun b off hm => hall b off (List.mem_append_right _ hm)⟩
end Go.Ab
