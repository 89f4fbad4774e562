/- package surf: SurfEnough, forms of surfs of which slices are nil. -/
import Derived.Test.YtoelpblmhmhglaaDoorSJ
import Derived.Test.YtoelpblmhmhglaaDoorSF
import Derived.Test.YtoelpblmhmhglaaDoorSD
set_option maxRecDepth 100000
namespace Go.Ab
open Go Go.RowKit Go.Proofs
noncomputable def B6n : List TBw := [.dead, .list 1 .ro, .dead, .dead, .list 1 .ro, .cells SuTn 25 .var, .dead, .dead, .cells (.hole (.hole (.hole .nil))) 36 .var]
noncomputable def T6an : Tw := ⟨157, mkS 157 [(2, .hole .nil), (3, .ptr 5 0 .nil), (7, .hole .nil), (8, .ptr 8 0 .nil), (9, .hole .nil), (11, .hole .nil), (86, .slice 9 0 .nil), (87, .hole .nil), (88, .hole .nil)], 10, B6n ++ [.list 3 .row]⟩
noncomputable def T6bn : Tw := ⟨157, mkS 157 [(3, .ptr 5 0 .nil), (7, .hole .nil), (8, .ptr 8 0 .nil), (11, .hole .nil), (125, .slice 10 0 .nil), (126, .hole .nil), (127, .hole .nil)], 11, B6n ++ [.dead, .list 3 .row]⟩
noncomputable def h6an (rw st : Int) (c1 m cu hut bk fr : Nat) (mo : Int) (fl br : Int) (row : Nat) (tb us : List Value) (g : Nat → Int) (i : Nat) : Hw :=
  ⟨⟨[.int .u8 mo, I hut, I bk, I fr, I 3, I i, I rw, I st, I fl, I br, I row], [(3, 3), (m, cu)]⟩, [tb, us, ints 3 g], []⟩
noncomputable def h6bn (rw st : Int) (c1 m cu hut fr : Nat) (fl br : Int) (row : Nat) (tb us : List Value) (g : Nat → Int) (i : Nat) : Hw :=
  ⟨⟨[I hut, I fr, I 3, I i, I rw, I st, I fl, I br, I row], [(3, 3), (m, cu)]⟩, [tb, us, ints 3 g], []⟩
noncomputable def B6v : List TBw := [.dead, .list 1 .ro, .dead, .dead, .list 1 .ro, .cells SuTv 25 .var, .dead, .dead, .cells (.hole (.hole (.hole .nil))) 36 .var]
noncomputable def T6av : Tw := ⟨157, mkS 157 [(2, .hole .nil), (3, .ptr 5 0 .nil), (7, .hole .nil), (8, .ptr 8 0 .nil), (9, .hole .nil), (11, .hole .nil), (86, .slice 9 0 .nil), (87, .hole .nil), (88, .hole .nil)], 10, B6v ++ [.list 3 .row]⟩
noncomputable def T6bv : Tw := ⟨157, mkS 157 [(3, .ptr 5 0 .nil), (7, .hole .nil), (8, .ptr 8 0 .nil), (11, .hole .nil), (125, .slice 10 0 .nil), (126, .hole .nil), (127, .hole .nil)], 11, B6v ++ [.dead, .list 3 .row]⟩
noncomputable def h6av (rw st : Int) (c1 m cu hut bk fr : Nat) (mo : Int) (fl br : Int) (row : Nat) (tb us : List Value) (g : Nat → Int) (i : Nat) : Hw :=
  ⟨⟨[.int .u8 mo, I hut, I bk, I fr, I 3, I i, I rw, I st, I fl, I br, I row], [(3, 3), (0, c1), (m, cu)]⟩, [tb, us, ints 3 g], []⟩
noncomputable def h6bv (rw st : Int) (c1 m cu hut fr : Nat) (fl br : Int) (row : Nat) (tb us : List Value) (g : Nat → Int) (i : Nat) : Hw :=
  ⟨⟨[I hut, I fr, I 3, I i, I rw, I st, I fl, I br, I row], [(3, 3), (0, c1), (m, cu)]⟩, [tb, us, ints 3 g], []⟩
noncomputable def B6w : List TBw := [.dead, .list 1 .ro, .dead, .dead, .list 1 .ro, .cells SuTw 25 .var, .dead, .dead, .cells (.hole (.hole (.hole .nil))) 36 .var]
noncomputable def T6aw : Tw := ⟨157, mkS 157 [(2, .hole .nil), (3, .ptr 5 0 .nil), (7, .hole .nil), (8, .ptr 8 0 .nil), (9, .hole .nil), (11, .hole .nil), (86, .slice 9 0 .nil), (87, .hole .nil), (88, .hole .nil)], 10, B6w ++ [.list 3 .row]⟩
noncomputable def T6bw : Tw := ⟨157, mkS 157 [(3, .ptr 5 0 .nil), (7, .hole .nil), (8, .ptr 8 0 .nil), (11, .hole .nil), (125, .slice 10 0 .nil), (126, .hole .nil), (127, .hole .nil)], 11, B6w ++ [.dead, .list 3 .row]⟩
noncomputable def h6aw (rw st : Int) (c1 m cu hut bk fr : Nat) (mo : Int) (fl br : Int) (row : Nat) (tb us : List Value) (g : Nat → Int) (i : Nat) : Hw :=
  ⟨⟨[.int .u8 mo, I hut, I bk, I fr, I 3, I i, I rw, I st, I fl, I br, I row], [(3, 3), (0, c1), (m, cu)]⟩, [tb, us, ints 3 g], []⟩
noncomputable def h6bw (rw st : Int) (c1 m cu hut fr : Nat) (fl br : Int) (row : Nat) (tb us : List Value) (g : Nat → Int) (i : Nat) : Hw :=
  ⟨⟨[I hut, I fr, I 3, I i, I rw, I st, I fl, I br, I row], [(3, 3), (0, c1), (m, cu)]⟩, [tb, us, ints 3 g], []⟩
noncomputable def mLH5 (tb us : List Value) : Mem := ⟨fillX [.dead, .cells tb 1 .ro, .dead, .dead, .cells us 1 .ro] 0 .nil, 5⟩
noncomputable def mL05 (tb : List Value) : Mem := ⟨fillX [.dead, .cells tb 1 .ro, .dead, .dead, .dead] 0 .nil, 5⟩
noncomputable def mLN5 (tb ws vs : List Value) : Mem := ⟨fillX [.dead, .cells tb 1 .ro, .cells ws 1 .ro, .cells vs 1 .ro, .dead] 0 .nil, 5⟩
end Go.Ab
set_option maxRecDepth 100000
namespace Go.Ab
open Go Go.RowKit Go.Proofs
theorem f6 (rw : Nat) (st wh mo : Int) (n cw cv m cu hut bk fr : Nat) (w v : Nat → Sp) (u : Nat → Hut) (g g2 : Nat → Int) (tb : List Value) (R : ARes → Prop) : (vx.call 6 [suV rw st n cw cv m cu, .int .u8 wh, .int .u8 mo] (retK R) (mSu tb (spL n w) (spL n v) (huL m u)) ([(21, .split ((9, Hint.con (C11t tb)) :: []) ((4, Hint.con (C20 (↑rw : Int) st n cw n cv m cu (spL n w) (spL n v) (huL m u) true)) :: (7, .val (.bool false)) :: (7, .val (.int .i64 hut)) :: (4, .val (.pointer (.some ⟨((4 : Nat)), ((0 : Nat) + hut * (3 : Nat)), .none⟩))) :: (0, .val (.agg ⟨[(.int .i64 ((u hut).fl)), (.int .i64 ((u hut).br)), (.int .i64 ((↑(u hut).row : Int)))]⟩)) :: (4, Hint.con (CS1 (↑rw : Int) st n cw cv m cu tb (spL n w) (spL n v) (huL m u) (↑hut : Int) (Value.tuple { toList := [I (↑bk : Int), I (0 : Int)] }))) :: (7, Hint.con (CS1 (↑rw : Int) st n cw cv m cu tb (spL n w) (spL n v) (huL m u) (↑hut : Int) (Value.tuple { toList := [I (↑fr : Int), I (0 : Int)] }))) :: (17, .val (.bool false)) :: (7, .val (.bool false)) :: (14, Hint.loopW T6a (AExit.exit (0 : Nat)) T6a fun x => h6a (↑rw : Int) st n cw cv m cu hut bk fr mo (u hut).fl (u hut).br (u hut).row tb (spL n w) (spL n v) (huL m u) g (3 : Nat)) :: (12, Hint.loopW T6b (AExit.exit (2 : Nat)) T6b fun x => h6b (↑rw : Int) st n cw cv m cu hut fr (u hut).fl (u hut).br (u hut).row tb (spL n w) (spL n v) (huL m u) g2 (3 : Nat)) :: (0, Hint.con (C11t tb)) :: []))])) =
((((decide ((if (↑m : Int) > if (↑n : Int) > (↑n : Int) then (↑n : Int) else (↑n : Int) then (↑m : Int) else if (↑n : Int) > (↑n : Int) then (↑n : Int) else (↑n : Int)) > (40 : Int))) = true → ((ConOK Tryd.prog ((11 : Nat)) (C11t tb)) ∧ (Con.pre (C11t tb) ⟨⟨[], []⟩, [(tb)]⟩) ∧
R (.ret (.bool true)))) ∧
((decide ((if (↑m : Int) > if (↑n : Int) > (↑n : Int) then (↑n : Int) else (↑n : Int) then (↑m : Int) else if (↑n : Int) > (↑n : Int) then (↑n : Int) else (↑n : Int)) > (40 : Int))) = false → ((ConOK Tryd.prog ((20 : Nat)) (C20 (↑rw : Int) st n cw n cv m cu (spL n w) (spL n v) (huL m u) true)) ∧ (Con.pre (C20 (↑rw : Int) st n cw n cv m cu (spL n w) (spL n v) (huL m u) true) ⟨⟨[(.int .i64 rw), (.int .i64 st)], [⟨n, cw⟩, ⟨n, cv⟩, ⟨m, cu⟩]⟩, [(spL n w), (spL n v), (huL m u)]⟩) ∧
((((some (.bool ((↑m : Int) == (0 : Int))) : Option Value) = some (.bool false))) ∧
((((((↑m : Int) ≠ (0 : Int))) ∧ ((IntKind.i64 = IntKind.i64))) ∧ (((.int .i64 hut) : Value) = (.int .i64 ((IntKind.i64.wrap wh).tmod (↑m : Int))))) ∧
((((((0 : Int) ≤ (↑hut : Int))) ∧ (((↑hut : Int) < (↑m : Int)))) ∧ (((.pointer (.some ⟨((4 : Nat)), ((0 : Nat) + hut * (3 : Nat)), .none⟩)) : Value) = (.pointer (.some ⟨((4 : Nat)), ((0 : Nat) + hut * (3 : Nat)), .none⟩)))) ∧
(((((0 : Nat) + hut * (3 : Nat) + (3 : Nat) ≤ (huL m u).length)) ∧ (((.agg ⟨[(.int .i64 ((u hut).fl)), (.int .i64 ((u hut).br)), (.int .i64 ((↑(u hut).row : Int)))]⟩) : Value) = (.agg ⟨(List.take ((3 : Nat)) (List.drop ((0 : Nat) + hut * (3 : Nat)) (huL m u)))⟩))) ∧
((ConOK Tryd.prog ((23 : Nat)) (CS1 (↑rw : Int) st n cw cv m cu tb (spL n w) (spL n v) (huL m u) (↑hut : Int) (Value.tuple { toList := [I (↑bk : Int), I (0 : Int)] }))) ∧ (Con.pre (CS1 (↑rw : Int) st n cw cv m cu tb (spL n w) (spL n v) (huL m u) (↑hut : Int) (Value.tuple { toList := [I (↑bk : Int), I (0 : Int)] })) ⟨⟨[(.int .i64 rw), (.int .i64 st), (.int .i64 hut)], [⟨n, cw⟩, ⟨n, cv⟩, ⟨m, cu⟩]⟩, [(tb), (spL n w), (spL n v), (huL m u)]⟩) ∧
((ConOK Tryd.prog ((24 : Nat)) (CS1 (↑rw : Int) st n cw cv m cu tb (spL n w) (spL n v) (huL m u) (↑hut : Int) (Value.tuple { toList := [I (↑fr : Int), I (0 : Int)] }))) ∧ (Con.pre (CS1 (↑rw : Int) st n cw cv m cu tb (spL n w) (spL n v) (huL m u) (↑hut : Int) (Value.tuple { toList := [I (↑fr : Int), I (0 : Int)] })) ⟨⟨[(.int .i64 rw), (.int .i64 st), (.int .i64 hut)], [⟨n, cw⟩, ⟨n, cv⟩, ⟨m, cu⟩]⟩, [(tb), (spL n w), (spL n v), (huL m u)]⟩) ∧
((((some (.bool (decide ((↑bk : Int) > (10 : Int)))) : Option Value) = some (.bool false))) ∧
((((some (.bool (decide ((↑fr : Int) > (40 : Int)))) : Option Value) = some (.bool false))) ∧
((ClW ⟨⟨[(.int .u8 (mo)), (.int .i64 hut), (.int .i64 bk), (.int .i64 fr), (.int .i64 ((↑(3 : Nat) : Int))), (.int .i64 0), (.int .i64 rw), (.int .i64 st), (.int .i64 ((u hut).fl)), (.int .i64 ((u hut).br)), (.int .i64 ((↑(u hut).row : Int)))], [⟨((3 : Nat)), ((3 : Nat))⟩, ⟨n, cw⟩, ⟨n, cv⟩, ⟨m, cu⟩]⟩, [(tb), (spL n w), (spL n v), (huL m u), [(.int .i64 (IntKind.i64.wrap ((↑bk : Int) - (1 : Int)))), (.int .i64 bk), (.int .i64 (if IntKind.i64.wrap ((↑bk : Int) + (IntKind.i64.wrap mo).tmod (4 : Int)) < (10 : Int) then IntKind.i64.wrap ((↑bk : Int) + (IntKind.i64.wrap mo).tmod (4 : Int)) else (10 : Int)))]], []⟩) ∧ (LoopOW Tryd.prog .none p6a (T6a) ⟨⟨[(.int .u8 (mo)), (.int .i64 hut), (.int .i64 bk), (.int .i64 fr), (.int .i64 ((↑(3 : Nat) : Int))), (.int .i64 0), (.int .i64 rw), (.int .i64 st), (.int .i64 ((u hut).fl)), (.int .i64 ((u hut).br)), (.int .i64 ((↑(u hut).row : Int)))], [⟨((3 : Nat)), ((3 : Nat))⟩, ⟨n, cw⟩, ⟨n, cv⟩, ⟨m, cu⟩]⟩, [(tb), (spL n w), (spL n v), (huL m u), [(.int .i64 (IntKind.i64.wrap ((↑bk : Int) - (1 : Int)))), (.int .i64 bk), (.int .i64 (if IntKind.i64.wrap ((↑bk : Int) + (IntKind.i64.wrap mo).tmod (4 : Int)) < (10 : Int) then IntKind.i64.wrap ((↑bk : Int) + (IntKind.i64.wrap mo).tmod (4 : Int)) else (10 : Int)))]], []⟩ (.exit ((0 : Nat))) (T6a) ⟨⟨[(.int .u8 (mo)), (.int .i64 hut), (.int .i64 bk), (.int .i64 fr), (.int .i64 3), (.int .i64 ((↑(3 : Nat) : Int))), (.int .i64 rw), (.int .i64 st), (.int .i64 ((u hut).fl)), (.int .i64 ((u hut).br)), (.int .i64 ((↑(u hut).row : Int)))], [⟨((3 : Nat)), ((3 : Nat))⟩, ⟨n, cw⟩, ⟨n, cv⟩, ⟨m, cu⟩]⟩, [(tb), (spL n w), (spL n v), (huL m u), [(.int .i64 (g (0 : Nat))), (.int .i64 (g (1 : Nat))), (.int .i64 (g (2 : Nat)))]], []⟩) ∧
((ClW ⟨⟨[(.int .i64 hut), (.int .i64 fr), (.int .i64 ((↑(3 : Nat) : Int))), (.int .i64 0), (.int .i64 rw), (.int .i64 st), (.int .i64 ((u hut).fl)), (.int .i64 ((u hut).br)), (.int .i64 ((↑(u hut).row : Int)))], [⟨((3 : Nat)), ((3 : Nat))⟩, ⟨n, cw⟩, ⟨n, cv⟩, ⟨m, cu⟩]⟩, [(tb), (spL n w), (spL n v), (huL m u), [(.int .i64 (IntKind.i64.wrap ((↑fr : Int) - (1 : Int)))), (.int .i64 fr), (.int .i64 (if IntKind.i64.wrap ((↑fr : Int) + (IntKind.i64.wrap mo).tmod (9 : Int)) < (40 : Int) then IntKind.i64.wrap ((↑fr : Int) + (IntKind.i64.wrap mo).tmod (9 : Int)) else (40 : Int)))]], []⟩) ∧ (LoopOW Tryd.prog .none p6b (T6b) ⟨⟨[(.int .i64 hut), (.int .i64 fr), (.int .i64 ((↑(3 : Nat) : Int))), (.int .i64 0), (.int .i64 rw), (.int .i64 st), (.int .i64 ((u hut).fl)), (.int .i64 ((u hut).br)), (.int .i64 ((↑(u hut).row : Int)))], [⟨((3 : Nat)), ((3 : Nat))⟩, ⟨n, cw⟩, ⟨n, cv⟩, ⟨m, cu⟩]⟩, [(tb), (spL n w), (spL n v), (huL m u), [(.int .i64 (IntKind.i64.wrap ((↑fr : Int) - (1 : Int)))), (.int .i64 fr), (.int .i64 (if IntKind.i64.wrap ((↑fr : Int) + (IntKind.i64.wrap mo).tmod (9 : Int)) < (40 : Int) then IntKind.i64.wrap ((↑fr : Int) + (IntKind.i64.wrap mo).tmod (9 : Int)) else (40 : Int)))]], []⟩ (.exit ((2 : Nat))) (T6b) ⟨⟨[(.int .i64 hut), (.int .i64 fr), (.int .i64 3), (.int .i64 ((↑(3 : Nat) : Int))), (.int .i64 rw), (.int .i64 st), (.int .i64 ((u hut).fl)), (.int .i64 ((u hut).br)), (.int .i64 ((↑(u hut).row : Int)))], [⟨((3 : Nat)), ((3 : Nat))⟩, ⟨n, cw⟩, ⟨n, cv⟩, ⟨m, cu⟩]⟩, [(tb), (spL n w), (spL n v), (huL m u), [(.int .i64 (g2 (0 : Nat))), (.int .i64 (g2 (1 : Nat))), (.int .i64 (g2 (2 : Nat)))]], []⟩) ∧
((ConOK Tryd.prog ((11 : Nat)) (C11t tb)) ∧ (Con.pre (C11t tb) ⟨⟨[], []⟩, [(tb)]⟩) ∧
R (.ret (.bool true))))))))))))))))) := by kernel_rfl
def g3 (b : Nat) (mo md top : Int) : Nat → Int
  | 0 => IntKind.i64.wrap ((b : Int) - 1)
  | 1 => b
  | _ => if IntKind.i64.wrap ((b : Int) + (IntKind.i64.wrap mo).tmod md) < top then IntKind.i64.wrap ((b : Int) + (IntKind.i64.wrap mo).tmod md) else top
theorem g3_le {b : Nat} {mo md top : Int} (hb : (b : Int) ≤ top) (ht : top ≤ 100) (i : Nat) : g3 b mo md top i ≤ top := by
  match i with
  | 0 => show IntKind.i64.wrap ((b : Int) - 1) ≤ top; rw [wrapI (by omega) (by omega)]; omega
  | 1 => exact hb
  | i + 2 => show (if _ then _ else top) ≤ top; split <;> omega
section
variable {rw : Nat} {st : Int} {n cw cv m cu j k : Nat} {w v : Nat → Sp} {u : Nat → Hut}
theorem law6_E (hS : SOK rw st n w v) (hU : HUK rw m u) (hm : 0 < m) (hj : j < 256) :
    ∃ hs, vx.call 6 [suV rw st n cw cv m cu, .int .u8 j, .int .u8 k] (retK fun r => r = .ret (.bool true)) (mSu tabC (spL n w) (spL n v) (huL m u)) hs := by
  have h8 := hS.n8
  have h5 := hU.m5
  have h6 := hS.rw6
  have hh : j % m < m := Nat.mod_lt _ hm
  obtain ⟨u0, u1, u2, u3, u4⟩ := hU.u (j % m) hh
  have hr6 : (u (j % m)).row < 6 := by omega
  have c20 : ConOK Tryd.prog 20 (C20 rw st n cw n cv m cu (spL n w) (spL n v) (huL m u) true) := by
    have h := C20_ok (rw := rw) (st := st) (n := n) (cw := cw) (n2 := n) (cv := cv) (m := m) (cu := cu) (w := w) (v := v) (u := rwH u)
    rw [okSu_of hS hU] at h
    exact h
  have c23 := C23_ok (cw := cw) (cv := cv) (cu := cu) hS hU hh
  have c24 := C24_ok (cw := cw) (cv := cv) (cu := cu) hS hU hh
  have hbk : brkH st w v n (u (j % m)) ≤ 10 := brk_le hS hr6
  have hfr : floH st w v n (u (j % m)) ≤ 40 := flo_le hS hr6
  have hwj : IntKind.i64.wrap ((j : Nat) : Int) = (j : Int) := wrapI (by omega) (by omega)
  have hmod : (Value.int .i64 ((j % m : Nat) : Int)) = .int .i64 ((IntKind.i64.wrap ((j : Nat) : Int)).tmod (m : Int)) := by rw [hwj]; rfl
  have hpart := huL_part u hh
  have hlen := huL_len m u
  have hm0 : ((m : Int) == (0 : Int)) = false := by simp only [beq_eq_false_iff_ne, ne_eq]; omega
  have la := loop6a (cw := cw) (cv := cv) (cu := cu) (mo := k) (fr := floH st w v n (u (j % m))) (g := g3 (brkH st w v n (u (j % m))) k 4 10) hS hU hh (fun i _ => g3_le (by omega) (by omega) i)
  have lb := loop6b (cw := cw) (cv := cv) (cu := cu) (g := g3 (floH st w v n (u (j % m))) k 9 40) hS hU hh (fun i _ => g3_le (by omega) (by omega) i)
  exact ⟨_, (f6 rw st j k n cw cv m cu (j % m) (brkH st w v n (u (j % m))) (floH st w v n (u (j % m))) w v u (g3 (brkH st w v n (u (j % m))) k 4 10) (g3 (floH st w v n (u (j % m))) k 9 40) tabC _).mpr ⟨fun _ => ⟨C11t_ok, rfl, rfl⟩, fun _ => ⟨c20, rfl, tf hm0, ⟨⟨by omega, rfl⟩, hmod⟩, ⟨⟨by omega, by omega⟩, rfl⟩, ⟨by rw [hlen]; omega, by rw [hpart]; rfl⟩, c23, rfl, c24, rfl, tf (decide_eq_false (by omega)), tf (decide_eq_false (by omega)), cl6 (g := g3 (brkH st w v n (u (j % m))) k 4 10), la, cl6 (g := g3 (floH st w v n (u (j % m))) k 9 40), lb, C11t_ok, rfl, rfl⟩⟩⟩
end
end Go.Ab
