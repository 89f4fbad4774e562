/- package surf: what SurfTrue's tests come to. -/
import Derived.Test.YtoelpblmhmhglaaDoorPY
set_option maxRecDepth 100000
namespace Go.Ab
open Go Go.RowKit Go.Proofs
theorem bt_tab : ((List.range 256).all fun c => (List.range 9).all fun r => bits BinOp.and IntKind.i64 ((c : Int) / (2 : Int) ^ r) (1 : Int) == (if c.testBit r then 1 else 0)) = true := by kernel_rfl
theorem bt_eq {c r : Nat} (hc : c < 256) (hr : r < 9) : bits BinOp.and IntKind.i64 ((c : Int) / (2 : Int) ^ r) (1 : Int) = if c.testBit r then 1 else 0 :=
  beq_iff_eq.1 (List.all_eq_true.1 (List.all_eq_true.1 bt_tab c (List.mem_range.2 hc)) r (List.mem_range.2 hr))
theorem bt1 {c r : Nat} (hc : c < 256) (hr : r < 9) (h : c.testBit r = true) : (bits BinOp.and IntKind.i64 ((c : Int) / (2 : Int) ^ r) (1 : Int) == (0 : Int)) = false := by
  rw [bt_eq hc hr, if_pos h]; rfl
theorem bt0 {c r : Nat} (hc : c < 256) (hr : r < 9) (h : c.testBit r = false) : (bits BinOp.and IntKind.i64 ((c : Int) / (2 : Int) ^ r) (1 : Int) == (1 : Int)) = false := by
  rw [bt_eq hc hr, if_neg (by rw [h]; simp)]; rfl
theorem tz_tab : ((List.range 256).all fun y => decide (y = 0) || ((bits BinOp.and IntKind.i64 (y : Int) (IntKind.i64.wrap (IntKind.i64.wrap ((1 : Int) * (2 : Int) ^ tzN y) - (1 : Int))) == (0 : Int)) && (y.testBit (tzN y) && (decide (tzN y < 8) && (List.range 8).all fun i => !y.testBit i || decide (tzN y ≤ i))))) = true := by kernel_rfl
theorem tz_eq {y : Nat} (hy : y < 256) (h0 : y ≠ 0) : (bits BinOp.and IntKind.i64 (y : Int) (IntKind.i64.wrap (IntKind.i64.wrap ((1 : Int) * (2 : Int) ^ tzN y) - (1 : Int))) != (0 : Int)) = false ∧ y.testBit (tzN y) = true ∧ tzN y < 8 ∧ ∀ i, i < 8 → y.testBit i = true → tzN y ≤ i := by
  have h := List.all_eq_true.1 tz_tab y (List.mem_range.2 hy)
  rw [decide_eq_false h0, Bool.false_or] at h
  simp only [Bool.and_eq_true, beq_iff_eq, decide_eq_true_eq, List.all_eq_true, List.mem_range, Bool.or_eq_true, Bool.not_eq_true'] at h
  obtain ⟨h1, h2, h3, h4⟩ := h
  refine ⟨by rw [h1]; rfl, h2, h3, fun i hi hb => ?_⟩
  rcases h4 i hi with h | h
  · rw [hb] at h; cases h
  · exact h
theorem an_tab : ((List.range 256).all fun x => (List.range 256).all fun y => !(Nat.beq (x &&& y) x) || bits BinOp.andNot IntKind.i64 (x : Int) (y : Int) == (0 : Int)) = true := by kernel_rfl
theorem an_eq {x y : Nat} (hx : x < 256) (hy : y < 256) (h : ∀ i, x.testBit i = true → y.testBit i = true) : (bits BinOp.andNot IntKind.i64 (x : Int) (y : Int) != (0 : Int)) = false := by
  have e : x &&& y = x := by
    apply Nat.eq_of_testBit_eq
    intro i
    rw [Nat.testBit_and]
    cases hb : x.testBit i with
    | false => rfl
    | true => rw [h i hb]; rfl
  have t := List.all_eq_true.1 (List.all_eq_true.1 an_tab x (List.mem_range.2 hx)) y (List.mem_range.2 hy)
  rw [e, Nat.beq_refl, Bool.not_true, Bool.false_or, beq_iff_eq] at t
  rw [t]; rfl
theorem div_pow {a r : Nat} (h : a < 2 ^ r) : (((a : Int) / (2 : Int) ^ r) != (0 : Int)) = false := by
  have e : ((2 : Int) ^ r) = ((2 ^ r : Nat) : Int) := by simp
  have e2 : ((a : Int) / (2 : Int) ^ r) = ((a / 2 ^ r : Nat) : Int) := by rw [e]; rfl
  rw [e2, Nat.div_eq_of_lt h]; rfl
theorem dpF_eq {st a : Int} {r : Nat} (h0 : 0 ≤ st) (h4 : st ≤ 4) (ha : 0 ≤ a) (h30 : a ≤ 40) (hr : r < 7) : ∃ z, 0 ≤ z ∧ z ≤ 24 ∧ dpF st a r = (if a - z > 0 then a - z else 0) ∧ z = st * (r : Int) := by
  have h1 : 0 ≤ st * (r : Int) := Int.mul_nonneg h0 (by omega)
  have h2 : st * (r : Int) ≤ 4 * 6 := Int.mul_le_mul h4 (by omega) (by omega) (by omega)
  refine ⟨st * (r : Int), h1, by omega, ?_, rfl⟩
  have e1 : IntKind.i64.wrap (st * (r : Int)) = st * (r : Int) := wrapI (by omega) (by omega)
  unfold dpF
  rw [e1]
  generalize st * (r : Int) = z at *
  have e2 : IntKind.i64.wrap (a - z) = a - z := wrapI (by omega) (by omega)
  rw [e2]
theorem dp_mono {st a b : Int} {r : Nat} (h0 : 0 ≤ st) (h4 : st ≤ 4) (ha : 0 ≤ a) (hab : a ≤ b) (h30 : b ≤ 40) (hr : r < 7) : dpF st a r ≤ dpF st b r := by
  obtain ⟨z, z0, z1, e1, hz⟩ := dpF_eq h0 h4 ha (by omega) hr
  obtain ⟨z', z0', z1', e2, hz'⟩ := dpF_eq (a := b) h0 h4 (by omega) h30 hr
  rw [e1, e2]
  have : z = z' := by rw [hz, hz']
  subst this
  split <;> split <;> omega
section
variable {st : Int} {w v : Nat → Sp} {n : Nat}
def TrOK (w v : Nat → Sp) (n : Nat) (wt vt : Nat → Int) : Prop := ∀ i, i < n → (w i).lo ≤ wt i ∧ wt i ≤ (w i).hi ∧ (v i).lo ≤ vt i ∧ vt i ≤ (v i).hi
variable {wt vt : Nat → Int} {x : Hut}
theorem perH_bit {i : Nat} (hn : n ≤ 8) : (perH st w v n x).testBit i = (decide (i < n) && (ofO st w v x.fl x.br i (crs st w v x.fl x.br x.row i)).fl) := hrS_bit (p := selP 70) n i
theorem surH_bit {i : Nat} (hn : n ≤ 8) : (surH st w v n x).testBit i = (decide (i < n) && !(ofO st w v x.fl x.br i (crs st w v x.fl x.br x.row i)).re) := hrS_bit (p := selP 69) n i
theorem surH_lt (hn : n ≤ 8) : surH st w v n x < 256 := lt_256 (hrS_lt hn) hn
theorem perH_has (hr : x.row < 6) (hn : n ≤ 8) (ht : TrOK w v n wt vt) {i : Nat} (hi : i < n) (h : floF st x.fl x.br x.row wt vt i = true) : (perH st w v n x).testBit i = true := by
  rw [perH_bit hn, (floats_true hr ht hi).1 h, decide_eq_true hi]; rfl
theorem surH_not (hr : x.row < 6) (hn : n ≤ 8) (ht : TrOK w v n wt vt) {i : Nat} (hi : i < n) (h : floF st x.fl x.br x.row wt vt i = false) : (surH st w v n x).testBit i = false := by
  rw [surH_bit hn, (floats_true hr ht hi).2 h, decide_eq_true hi]; rfl
theorem surH_sub (hr : x.row < 6) (hn : n ≤ 8) (ht : TrOK w v n wt vt) (i : Nat) (h : (surH st w v n x).testBit i = true) : (perH st w v n x).testBit i = true := by
  by_cases hi : i < n
  · cases hf : floF st x.fl x.br x.row wt vt i with
    | true => exact perH_has hr hn ht hi hf
    | false => rw [surH_not hr hn ht hi hf] at h; cases h
  · rw [surH_bit hn, decide_eq_false hi] at h; cases h
end
end Go.Ab
set_option maxRecDepth 100000
namespace Go.Ab
open Go Go.RowKit Go.Proofs
theorem b3i (rw : Nat) (st l g : Int) (n cw cv m cu hut x y fi i r : Nat) (w v : Nat → Sp) (u : Nat → Hut) (wt ro : Nat → Int) (fo : Nat → Bool) (gone : Bool) (dl dh : Int) (tb : List Value) (R : Nat → AExit → Hw → Prop) : (vx.code none (.l p3i) (leafW [T3i, R3] R) (T3i.inst (h3i rw st n cw cv m cu hut x y fi l g tb (spL n w) (spL n v) (huL m u) wt ro fo gone i r)) ([(0, .split ((6, Hint.con (CS2d (↑rw : Int) st n cw cv m cu (spL n w) (spL n v) (huL m u) (↑i : Int) (↑r : Int) (Value.tuple { toList := [Value.agg { toList := [I dl, I dh] }, I (0 : Int)] }))) :: (8, .val (.pointer (.some ⟨((9 : Nat)), ((0 : Nat) + i * (1 : Nat)), .none⟩))) :: (0, .val (.int .i64 (wt i))) :: [(13, .split ([(5, .tm 0 [])]) ([(5, .split ([(3, .tm 0 [])]) ([(4, .tm 0 [])]))]))]) ([(1, .tm 0 [])]))])) =
((((decide ((↑r : Int) < (↑rw : Int))) = true → ((ConOK Tryd.prog ((18 : Nat)) (CS2d (↑rw : Int) st n cw cv m cu (spL n w) (spL n v) (huL m u) (↑i : Int) (↑r : Int) (Value.tuple { toList := [Value.agg { toList := [I dl, I dh] }, I (0 : Int)] }))) ∧ (Con.pre (CS2d (↑rw : Int) st n cw cv m cu (spL n w) (spL n v) (huL m u) (↑i : Int) (↑r : Int) (Value.tuple { toList := [Value.agg { toList := [I dl, I dh] }, I (0 : Int)] })) ⟨⟨[(.int .i64 rw), (.int .i64 st), (.int .i64 i), (.int .i64 r)], [⟨n, cw⟩, ⟨n, cv⟩, ⟨m, cu⟩]⟩, [(spL n w), (spL n v), (huL m u)]⟩) ∧
((((((0 : Int) ≤ (↑i : Int))) ∧ (((↑i : Int) < (↑n : Int)))) ∧ (((.pointer (.some ⟨((9 : Nat)), ((0 : Nat) + i * (1 : Nat)), .none⟩)) : Value) = (.pointer (.some ⟨((9 : Nat)), ((0 : Nat) + i * (1 : Nat)), .none⟩)))) ∧
((((ints n wt)[(0 : Nat) + i * (1 : Nat)]? = some (.int .i64 (wt i)))) ∧
(((decide ((if IntKind.i64.wrap (wt i - IntKind.i64.wrap (st * (↑r : Int))) > (0 : Int) then IntKind.i64.wrap (wt i - IntKind.i64.wrap (st * (↑r : Int))) else (0 : Int)) < dl)) = true → R 0 .ret ⟨⟨[(.int .i64 hut), (.int .i64 x), (.int .i64 y), (.int .i64 l), (.int .i64 fi), (.int .i64 g), (.bool gone), (.int .i64 i), (.int .i64 n), (.int .i64 i), (.int .i64 rw), (.int .i64 r), (.int .i64 rw), (.int .i64 st)], [⟨n, n⟩, ⟨n, n⟩, ⟨n, n⟩, ⟨n, cw⟩, ⟨n, cv⟩, ⟨m, cu⟩]⟩, [(tb), (spL n w), (spL n v), (huL m u), (ints n wt), (ints n ro), (boolsL n fo)], []⟩) ∧
((decide ((if IntKind.i64.wrap (wt i - IntKind.i64.wrap (st * (↑r : Int))) > (0 : Int) then IntKind.i64.wrap (wt i - IntKind.i64.wrap (st * (↑r : Int))) else (0 : Int)) < dl)) = false → (((decide ((if IntKind.i64.wrap (wt i - IntKind.i64.wrap (st * (↑r : Int))) > (0 : Int) then IntKind.i64.wrap (wt i - IntKind.i64.wrap (st * (↑r : Int))) else (0 : Int)) > dh)) = true → R 0 .ret ⟨⟨[(.int .i64 hut), (.int .i64 x), (.int .i64 y), (.int .i64 l), (.int .i64 fi), (.int .i64 g), (.bool gone), (.int .i64 i), (.int .i64 n), (.int .i64 i), (.int .i64 rw), (.int .i64 r), (.int .i64 rw), (.int .i64 st)], [⟨n, n⟩, ⟨n, n⟩, ⟨n, n⟩, ⟨n, cw⟩, ⟨n, cv⟩, ⟨m, cu⟩]⟩, [(tb), (spL n w), (spL n v), (huL m u), (ints n wt), (ints n ro), (boolsL n fo)], []⟩) ∧
((decide ((if IntKind.i64.wrap (wt i - IntKind.i64.wrap (st * (↑r : Int))) > (0 : Int) then IntKind.i64.wrap (wt i - IntKind.i64.wrap (st * (↑r : Int))) else (0 : Int)) > dh)) = false → R 0 .normal ⟨⟨[(.int .i64 hut), (.int .i64 x), (.int .i64 y), (.int .i64 l), (.int .i64 fi), (.int .i64 g), (.bool gone), (.int .i64 i), (.int .i64 n), (.int .i64 i), (.int .i64 rw), (.int .i64 (IntKind.i64.wrap ((↑r : Int) + (1 : Int)))), (.int .i64 rw), (.int .i64 st)], [⟨n, n⟩, ⟨n, n⟩, ⟨n, n⟩, ⟨n, cw⟩, ⟨n, cv⟩, ⟨m, cu⟩]⟩, [(tb), (spL n w), (spL n v), (huL m u), (ints n wt), (ints n ro), (boolsL n fo)], []⟩)))))))) ∧
((decide ((↑r : Int) < (↑rw : Int))) = false → R 0 (.exit ((2 : Nat))) ⟨⟨[(.int .i64 hut), (.int .i64 x), (.int .i64 y), (.int .i64 l), (.int .i64 fi), (.int .i64 g), (.bool gone), (.int .i64 i), (.int .i64 n), (.int .i64 i), (.int .i64 rw), (.int .i64 r), (.int .i64 rw), (.int .i64 st)], [⟨n, n⟩, ⟨n, n⟩, ⟨n, n⟩, ⟨n, cw⟩, ⟨n, cv⟩, ⟨m, cu⟩]⟩, [(tb), (spL n w), (spL n v), (huL m u), (ints n wt), (ints n ro), (boolsL n fo)], []⟩))) := by kernel_rfl
section
variable {rw : Nat} {st l g : Int} {n cw cv m cu hut x y fi : Nat} {w v : Nat → Sp} {u : Nat → Hut} {wt vt ro : Nat → Int} {fo : Nat → Bool} {gone : Bool}
theorem clL3 {a : List Value} {b : List (Nat × Nat)} : ClW ⟨⟨a, b⟩, [tabC, spL n w, spL n v, huL m u, ints n wt, ints n ro, boolsL n fo], []⟩ := by
  refine ⟨fun cs hc => ?_, fun e hc => (by cases hc)⟩
  simp only [List.mem_cons, List.not_mem_nil, or_false] at hc
  rcases hc with rfl | rfl | rfl | rfl | rfl | rfl | rfl
  · exact tabC_at
  · exact spL_at _ _
  · exact spL_at _ _
  · exact huL_at _ _
  · exact ints_at _ _
  · exact ints_at _ _
  · exact boolsL_at _ _
theorem loop3i (hS : SOK rw st n w v) (hU : HUK rw m u) (ht : TrOK w v n wt vt) {i : Nat} (hi : i < n) :
    LoopOW Tryd.prog none p3i T3i (h3i rw st n cw cv m cu hut x y fi l g tabC (spL n w) (spL n v) (huL m u) wt ro fo gone i 0) (.exit 2) T3i (h3i rw st n cw cv m cu hut x y fi l g tabC (spL n w) (spL n v) (huL m u) wt ro fo gone i rw) := by
  have h8 := hS.n8
  have h6 := hS.rw6
  obtain ⟨t1, t2, t3, t4⟩ := ht i hi
  obtain ⟨w0, w1, w2, w3⟩ := hS.w i hi
  refine loop_forW (Ts := [T3i, R3]) (k := 13) (n := rw) (e := .exit 2) (st := fun r => (0, h3i rw st n cw cv m cu hut x y fi l g tabC (spL n w) (spL n v) (huL m u) wt ro fo gone i r)) rfl vx_sound ?_ (by rw [nglob]; omega) ⟨by simp, trivial⟩ (fun i _ => clL3) (fun r hr R hR => ?_) (fun R hR => ?_) rfl (Nat.le_of_ble_eq_true rfl) (by decide) rfl
  · intro T hT; simp only [List.mem_cons, List.not_mem_nil, or_false] at hT; rcases hT with rfl | rfl <;> rfl
  · have hw : IntKind.i64.wrap ((r : Int) + 1) = ((r + 1 : Nat) : Int) := wrapI (by omega) (by omega)
    have hC := C18_ok (cw := cw) (cv := cv) (cu := cu) hS hU hi (row := r) (by omega)
    have d1 := dp_mono (st := st) (r := r) hS.st0 hS.st4 w0 t1 (by omega) (by omega)
    have d2 := dp_mono (st := st) (r := r) hS.st0 hS.st4 (by omega) t2 (by omega) (by omega)
    have e1 : ¬ dpF st (wt i) r < dpI st (w i).lo r := by rw [dp_eq]; omega
    have e2 : ¬ dpF st (wt i) r > dpI st (w i).hi r := by rw [dp_eq]; omega
    refine ⟨T3i, _, rfl, (b3i rw st l g n cw cv m cu hut x y fi i r w v u wt ro fo gone (dpI st (w i).lo r) (dpI st (w i).hi r) tabC R).mpr ⟨fun _ => ?_, fun h => absurd (by omega) (of_decide_eq_false h)⟩⟩
    refine ⟨hC, rfl, ⟨⟨by omega, by omega⟩, rfl⟩, ints_get _ hi, fun h => absurd (of_decide_eq_true h) e1, fun _ => ⟨fun h => absurd (of_decide_eq_true h) e2, fun _ => ?_⟩⟩
    rw [hw]; exact hR
  · exact ⟨T3i, _, rfl, (b3i rw st l g n cw cv m cu hut x y fi i rw w v u wt ro fo gone 0 0 tabC R).mpr ⟨fun h => absurd (of_decide_eq_true h) (by omega), fun _ => hR⟩⟩
end
end Go.Ab
