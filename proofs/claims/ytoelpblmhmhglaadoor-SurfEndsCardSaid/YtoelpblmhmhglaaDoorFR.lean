/- package surf: SurfEnds: all ways, and what is told. -/
import Derived.Test.YtoelpblmhmhglaaDoorFQ
import Derived.Test.YtoelpblmhmhglaaDoorFD
set_option maxRecDepth 100000
namespace Go.Ab
open Go Go.RowKit Go.Proofs
theorem b5zt (rw : Nat) (st : Int) (n cw cv m cu q hut i c : Nat) (w v : Nat → Sp) (u : Nat → Hut) (ra : Nat → Int) (lo : Nat → Bool) (tb : List Value) (R : Nat → AExit → Hw → Prop) : (vx.code none (.l p5z) (leafW [T5z, R5] R) (T5z.inst (h5z rw st n cw cv m cu q hut tb (spL n w) (spL n v) (huL m u) (ints 3 ra) (boolsL 3 lo) i)) ((0, .val (.bool true)) :: (6, .con (CS2 rw st n cw cv m cu tb (spL n w) (spL n v) (huL m u) hut i (.tuple ⟨[I c, .bool true, I 0]⟩))) :: (12, .val (.pointer (some ⟨8, 0 + i * 1, none⟩))) :: (0, .val (I (ra i))) :: (0, .val (.bool false)) :: (4, .val (.pointer (some ⟨9, 0 + i * 1, none⟩))) :: (0, .val (.bool true)) :: [(5, .tm 0 [])])) =
(((((some (.bool (decide ((i : Int) < q))) : Option Value) = some (.bool true))) ∧
((ConOK Tryd.prog 17 (CS2 rw st n cw cv m cu tb (spL n w) (spL n v) (huL m u) hut i (.tuple ⟨[I c, .bool true, I 0]⟩))) ∧ (Con.pre (CS2 rw st n cw cv m cu tb (spL n w) (spL n v) (huL m u) hut i (.tuple ⟨[I c, .bool true, I 0]⟩)) ⟨⟨[(I rw), (I st), (I hut), (I i)], [⟨n, cw⟩, ⟨n, cv⟩, ⟨m, cu⟩]⟩, [(tb), (spL n w), (spL n v), (huL m u)]⟩) ∧
((((((0 : Int) ≤ i)) ∧ (((i : Int) < (↑(3 : Nat) : Int)))) ∧ (((.pointer (some ⟨8, 0 + i * 1, none⟩)) : Value) = (.pointer (some ⟨8, 0 + i * 1, none⟩)))) ∧
((([Value.int .i64 (ra (0 : Nat)), Value.int .i64 (ra (1 : Nat)), Value.int .i64 (ra (2 : Nat))][0 + i * 1]? = some (I (ra i)))) ∧
((((some (.bool ((c : Int) != ra i)) : Option Value) = some (.bool false))) ∧
((((((0 : Int) ≤ i)) ∧ (((i : Int) < (↑(3 : Nat) : Int)))) ∧ (((.pointer (some ⟨9, 0 + i * 1, none⟩)) : Value) = (.pointer (some ⟨9, 0 + i * 1, none⟩)))) ∧
((([Value.bool (lo (0 : Nat)), Value.bool (lo (1 : Nat)), Value.bool (lo (2 : Nat))][0 + i * 1]? = some (.bool true))) ∧
R 0 .normal ⟨⟨[(I hut), (I q), (I (IntKind.i64.wrap ((i : Int) + (1 : Int)))), (I rw), (I st)], [⟨n, cw⟩, ⟨n, cv⟩, ⟨m, cu⟩]⟩, [(tb), (spL n w), (spL n v), (huL m u), [(I (ra (0 : Nat))), (I (ra (1 : Nat))), (I (ra (2 : Nat)))], [(.bool (lo (0 : Nat))), (.bool (lo (1 : Nat))), (.bool (lo (2 : Nat)))]], []⟩)))))))) := by kernel_rfl
theorem b5zf (rw : Nat) (st : Int) (n cw cv m cu q hut i c : Nat) (w v : Nat → Sp) (u : Nat → Hut) (ra : Nat → Int) (lo : Nat → Bool) (tb : List Value) (R : Nat → AExit → Hw → Prop) : (vx.code none (.l p5z) (leafW [T5z, R5] R) (T5z.inst (h5z rw st n cw cv m cu q hut tb (spL n w) (spL n v) (huL m u) (ints 3 ra) (boolsL 3 lo) i)) ((0, .val (.bool true)) :: (6, .con (CS2 rw st n cw cv m cu tb (spL n w) (spL n v) (huL m u) hut i (.tuple ⟨[I c, .bool false, I 0]⟩))) :: (12, .val (.pointer (some ⟨8, 0 + i * 1, none⟩))) :: (0, .val (I (ra i))) :: (0, .val (.bool false)) :: (4, .val (.pointer (some ⟨9, 0 + i * 1, none⟩))) :: (0, .val (.bool false)) :: [(5, .tm 0 [])])) =
(((((some (.bool (decide ((i : Int) < q))) : Option Value) = some (.bool true))) ∧
((ConOK Tryd.prog 17 (CS2 rw st n cw cv m cu tb (spL n w) (spL n v) (huL m u) hut i (.tuple ⟨[I c, .bool false, I 0]⟩))) ∧ (Con.pre (CS2 rw st n cw cv m cu tb (spL n w) (spL n v) (huL m u) hut i (.tuple ⟨[I c, .bool false, I 0]⟩)) ⟨⟨[(I rw), (I st), (I hut), (I i)], [⟨n, cw⟩, ⟨n, cv⟩, ⟨m, cu⟩]⟩, [(tb), (spL n w), (spL n v), (huL m u)]⟩) ∧
((((((0 : Int) ≤ i)) ∧ (((i : Int) < (↑(3 : Nat) : Int)))) ∧ (((.pointer (some ⟨8, 0 + i * 1, none⟩)) : Value) = (.pointer (some ⟨8, 0 + i * 1, none⟩)))) ∧
((([Value.int .i64 (ra (0 : Nat)), Value.int .i64 (ra (1 : Nat)), Value.int .i64 (ra (2 : Nat))][0 + i * 1]? = some (I (ra i)))) ∧
((((some (.bool ((c : Int) != ra i)) : Option Value) = some (.bool false))) ∧
((((((0 : Int) ≤ i)) ∧ (((i : Int) < (↑(3 : Nat) : Int)))) ∧ (((.pointer (some ⟨9, 0 + i * 1, none⟩)) : Value) = (.pointer (some ⟨9, 0 + i * 1, none⟩)))) ∧
((([Value.bool (lo (0 : Nat)), Value.bool (lo (1 : Nat)), Value.bool (lo (2 : Nat))][0 + i * 1]? = some (.bool false))) ∧
R 0 .normal ⟨⟨[(I hut), (I q), (I (IntKind.i64.wrap ((i : Int) + (1 : Int)))), (I rw), (I st)], [⟨n, cw⟩, ⟨n, cv⟩, ⟨m, cu⟩]⟩, [(tb), (spL n w), (spL n v), (huL m u), [(I (ra (0 : Nat))), (I (ra (1 : Nat))), (I (ra (2 : Nat)))], [(.bool (lo (0 : Nat))), (.bool (lo (1 : Nat))), (.bool (lo (2 : Nat)))]], []⟩)))))))) := by kernel_rfl
theorem b5zx (rw : Nat) (st : Int) (n cw cv m cu q hut i : Nat) (w v : Nat → Sp) (u : Nat → Hut) (ra : Nat → Int) (lo : Nat → Bool) (tb : List Value) (R : Nat → AExit → Hw → Prop) : (vx.code none (.l p5z) (leafW [T5z, R5] R) (T5z.inst (h5z rw st n cw cv m cu q hut tb (spL n w) (spL n v) (huL m u) (ints 3 ra) (boolsL 3 lo) i)) ((0, .val (.bool false)) :: [(1, .tm 0 [])])) =
(((((some (.bool (decide ((i : Int) < q))) : Option Value) = some (.bool false))) ∧
R 0 (.exit 8) ⟨⟨[(I hut), (I q), (I i), (I rw), (I st)], [⟨n, cw⟩, ⟨n, cv⟩, ⟨m, cu⟩]⟩, [(tb), (spL n w), (spL n v), (huL m u), [(I (ra (0 : Nat))), (I (ra (1 : Nat))), (I (ra (2 : Nat)))], [(.bool (lo (0 : Nat))), (.bool (lo (1 : Nat))), (.bool (lo (2 : Nat)))]], []⟩)) := by kernel_rfl
section
variable {rw : Nat} {st : Int} {n cw cv m cu q hut : Nat} {w v : Nat → Sp} {u : Nat → Hut}
noncomputable def s5w (rw : Nat) (st : Int) (n cw cv m cu q hut : Nat) (w v : Nat → Sp) (u : Nat → Hut) (ways : Int) (k : Nat) : Hw :=
 h5w rw st n cw cv m cu q hut tabC (spL n w) (spL n v) (huL m u) (ints 3 fun h => (raF st (u hut) w v q k 0 h : Nat)) (boolsL 3 (loF st (u hut) w v q k 0)) (ysF st (u hut) w v q k 0 : Nat) (nsF st (u hut) w v q k 0 : Nat) ways k
theorem loop5w (hS : SOK rw st n w v) (hU : HUK rw m u) (hh : hut < m) (hn : q ≤ n) (h3 : q ≤ 3) (h0 : 0 < q) {K : Nat} (hK : K ≤ 700) :
    LoopOW Tryd.prog none p5w T5w (s5w rw st n cw cv m cu q hut w v u (K : Nat) 0) (.exit 2) T5w (s5w rw st n cw cv m cu q hut w v u (K : Nat) K) := by
 have h8 := hS.n8
 have h6 := hS.rw6
 have h5 := hU.m5
 obtain ⟨u0, u1, u2, u3, u4⟩ := hU.u hut hh
 have hr6 : (u hut).row < 6 := by omega
 have pu := huL_part u hh
 have lu := huL_len m u
 refine loop_forW (Ts := [T5w]) (k := 10) (n := K) (e := .exit 2) (st := fun k => (0, s5w rw st n cw cv m cu q hut w v u (K : Nat) k)) rfl vx_sound ?_ (by rw [nglob]; omega) ⟨by simp, trivial⟩ (fun i _ => cl5w) (fun k hk R hR => ?_) (fun R hR => ?_) rfl (Nat.le_of_ble_eq_true rfl) (by decide) rfl
 · intro T hT; simp only [List.mem_singleton] at hT; subst hT; rfl
 · have hw : IntKind.i64.wrap ((k : Int) + 1) = ((k + 1 : Nat) : Int) := wrapI (by omega) (by omega)
   have e1 : (ints 3 fun h => ((raF st (u hut) w v q k q h : Nat) : Int)) = ints 3 fun h => ((raF st (u hut) w v q (k + 1) 0 h : Nat) : Int) := ints_congr fun j _ => by rw [raF_next]
   have e2 : boolsL 3 (loF st (u hut) w v q k q) = boolsL 3 (loF st (u hut) w v q (k + 1) 0) := bools_congr fun j _ => loF_next j
   have hR : R 0 .normal (h5w rw st n cw cv m cu q hut tabC (spL n w) (spL n v) (huL m u) (ints 3 fun h => ((raF st (u hut) w v q (k + 1) 0 h : Nat) : Int)) (boolsL 3 (loF st (u hut) w v q (k + 1) 0)) (ysF st (u hut) w v q (k + 1) 0 : Nat) (nsF st (u hut) w v q (k + 1) 0 : Nat) (K : Nat) (k + 1)) := hR
   rw [← e1, ← e2, ← ysF_next, ← nsF_next] at hR
   unfold h5w at hR
   rw [← hw] at hR
   have lr := loop5r (cw := cw) (cv := cv) (m := m) (cu := cu) (k := k) (ways := ((K : Nat) : Int)) hS hr6 hn h3
   have lh := loop5h (cw := cw) (cv := cv) (m := m) (cu := cu) (hut := hut) (k := k) (u := u) (ra := fun h => (raF st (u hut) w v q k 0 h : Nat)) (lo := loF st (u hut) w v q k 0) (yes := (ysF st (u hut) w v q k 0 : Nat)) (no := (nsF st (u hut) w v q k 0 : Nat)) (ways := ((K : Nat) : Int)) hS hn h3 h0 (by omega)
   have c13 := C13q_ok (rw := rw) (st := st) (N := n) (n := q) (cw := cw) (cv := cv) (m := m) (cu := cu) (a := q) (b := q) (fl := (u hut).fl) (br := (u hut).br) (row0 := (u hut).row) (wt := wyW w v k) (vt := wyV w v k) h0 (by omega)
   unfold s5r at lr
   unfold s5w
   exact ⟨T5w, _, rfl, (b5w rw st n cw cv m cu q hut k w v u (fun h => (raF st (u hut) w v q k 0 h : Nat)) (fun h => (raF st (u hut) w v q k q h : Nat)) (loF st (u hut) w v q k 0) (loF st (u hut) w v q k q) tabC (ysF st (u hut) w v q k 0 : Nat) (nsF st (u hut) w v q k 0 : Nat) (ysF st (u hut) w v q k q : Nat) (nsF st (u hut) w v q k q : Nat) ((K : Nat) : Int) R).mpr ⟨tt (decide_eq_true (by omega)), cl5w (ra := fun h => (raF st (u hut) w v q k 0 h : Nat)) (lo := loF st (u hut) w v q k 0), lh, ⟨⟨by omega, by omega⟩, rfl⟩, ⟨by rw [lu]; omega, by rw [pu]; rfl⟩, c13, rfl, cl5r (ra := fun h => (raF st (u hut) w v q k 0 h : Nat)) (lo := loF st (u hut) w v q k 0), lr, hR⟩⟩
 · exact ⟨T5w, _, rfl, (b5wx rw st n cw cv m cu q hut K w v u (fun h => (raF st (u hut) w v q K 0 h : Nat)) (loF st (u hut) w v q K 0) tabC (ysF st (u hut) w v q K 0 : Nat) (nsF st (u hut) w v q K 0 : Nat) ((K : Nat) : Int) R).mpr ⟨tf (decide_eq_false (by omega)), hR⟩⟩
theorem loop5z (hS : SOK rw st n w v) (hU : HUK rw m u) (hh : hut < m) (hn : q ≤ n) (h3 : q ≤ 3) :
    LoopOW Tryd.prog none p5z T5z (h5z rw st n cw cv m cu q hut tabC (spL n w) (spL n v) (huL m u) (ints 3 fun h => (raF st (u hut) w v q (wypN w v q) 0 h : Nat)) (boolsL 3 (loF st (u hut) w v q (wypN w v q) 0)) 0) (.exit 8) T5z (h5z rw st n cw cv m cu q hut tabC (spL n w) (spL n v) (huL m u) (ints 3 fun h => (raF st (u hut) w v q (wypN w v q) 0 h : Nat)) (boolsL 3 (loF st (u hut) w v q (wypN w v q) 0)) q) := by
 have h8 := hS.n8
 have h6 := hS.rw6
 have h5 := hU.m5
 obtain ⟨u0, u1, u2, u3, u4⟩ := hU.u hut hh
 have hr6 : (u hut).row < 6 := by omega
 have hp : ∀ i, i < n → (w i).lo ≤ (w i).hi ∧ (v i).lo ≤ (v i).hi := fun j hj => ⟨(hS.w j hj).2.1, (hS.v j hj).2.1⟩
 refine loop_forW (Ts := [T5z, R5]) (k := 10) (n := q) (e := .exit 8) (st := fun i => (0, h5z rw st n cw cv m cu q hut tabC (spL n w) (spL n v) (huL m u) (ints 3 fun h => (raF st (u hut) w v q (wypN w v q) 0 h : Nat)) (boolsL 3 (loF st (u hut) w v q (wypN w v q) 0)) i)) rfl vx_sound ?_ (by rw [nglob]; omega) ⟨by simp, trivial⟩ (fun i _ => cl5w) (fun i hi R hR => ?_) (fun R hR => ?_) rfl (Nat.le_of_ble_eq_true rfl) (by decide) rfl
 · intro T hT; simp only [List.mem_cons, List.not_mem_nil, or_false] at hT; rcases hT with rfl | rfl <;> rfl
 · have hw : IntKind.i64.wrap ((i : Int) + 1) = ((i + 1 : Nat) : Int) := wrapI (by omega) (by omega)
   have hC := C17_ok (cw := cw) (cv := cv) (cu := cu) hS hU hh (show i < n by omega)
   rw [show ((rw : Int)).toNat = rw from rfl] at hC
   have hra := ints_get (n := 3) (fun h => ((raF st (u hut) w v q (wypN w v q) 0 h : Nat) : Int)) (i := i) (by omega)
   have hlo := boolsL_get2 (n := 3) (loF st (u hut) w v q (wypN w v q) 0) (i := i) (by omega)
   have r1 := raF_all (st := st) (x := u hut) (rw := rw) (by omega) (by omega) hp hn hi
   have r2 := loF_all (st := st) (x := u hut) hr6 hp hn hi
   have hne : (((crH st w v (u hut) (i + 1) &&& (2 ^ rw - 1) : Nat) : Int) != ((raF st (u hut) w v q (wypN w v q) 0 i : Nat) : Int)) = false := by rw [r1]; simp
   have i3 : ((0 : Int) ≤ (i : Int) ∧ (i : Int) < ((3 : Nat) : Int)) := ⟨by omega, by omega⟩
   have hR : R 0 .normal (h5z rw st n cw cv m cu q hut tabC (spL n w) (spL n v) (huL m u) (ints 3 fun h => (raF st (u hut) w v q (wypN w v q) 0 h : Nat)) (boolsL 3 (loF st (u hut) w v q (wypN w v q) 0)) (i + 1)) := hR
   unfold h5z at hR
   rw [← hw] at hR
   rw [r2] at hlo
   cases hb : (crH st w v (u hut) (i + 1)).testBit 6 with
   | true =>
    rw [hb] at hC hlo
    exact ⟨T5z, _, rfl, (b5zt rw st n cw cv m cu q hut i (crH st w v (u hut) (i + 1) &&& (2 ^ rw - 1)) w v u (fun h => (raF st (u hut) w v q (wypN w v q) 0 h : Nat)) (loF st (u hut) w v q (wypN w v q) 0) tabC R).mpr ⟨tt (decide_eq_true (by omega)), hC, rfl, ⟨i3, rfl⟩, hra, tf hne, ⟨i3, rfl⟩, hlo, hR⟩⟩
   | false =>
    rw [hb] at hC hlo
    exact ⟨T5z, _, rfl, (b5zf rw st n cw cv m cu q hut i (crH st w v (u hut) (i + 1) &&& (2 ^ rw - 1)) w v u (fun h => (raF st (u hut) w v q (wypN w v q) 0 h : Nat)) (loF st (u hut) w v q (wypN w v q) 0) tabC R).mpr ⟨tt (decide_eq_true (by omega)), hC, rfl, ⟨i3, rfl⟩, hra, tf hne, ⟨i3, rfl⟩, hlo, hR⟩⟩
 · exact ⟨T5z, _, rfl, (b5zx rw st n cw cv m cu q hut q w v u (fun h => (raF st (u hut) w v q (wypN w v q) 0 h : Nat)) (loF st (u hut) w v q (wypN w v q) 0) tabC R).mpr ⟨tf (decide_eq_false (by omega)), hR⟩⟩
theorem ad_tab : ((List.range 256).all fun a => (List.range 4).all fun r => bits BinOp.and IntKind.i64 (a : Int) (IntKind.i64.wrap (IntKind.i64.wrap ((1 : Int) * (2 : Int) ^ r) - 1)) == ((a &&& (2 ^ r - 1) : Nat) : Int)) = true := by kernel_rfl
theorem ad_eq {a r : Nat} (ha : a < 256) (hr : r < 4) : bits BinOp.and IntKind.i64 (a : Int) (IntKind.i64.wrap (IntKind.i64.wrap ((1 : Int) * (2 : Int) ^ r) - 1)) = ((a &&& (2 ^ r - 1) : Nat) : Int) :=
 beq_iff_eq.1 (List.all_eq_true.1 (List.all_eq_true.1 ad_tab a (List.mem_range.2 ha)) r (List.mem_range.2 hr))
def minusN (a b : Nat) : Nat := (List.range 8).foldl (fun s i => if a.testBit i && !b.testBit i then s ||| 2 ^ i else s) 0
theorem an_tab2 : ((List.range 4).all fun r => (List.range 8).all fun b => (bits BinOp.andNot IntKind.i64 (IntKind.i64.wrap (IntKind.i64.wrap ((1 : Int) * (2 : Int) ^ r) - 1)) (b : Int) == ((minusN (2 ^ r - 1) b : Nat) : Int)) && ((decide (minusN (2 ^ r - 1) b < 8)) && (List.range 8).all fun t => (minusN (2 ^ r - 1) b).testBit t == ((2 ^ r - 1).testBit t && !b.testBit t))) = true := by kernel_rfl
theorem an_eq2 {r b c : Nat} (hr : r < 4) (hb : b < 8) (hc : c < 8) (h : ∀ t, c.testBit t = ((2 ^ r - 1).testBit t && !b.testBit t)) : bits BinOp.andNot IntKind.i64 (IntKind.i64.wrap (IntKind.i64.wrap ((1 : Int) * (2 : Int) ^ r) - 1)) (b : Int) = (c : Int) := by
 have h1 := List.all_eq_true.1 (List.all_eq_true.1 an_tab2 r (List.mem_range.2 hr)) b (List.mem_range.2 hb)
 simp only [Bool.and_eq_true, beq_iff_eq, decide_eq_true_eq, List.all_eq_true, List.mem_range] at h1
 obtain ⟨h2, h3, h4⟩ := h1
 rw [h2]
 have : minusN (2 ^ r - 1) b = c := by
  apply Nat.eq_of_testBit_eq
  intro t
  by_cases ht : t < 8
  · rw [h4 t ht, h t]
  · have hp : ∀ y : Nat, y < 8 → y.testBit t = false := fun y hy => Nat.testBit_lt_two_pow (Nat.lt_of_lt_of_le hy (by
     have : (2 : Nat) ^ 3 ≤ 2 ^ t := Nat.pow_le_pow_right (by omega) (by omega)
     exact this))
    rw [hp _ h3, hp _ hc]
 rw [this]
end
end Go.Ab
