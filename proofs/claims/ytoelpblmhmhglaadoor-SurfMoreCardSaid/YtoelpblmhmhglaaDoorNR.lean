/- package surf: SurfMore: the law's loop; what is less danger. -/
import Derived.Test.YtoelpblmhmhglaaDoorNL
import Derived.Test.YtoelpblmhmhglaaDoorNQ
set_option maxRecDepth 100000
namespace Go.Ab
open Go Go.RowKit Go.Proofs
theorem b8n (rw st nb : Int) (n cw cv m cu i a b : Nat) (w v w2 v2 : Nat → Sp) (u u2 : Nat → Hut) (tb : List Value) (c e : Int) (R : Nat → AExit → Hw → Prop) : (vx.code none (.l p8) (leafW [T8] R) (T8.inst (h8 rw st nb n cw cv m cu tb (spL n w) (spL n v) (huL m u) (spL n w2) (spL n v2) (huL m u2) i)) ((0, .val (.bool true)) :: (5, .con (CS1 rw st n cw cv m cu tb (spL n w) (spL n v) (huL m u) i (.tuple ⟨[I a, I 0]⟩))) :: (7, .con (CS1 rw st n n n m m tb (spL n w2) (spL n v2) (huL m u2) i (.tuple ⟨[I b, I 0]⟩))) :: (7, .con (CS1 rw st n cw cv m cu tb (spL n w) (spL n v) (huL m u) i (.tuple ⟨[I c, I e]⟩))) :: (7, .con (CS1 rw st n n n m m tb (spL n w2) (spL n v2) (huL m u2) i (.tuple ⟨[I 0, I 4]⟩))) :: (14, .val (.bool false)) :: [(10, .tm 0 [])])) =
(((OT (decide ((i : Int) < m)) true) ∧
(CA 15 (CS1 rw st n cw cv m cu tb (spL n w) (spL n v) (huL m u) i (.tuple ⟨[I a, I 0]⟩)) ⟨⟨[(I rw), (I st), (I i)], [⟨n, cw⟩, ⟨n, cv⟩, ⟨m, cu⟩]⟩, [tb, (spL n w), (spL n v), (huL m u)]⟩ <|
(CA 15 (CS1 rw st n n n m m tb (spL n w2) (spL n v2) (huL m u2) i (.tuple ⟨[I b, I 0]⟩)) ⟨⟨[(I rw), (I st), (I i)], [⟨n, n⟩, ⟨n, n⟩, ⟨m, m⟩]⟩, [tb, (spL n w2), (spL n v2), (huL m u2)]⟩ <|
(CA 16 (CS1 rw st n cw cv m cu tb (spL n w) (spL n v) (huL m u) i (.tuple ⟨[I c, I e]⟩)) ⟨⟨[(I rw), (I st), (I i)], [⟨n, cw⟩, ⟨n, cv⟩, ⟨m, cu⟩]⟩, [tb, (spL n w), (spL n v), (huL m u)]⟩ <|
(CA 16 (CS1 rw st n n n m m tb (spL n w2) (spL n v2) (huL m u2) i (.tuple ⟨[I 0, I 4]⟩)) ⟨⟨[(I rw), (I st), (I i)], [⟨n, n⟩, ⟨n, n⟩, ⟨m, m⟩]⟩, [tb, (spL n w2), (spL n v2), (huL m u2)]⟩ <|
((OT (decide ((b : Int) > a)) false) ∧
R 0 .normal ⟨⟨[(.int .u8 nb), (I m), (I (IntKind.i64.wrap ((i : Int) + (1 : Int)))), (I rw), (I st), (I rw), (I st)], [⟨n, cw⟩, ⟨n, cv⟩, ⟨m, cu⟩, ⟨n, n⟩, ⟨n, n⟩, ⟨m, m⟩]⟩, [tb, (spL n w), (spL n v), (huL m u), (spL n w2), (spL n v2), (huL m u2)], []⟩))))))) := by kernel_rfl
theorem b8y (rw st nb : Int) (n cw cv m cu i a b : Nat) (w v w2 v2 : Nat → Sp) (u u2 : Nat → Hut) (tb : List Value) (c d : Nat) (R : Nat → AExit → Hw → Prop) : (vx.code none (.l p8) (leafW [T8] R) (T8.inst (h8 rw st nb n cw cv m cu tb (spL n w) (spL n v) (huL m u) (spL n w2) (spL n v2) (huL m u2) i)) ((0, .val (.bool true)) :: (5, .con (CS1 rw st n cw cv m cu tb (spL n w) (spL n v) (huL m u) i (.tuple ⟨[I a, I 0]⟩))) :: (7, .con (CS1 rw st n n n m m tb (spL n w2) (spL n v2) (huL m u2) i (.tuple ⟨[I b, I 0]⟩))) :: (7, .con (CS1 rw st n cw cv m cu tb (spL n w) (spL n v) (huL m u) i (.tuple ⟨[I c, I 0]⟩))) :: (7, .con (CS1 rw st n n n m m tb (spL n w2) (spL n v2) (huL m u2) i (.tuple ⟨[I d, I 0]⟩))) :: (14, .val (.bool false)) :: (10, .val (.bool false)) :: [(6, .tm 0 [])])) =
(((OT (decide ((i : Int) < m)) true) ∧
(CA 15 (CS1 rw st n cw cv m cu tb (spL n w) (spL n v) (huL m u) i (.tuple ⟨[I a, I 0]⟩)) ⟨⟨[(I rw), (I st), (I i)], [⟨n, cw⟩, ⟨n, cv⟩, ⟨m, cu⟩]⟩, [tb, (spL n w), (spL n v), (huL m u)]⟩ <|
(CA 15 (CS1 rw st n n n m m tb (spL n w2) (spL n v2) (huL m u2) i (.tuple ⟨[I b, I 0]⟩)) ⟨⟨[(I rw), (I st), (I i)], [⟨n, n⟩, ⟨n, n⟩, ⟨m, m⟩]⟩, [tb, (spL n w2), (spL n v2), (huL m u2)]⟩ <|
(CA 16 (CS1 rw st n cw cv m cu tb (spL n w) (spL n v) (huL m u) i (.tuple ⟨[I c, I 0]⟩)) ⟨⟨[(I rw), (I st), (I i)], [⟨n, cw⟩, ⟨n, cv⟩, ⟨m, cu⟩]⟩, [tb, (spL n w), (spL n v), (huL m u)]⟩ <|
(CA 16 (CS1 rw st n n n m m tb (spL n w2) (spL n v2) (huL m u2) i (.tuple ⟨[I d, I 0]⟩)) ⟨⟨[(I rw), (I st), (I i)], [⟨n, n⟩, ⟨n, n⟩, ⟨m, m⟩]⟩, [tb, (spL n w2), (spL n v2), (huL m u2)]⟩ <|
((OT (decide ((b : Int) > a)) false) ∧
((OT (decide ((d : Int) < c)) false) ∧
R 0 .normal ⟨⟨[(.int .u8 nb), (I m), (I (IntKind.i64.wrap ((i : Int) + (1 : Int)))), (I rw), (I st), (I rw), (I st)], [⟨n, cw⟩, ⟨n, cv⟩, ⟨m, cu⟩, ⟨n, n⟩, ⟨n, n⟩, ⟨m, m⟩]⟩, [tb, (spL n w), (spL n v), (huL m u), (spL n w2), (spL n v2), (huL m u2)], []⟩)))))))) := by kernel_rfl
theorem b8x (rw st nb : Int) (n cw cv m cu i _ _ : Nat) (w v w2 v2 : Nat → Sp) (u u2 : Nat → Hut) (tb : List Value) (R : Nat → AExit → Hw → Prop) : (vx.code none (.l p8) (leafW [T8] R) (T8.inst (h8 rw st nb n cw cv m cu tb (spL n w) (spL n v) (huL m u) (spL n w2) (spL n v2) (huL m u2) i)) ((0, .val (.bool false)) :: [(1, .tm 0 [])])) =
(((OT (decide ((i : Int) < m)) false) ∧
R 0 (.exit 1) ⟨⟨[(.int .u8 nb), (I m), (I i), (I rw), (I st), (I rw), (I st)], [⟨n, cw⟩, ⟨n, cv⟩, ⟨m, cu⟩, ⟨n, n⟩, ⟨n, n⟩, ⟨m, m⟩]⟩, [tb, (spL n w), (spL n v), (huL m u), (spL n w2), (spL n v2), (huL m u2)], []⟩)) := by kernel_rfl
theorem f28d (lo hi : Int) (R : ARes → Prop) : (vx.call 28 [.agg ⟨[I lo, I hi]⟩] (retK R) m2d ([])) =
(R (.ret (.agg ⟨[(I (if IntKind.i64.wrap (lo - (1 : Int)) > (0 : Int) then IntKind.i64.wrap (lo - (1 : Int)) else (0 : Int))), (I (if IntKind.i64.wrap (hi - (1 : Int)) > (0 : Int) then IntKind.i64.wrap (hi - (1 : Int)) else (0 : Int)))]⟩))) := by kernel_rfl
section
variable {rw st : Int} {n : Nat} {w v w' v' : Nat → Sp} {x x' : Hut}
theorem first_le (hS : SOK rw st n w v) (hS' : SOK rw st n w' v') (hH : Holds2 n w v w' v' x.fl x.br x'.fl x'.br) (hr : x.row ≤ x'.row) (h6 : x'.row < 6) (h0 : perH st w' v' n x' ≠ 0) : perH st w v n x ≠ 0 ∧ tzN (perH st w v n x) ≤ tzN (perH st w' v' n x') := by
 obtain ⟨_, hb, _, _⟩ := tz_eq (perH_lt (st := st) (w := w') (v := v') hS.n8 x') h0
 rw [perH_bit hS.n8, Bool.and_eq_true] at hb
 obtain ⟨hi, hf⟩ := hb
 have hi := of_decide_eq_true hi
 obtain ⟨j, hj, hfj⟩ := floats_before hS hS' hH hr h6 hi hf
 have h8 := hS.n8
 have hbj : (perH st w v n x).testBit j = true := by rw [perH_bit hS.n8, hfj, decide_eq_true (show j < n by omega)]; rfl
 have hne : perH st w v n x ≠ 0 := fun e => by rw [e, Nat.zero_testBit] at hbj; cases hbj
 obtain ⟨_, _, _, hm⟩ := tz_eq (perH_lt (st := st) (w := w) (v := v) hS.n8 x) hne
 exact ⟨hne, Nat.le_trans (hm j (by omega) hbj) hj⟩
end
structure Safer (rw st : Int) (n m : Nat) (w v w2 v2 : Nat → Sp) (u u2 : Nat → Hut) : Prop where
 s : SOK rw st n w2 v2
 h : HUK rw m u2
 hut : ∀ i, i < m → Holds2 n w v w2 v2 (u i).fl (u i).br (u2 i).fl (u2 i).br ∧ (u i).row ≤ (u2 i).row
 low : Lower n w v w2 v2
section
variable {rw st nb : Int} {n cw cv m cu : Nat} {w v w2 v2 : Nat → Sp} {u u2 : Nat → Hut}
theorem cl8 {x : List Value} {y : List (Nat × Nat)} : ClW ⟨⟨x, y⟩, [tabC, spL n w, spL n v, huL m u, spL n w2, spL n v2, huL m u2], []⟩ := by
 refine ⟨fun cs hc => ?_, fun e hc => (by cases hc)⟩
 simp only [List.mem_cons, List.not_mem_nil, or_false] at hc
 rcases hc with rfl | rfl | rfl | rfl | rfl | rfl | rfl
 · exact tabC_at
 · exact spL_at _ _
 · exact spL_at _ _
 · exact huL_at _ _
 · exact spL_at _ _
 · exact spL_at _ _
 · exact huL_at _ _
theorem loop8 (hS : SOK rw st n w v) (hU : HUK rw m u) (hX : Safer rw st n m w v w2 v2 u u2) :
    LoopOW Tryd.prog none p8 T8 (h8 rw st nb n cw cv m cu tabC (spL n w) (spL n v) (huL m u) (spL n w2) (spL n v2) (huL m u2) 0) (.exit 1) T8 (h8 rw st nb n cw cv m cu tabC (spL n w) (spL n v) (huL m u) (spL n w2) (spL n v2) (huL m u2) m) := by
 have h5 := hU.m5
 have h6 := hS.rw6
 refine loop_forW (Ts := [T8]) (k := 15) (n := m) (e := .exit 1) (st := fun i => (0, h8 rw st nb n cw cv m cu tabC (spL n w) (spL n v) (huL m u) (spL n w2) (spL n v2) (huL m u2) i)) rfl vx_sound ?_ (by rw [nglob]; omega) ⟨by simp, trivial⟩ (fun i _ => cl8) (fun i hi R hR => ?_) (fun R hR => ?_) rfl (Nat.le_of_ble_eq_true rfl) (by decide) rfl
 · intro T hT; simp only [List.mem_singleton] at hT; subst hT; rfl
 · have hw := wrS (i := i) (by omega)
   obtain ⟨hH, hrow⟩ := hX.hut i hi
   have hr6 : (u2 i).row < 6 := by have := (hX.h.u i hi).2.2.2.2; omega
   have c15 := C15_ok (cw := cw) (cv := cv) (cu := cu) hS hU hi
   have x15 := C15_ok (cw := n) (cv := n) (cu := m) hX.s hX.h hi
   have c16 := C16_ok (cw := cw) (cv := cv) (cu := cu) hS hU hi
   have x16 := C16_ok (cw := n) (cv := n) (cu := m) hX.s hX.h hi
   have hlost : losN (crH st w2 v2 (u2 i) n) ≤ losN (crH st w v (u i) n) := lost_le hS hX.s hH hX.low hrow hr6
   have hfst := first_le (x := u i) (x' := u2 i) hS hX.s hH hrow hr6
   have t1 : decide (((losN (crH st w2 v2 (u2 i) n) : Nat) : Int) > ((losN (crH st w v (u i) n) : Nat) : Int)) = false := decide_eq_false (by omega)
   have hR : R 0 .normal (h8 rw st nb n cw cv m cu tabC (spL n w) (spL n v) (huL m u) (spL n w2) (spL n v2) (huL m u2) (i + 1)) := hR
   unfold h8 at hR
   rw [← hw] at hR
   have lt : decide ((i : Int) < (m : Int)) = true := decide_eq_true (by omega)
   by_cases h2 : perH st w2 v2 n (u2 i) = 0
   · rw [show befV (perH st w2 v2 n (u2 i)) = .tuple ⟨[I 0, I 4]⟩ from if_pos h2] at x16
     by_cases h1 : perH st w v n (u i) = 0
     · rw [show befV (perH st w v n (u i)) = .tuple ⟨[I 0, I 4]⟩ from if_pos h1] at c16
       exact ⟨T8, _, rfl, (b8n rw st nb n cw cv m cu i (losN (crH st w v (u i) n)) (losN (crH st w2 v2 (u2 i) n)) w v w2 v2 u u2 tabC 0 4 R).mpr ⟨tt lt, c15, rfl, x15, rfl, c16, rfl, x16, rfl, tf t1, hR⟩⟩
     · rw [show befV (perH st w v n (u i)) = .tuple ⟨[I (tzN (perH st w v n (u i)) : Nat), I 0]⟩ from if_neg h1] at c16
       exact ⟨T8, _, rfl, (b8n rw st nb n cw cv m cu i (losN (crH st w v (u i) n)) (losN (crH st w2 v2 (u2 i) n)) w v w2 v2 u u2 tabC (tzN (perH st w v n (u i)) : Nat) 0 R).mpr ⟨tt lt, c15, rfl, x15, rfl, c16, rfl, x16, rfl, tf t1, hR⟩⟩
   · obtain ⟨h1, hle⟩ := hfst h2
     rw [show befV (perH st w2 v2 n (u2 i)) = .tuple ⟨[I (tzN (perH st w2 v2 n (u2 i)) : Nat), I 0]⟩ from if_neg h2] at x16
     rw [show befV (perH st w v n (u i)) = .tuple ⟨[I (tzN (perH st w v n (u i)) : Nat), I 0]⟩ from if_neg h1] at c16
     exact ⟨T8, _, rfl, (b8y rw st nb n cw cv m cu i (losN (crH st w v (u i) n)) (losN (crH st w2 v2 (u2 i) n)) w v w2 v2 u u2 tabC (tzN (perH st w v n (u i))) (tzN (perH st w2 v2 n (u2 i))) R).mpr ⟨tt lt, c15, rfl, x15, rfl, c16, rfl, x16, rfl, tf t1, tf (decide_eq_false (by omega)), hR⟩⟩
 · exact ⟨T8, _, rfl, (b8x rw st nb n cw cv m cu m 0 0 w v w2 v2 u u2 tabC R).mpr ⟨tf (decide_eq_false (by omega)), hR⟩⟩
theorem safer_best (hS : SOK rw st n w v) (hX : Safer rw st n m w v w2 v2 u u2) (many : Nat) : popN (bestQ (perY st w2 v2 n u2) many m) ≤ popN (bestQ (perY st w v n u) many m) :=
 best_less fun i hi h0 => first_le (x := u i) (x' := u2 i) hS hX.s (hX.hut i hi).1 (hX.hut i hi).2 (by have := (hX.h.u i hi).2.2.2.2; have := hS.rw6; omega) h0
def dnW (w : Nat → Sp) (hh i : Nat) : Sp := if i = hh then ⟨dnI (w hh).lo, dnI (w hh).hi⟩ else w i
def upI1 (z top : Int) : Int := if IntKind.i64.wrap (z + 1) < top then IntKind.i64.wrap (z + 1) else top
def upF (u : Nat → Hut) (hut i : Nat) : Hut := if i = hut then ⟨upI1 (u hut).fl 40, (u hut).br, (u hut).row⟩ else u i
def upB (u : Nat → Hut) (hut i : Nat) : Hut := if i = hut then ⟨(u hut).fl, upI1 (u hut).br 10, (u hut).row⟩ else u i
theorem C28_ok (lo hi : Int) : ConOK Tryd.prog 28 (C28 lo hi) := by
 refine con_of vx_sound _ (fun y hy => ?_) rfl (fun y _ => rfl) (fun y hy => ?_) rfl (Nat.le_of_ble_eq_true rfl) (by rw [nglob]; exact Nat.le_of_ble_eq_true rfl)
 · cases hy
   exact ⟨_, (f28d lo hi _).mpr rfl⟩
 · cases hy
   intro cs hcs
   cases hcs
theorem dnI_eq {z : Int} (h0 : 0 ≤ z) (h1 : z ≤ 100) : dnI z = if z > 1 then z - 1 else 0 := by
 unfold dnI
 rw [wrapI (by omega) (by omega)]
 split <;> split <;> omega
theorem upI1_eq {z top : Int} (h0 : 0 ≤ z) (h1 : z ≤ 100) : upI1 z top = if z + 1 < top then z + 1 else top := by
 unfold upI1
 rw [wrapI (by omega) (by omega)]
theorem sub_sea {w v w2 v2 : Nat → Sp} (hw : ∀ i, i < n → (w2 i).lo ≤ (w i).lo ∧ (w2 i).hi ≤ (w i).hi ∧ (w i).lo ≤ (w i).hi ∧ (w2 i).lo ≤ (w2 i).hi) (hv : ∀ i, i < n → (v2 i).lo ≤ (v i).lo ∧ (v2 i).hi ≤ (v i).hi ∧ (v i).lo ≤ (v i).hi ∧ (v2 i).lo ≤ (v2 i).hi) :
    (∀ i, i < n → ∀ a' b', SeaIn w2 v2 i a' b' → ∃ a b, SeaIn w v i a b ∧ a' ≤ a ∧ b' ≤ b) ∧ Lower n w v w2 v2 := by
 refine ⟨fun i hi a' b' h => ?_, fun i hi a b h => ?_⟩
 · obtain ⟨p1, p2, p3, p4⟩ := hw i hi
   obtain ⟨q1, q2, q3, q4⟩ := hv i hi
   obtain ⟨h1, h2, h3, h4⟩ := h
   exact ⟨(w i).hi, (v i).hi, ⟨p3, Int.le_refl _, q3, Int.le_refl _⟩, by omega, by omega⟩
 · obtain ⟨p1, p2, p3, p4⟩ := hw i hi
   obtain ⟨q1, q2, q3, q4⟩ := hv i hi
   obtain ⟨h1, h2, h3, h4⟩ := h
   exact ⟨(w2 i).lo, (v2 i).lo, ⟨Int.le_refl _, p4, Int.le_refl _, q4⟩, by omega, by omega⟩
theorem dn_ok {hh : Nat} {B : Int} (hB : B ≤ 100) (hw : ∀ i, i < n → 0 ≤ (w i).lo ∧ (w i).lo ≤ (w i).hi ∧ (w i).hi ≤ B ∧ (w i).hi - (w i).lo ≤ 3) (hB0 : 0 ≤ B) {i : Nat} (hi : i < n) :
    (0 ≤ (dnW w hh i).lo ∧ (dnW w hh i).lo ≤ (dnW w hh i).hi ∧ (dnW w hh i).hi ≤ B ∧ (dnW w hh i).hi - (dnW w hh i).lo ≤ 3) ∧ ((dnW w hh i).lo ≤ (w i).lo ∧ (dnW w hh i).hi ≤ (w i).hi ∧ (w i).lo ≤ (w i).hi ∧ (dnW w hh i).lo ≤ (dnW w hh i).hi) := by
 obtain ⟨a0, a1, a2, a3⟩ := hw i hi
 unfold dnW
 by_cases e : i = hh
 · subst e
   rw [if_pos rfl]
   show (0 ≤ dnI (w i).lo ∧ dnI (w i).lo ≤ dnI (w i).hi ∧ dnI (w i).hi ≤ B ∧ dnI (w i).hi - dnI (w i).lo ≤ 3) ∧ (dnI (w i).lo ≤ (w i).lo ∧ dnI (w i).hi ≤ (w i).hi ∧ (w i).lo ≤ (w i).hi ∧ dnI (w i).lo ≤ dnI (w i).hi)
   rw [dnI_eq a0 (by omega), dnI_eq (z := (w i).hi) (by omega) (by omega)]
   split <;> split <;> omega
 · rw [if_neg e]
   omega
theorem refl_ok (hS : SOK rw st n w v) : (∀ i, i < n → (w i).lo ≤ (w i).lo ∧ (w i).hi ≤ (w i).hi ∧ (w i).lo ≤ (w i).hi ∧ (w i).lo ≤ (w i).hi) ∧ (∀ i, i < n → (v i).lo ≤ (v i).lo ∧ (v i).hi ≤ (v i).hi ∧ (v i).lo ≤ (v i).hi ∧ (v i).lo ≤ (v i).hi) := by
 refine ⟨fun i hi => ?_, fun i hi => ?_⟩
 · obtain ⟨_, a, _, _⟩ := hS.w i hi
   exact ⟨Int.le_refl _, Int.le_refl _, a, a⟩
 · obtain ⟨_, a, _, _⟩ := hS.v i hi
   exact ⟨Int.le_refl _, Int.le_refl _, a, a⟩
theorem safer_w (hS : SOK rw st n w v) (hU : HUK rw m u) (hh : Nat) : Safer rw st n m w v (dnW w hh) v u u := by
 have k := sub_sea (w2 := dnW w hh) (v2 := v) (fun i hi => (dn_ok (B := 30) (by omega) hS.w (by omega) hi).2) (refl_ok hS).2
 exact ⟨⟨hS.rw1, hS.rw6, hS.st0, hS.st4, hS.n8, fun i hi => (dn_ok (B := 30) (by omega) hS.w (by omega) hi).1, hS.v⟩, hU, fun i _ => ⟨⟨Int.le_refl _, Int.le_refl _, k.1⟩, Nat.le_refl _⟩, k.2⟩
theorem safer_v (hS : SOK rw st n w v) (hU : HUK rw m u) (hh : Nat) : Safer rw st n m w v w (dnW v hh) u u := by
 have k := sub_sea (w2 := w) (v2 := dnW v hh) (refl_ok hS).1 (fun i hi => (dn_ok (B := 10) (by omega) hS.v (by omega) hi).2)
 exact ⟨⟨hS.rw1, hS.rw6, hS.st0, hS.st4, hS.n8, hS.w, fun i hi => (dn_ok (B := 10) (by omega) hS.v (by omega) hi).1⟩, hU, fun i _ => ⟨⟨Int.le_refl _, Int.le_refl _, k.1⟩, Nat.le_refl _⟩, k.2⟩
theorem safer_f (hS : SOK rw st n w v) (hU : HUK rw m u) (hut : Nat) : Safer rw st n m w v w v u (upF u hut) := by
 have k := sub_sea (refl_ok hS).1 (refl_ok hS).2
 refine ⟨hS, ⟨hU.m5, fun i hi => ?_⟩, fun i hi => ?_, k.2⟩
 · obtain ⟨a0, a1, a2, a3, a4⟩ := hU.u i hi
   unfold upF
   by_cases e : i = hut
   · subst e
     rw [if_pos rfl]
     refine ⟨?_, ?_, a2, a3, a4⟩
     · show 0 ≤ upI1 (u i).fl 40
       rw [upI1_eq a0 (by omega)]; split <;> omega
     · show upI1 (u i).fl 40 ≤ 40
       rw [upI1_eq a0 (by omega)]; split <;> omega
   · rw [if_neg e]; exact ⟨a0, a1, a2, a3, a4⟩
 · obtain ⟨a0, a1, a2, a3, a4⟩ := hU.u i hi
   unfold upF
   by_cases e : i = hut
   · subst e
     rw [if_pos rfl]
     refine ⟨⟨?_, Int.le_refl _, k.1⟩, Nat.le_refl _⟩
     show (u i).fl ≤ upI1 (u i).fl 40
     rw [upI1_eq a0 (by omega)]; split <;> omega
   · rw [if_neg e]; exact ⟨⟨Int.le_refl _, Int.le_refl _, k.1⟩, Nat.le_refl _⟩
theorem safer_b (hS : SOK rw st n w v) (hU : HUK rw m u) (hut : Nat) : Safer rw st n m w v w v u (upB u hut) := by
 have k := sub_sea (refl_ok hS).1 (refl_ok hS).2
 refine ⟨hS, ⟨hU.m5, fun i hi => ?_⟩, fun i hi => ?_, k.2⟩
 · obtain ⟨a0, a1, a2, a3, a4⟩ := hU.u i hi
   unfold upB
   by_cases e : i = hut
   · subst e
     rw [if_pos rfl]
     refine ⟨a0, a1, ?_, ?_, a4⟩
     · show 0 ≤ upI1 (u i).br 10
       rw [upI1_eq a2 (by omega)]; split <;> omega
     · show upI1 (u i).br 10 ≤ 10
       rw [upI1_eq a2 (by omega)]; split <;> omega
   · rw [if_neg e]; exact ⟨a0, a1, a2, a3, a4⟩
 · obtain ⟨a0, a1, a2, a3, a4⟩ := hU.u i hi
   unfold upB
   by_cases e : i = hut
   · subst e
     rw [if_pos rfl]
     refine ⟨⟨Int.le_refl _, ?_, k.1⟩, Nat.le_refl _⟩
     show (u i).br ≤ upI1 (u i).br 10
     rw [upI1_eq a2 (by omega)]; split <;> omega
   · rw [if_neg e]; exact ⟨⟨Int.le_refl _, Int.le_refl _, k.1⟩, Nat.le_refl _⟩
theorem copyA (n : Nat) (w : Nat → Sp) : [] ++ List.take (n * 2) (List.drop 0 (spL n w)) = spL n w := by
 rw [List.nil_append, List.drop_zero, List.take_of_length_le (by rw [spL_len]; exact Nat.le_refl _)]
theorem copyB (n : Nat) (w : Nat → Sp) : (List.take 0 (zCells [Value.int .i64 (0 : Int), Value.int .i64 (0 : Int)] 0) ++ List.take (n * 2) (List.drop 0 (spL n w))) = spL n w := by
 rw [List.take_zero]; exact copyA n w
theorem copyE (n : Nat) (w : Nat → Sp) : (List.take 0 ([] : List Value) ++ List.take (n * 2) (List.drop 0 (spL n w))) = spL n w := by
 rw [List.take_zero]; exact copyA n w
theorem copyC (m : Nat) (u : Nat → Hut) : [] ++ List.take (m * 3) (List.drop 0 (huL m u)) = huL m u := by
 rw [List.nil_append, List.drop_zero, List.take_of_length_le (by rw [huL_len]; exact Nat.le_refl _)]
theorem copyD (m : Nat) (u : Nat → Hut) : (List.take 0 ([] : List Value) ++ List.take (m * 3) (List.drop 0 (huL m u))) = huL m u := by
 rw [List.take_zero]; exact copyC m u
theorem mem_flatC {n : Nat} {g : Nat → List Value} {v : Value} (h : v ∈ flatC n g) : ∃ i, i < n ∧ v ∈ g i := by
 induction n with
 | zero => cases h
 | succ n ih =>
  rw [flatC_succ, List.mem_append] at h
  rcases h with h | h
  · obtain ⟨i, hi, hv⟩ := ih h
    exact ⟨i, by omega, hv⟩
  · exact ⟨n, by omega, h⟩
theorem oneS (n : Nat) (w : Nat → Sp) : (List.take (n * 2) (List.drop 0 (spL n w))).all one = true := by
 have := copyA n w
 rw [List.nil_append] at this
 rw [this]
 refine List.all_eq_true.2 fun v hv => ?_
 obtain ⟨i, _, hi⟩ := mem_flatC hv
 have hi : v ∈ [I (w i).lo, I (w i).hi] := hi
 simp only [List.mem_cons, List.not_mem_nil, or_false] at hi
 rcases hi with rfl | rfl <;> rfl
theorem oneH (m : Nat) (u : Nat → Hut) : (List.take (m * 3) (List.drop 0 (huL m u))).all one = true := by
 have := copyC m u
 rw [List.nil_append] at this
 rw [this]
 refine List.all_eq_true.2 fun v hv => ?_
 obtain ⟨i, _, hi⟩ := mem_flatC hv
 have hi : v ∈ [I (u i).fl, I (u i).br, I (u i).row] := hi
 simp only [List.mem_cons, List.not_mem_nil, or_false] at hi
 rcases hi with rfl | rfl | rfl <;> rfl
theorem putS {hh : Nat} (h : hh < n) : List.take (0 + hh * 2) (spL n w) ++ [I (dnI (w hh).lo), I (dnI (w hh).hi)] ++ List.drop (0 + hh * 2 + 2) (spL n w) = spL n (dnW w hh) := by
 rw [Nat.zero_add]
 have k := flatC_set (n := n) (k := 2) (g := fun i => spV (w i)) (fun _ _ => rfl) h (v := [I (dnI (w hh).lo), I (dnI (w hh).hi)]) rfl
 refine (show _ = _ from k).trans ?_
 refine flatC_congr fun i _ => ?_
 unfold dnW
 by_cases e : i = hh
 · rw [if_pos e, if_pos e]; rfl
 · rw [if_neg e, if_neg e]
theorem hut_cells {hut : Nat} (h : hut < m) : List.drop (hut * 3) (huL m u) = [I (u hut).fl, I (u hut).br, I (u hut).row] ++ List.drop (hut * 3 + 3) (huL m u) := by
 have k := flatC_part (n := m) (k := 3) (g := fun i => huV (u i)) (fun _ _ => rfl) h
 have e := List.take_append_drop 3 (List.drop (hut * 3) (huL m u))
 rw [List.drop_drop] at e
 rw [← e]
 exact congrArg (· ++ List.drop (hut * 3 + 3) (huL m u)) k
theorem putH3 {hut : Nat} (h : hut < m) (x : Hut) : List.take (hut * 3) (huL m u) ++ [I x.fl, I x.br, I x.row] ++ List.drop (hut * 3 + 3) (huL m u) = huL m (fun i => if i = hut then x else u i) := by
 have k := flatC_set (n := m) (k := 3) (g := fun i => huV (u i)) (fun _ _ => rfl) h (v := huV x) rfl
 refine (show _ = _ from k).trans ?_
 refine flatC_congr fun i _ => ?_
 show (if i = hut then huV x else huV (u i)) = huV (if i = hut then x else u i)
 split <;> rfl
theorem putF {hut : Nat} (h : hut < m) : List.take (0 + hut * 3 + 0) (huL m u) ++ [I (upI1 (u hut).fl 40)] ++ List.drop (0 + hut * 3 + 0 + 1) (huL m u) = huL m (upF u hut) := by
 rw [Nat.zero_add, Nat.add_zero]
 refine Eq.trans ?_ (putH3 h ⟨upI1 (u hut).fl 40, (u hut).br, (u hut).row⟩)
 have e : List.drop (hut * 3 + 1) (huL m u) = [I (u hut).br, I (u hut).row] ++ List.drop (hut * 3 + 3) (huL m u) := by
  rw [← List.drop_drop, hut_cells h]; rfl
 rw [e]
 simp only [List.append_assoc, List.cons_append, List.nil_append]
theorem putB {hut : Nat} (h : hut < m) : List.take (0 + hut * 3 + 1) (huL m u) ++ [I (upI1 (u hut).br 10)] ++ List.drop (0 + hut * 3 + 1 + 1) (huL m u) = huL m (upB u hut) := by
 rw [Nat.zero_add]
 refine Eq.trans ?_ (putH3 h ⟨(u hut).fl, upI1 (u hut).br 10, (u hut).row⟩)
 have e : List.drop (hut * 3 + 1 + 1) (huL m u) = [I (u hut).row] ++ List.drop (hut * 3 + 3) (huL m u) := by
  rw [show hut * 3 + 1 + 1 = hut * 3 + 2 from rfl, ← List.drop_drop, hut_cells h]; rfl
 have e2 : List.take (hut * 3 + 1) (huL m u) = List.take (hut * 3) (huL m u) ++ [I (u hut).fl] := by
  rw [List.take_add, hut_cells h]; rfl
 rw [e, e2]
 simp only [List.append_assoc, List.cons_append, List.nil_append]
end
end Go.Ab
