/- package surf: SurfEnds: how many ways there are. -/
import Derived.Test.YtoelpblmhmhglaaDoorFI
import Derived.Test.YtoelpblmhmhglaaDoorFM
set_option maxRecDepth 100000
namespace Go.Ab
open Go Go.RowKit Go.Proofs
theorem b5a (rw st wh : Int) (n cw cv m cu : Nat) (q i : Nat) (w v : Nat → Sp) (u : Nat → Hut) (tb : List Value) (ways : Int) (R : Nat → AExit → Hw → Prop) : (vx.code none (.l p5a) (leafW [T5a] R) (T5a.inst (h5a rw st wh n cw cv m cu q tb (spL n w) (spL n v) (huL m u) ways i)) ([(0, .split ((7, .val (.pointer (some ⟨2, 0 + i * 2, none⟩))) :: (1, .val (I ((w i).hi))) :: (3, .val (.pointer (some ⟨2, 0 + i * 2, none⟩))) :: (1, .val (I ((w i).lo))) :: (5, .val (.pointer (some ⟨3, 0 + i * 2, none⟩))) :: (1, .val (I ((v i).hi))) :: (3, .val (.pointer (some ⟨3, 0 + i * 2, none⟩))) :: (1, .val (I ((v i).lo))) :: [(7, .tm 0 [])]) ([(1, .tm 0 [])]))])) =
((((decide ((i : Int) < q)) = true → ((((((0 : Int) ≤ i)) ∧ (((i : Int) < n))) ∧ (((.pointer (some ⟨2, 0 + i * 2, none⟩)) : Value) = (.pointer (some ⟨2, 0 + i * 2, none⟩)))) ∧
((((spL n w)[(0 : Nat) + i * (2 : Nat) + (1 : Nat)]? = some (I ((w i).hi)))) ∧
((((((0 : Int) ≤ i)) ∧ (((i : Int) < n))) ∧ (((.pointer (some ⟨2, 0 + i * 2, none⟩)) : Value) = (.pointer (some ⟨2, 0 + i * 2, none⟩)))) ∧
((((spL n w)[(0 : Nat) + i * (2 : Nat) + (0 : Nat)]? = some (I ((w i).lo)))) ∧
((((((0 : Int) ≤ i)) ∧ (((i : Int) < n))) ∧ (((.pointer (some ⟨3, 0 + i * 2, none⟩)) : Value) = (.pointer (some ⟨3, 0 + i * 2, none⟩)))) ∧
((((spL n v)[(0 : Nat) + i * (2 : Nat) + (1 : Nat)]? = some (I ((v i).hi)))) ∧
((((((0 : Int) ≤ i)) ∧ (((i : Int) < n))) ∧ (((.pointer (some ⟨3, 0 + i * 2, none⟩)) : Value) = (.pointer (some ⟨3, 0 + i * 2, none⟩)))) ∧
((((spL n v)[(0 : Nat) + i * (2 : Nat) + (0 : Nat)]? = some (I ((v i).lo)))) ∧
R 0 .normal ⟨⟨[(.int .u8 (wh)), (I q), (I (IntKind.i64.wrap (ways * IntKind.i64.wrap (IntKind.i64.wrap (IntKind.i64.wrap ((w i).hi - (w i).lo) + (1 : Int)) * IntKind.i64.wrap (IntKind.i64.wrap ((v i).hi - (v i).lo) + (1 : Int)))))), (I q), (I (IntKind.i64.wrap ((i : Int) + (1 : Int)))), (I rw), (I st)], [⟨n, cw⟩, ⟨n, cv⟩, ⟨m, cu⟩]⟩, [(tb), (spL n w), (spL n v), (huL m u)], []⟩))))))))) ∧
((decide ((i : Int) < q)) = false → R 0 (.exit 0) ⟨⟨[(.int .u8 (wh)), (I q), (I ways), (I q), (I i), (I rw), (I st)], [⟨n, cw⟩, ⟨n, cv⟩, ⟨m, cu⟩]⟩, [(tb), (spL n w), (spL n v), (huL m u)], []⟩))) := by kernel_rfl
theorem spL_cell {n i j : Nat} (w : Nat → Sp) (h : i < n) (hj : j < 2) : (spL n w)[0 + i * 2 + j]? = (spV (w i))[j]? := by
 rw [Nat.zero_add]
 exact flatC_get (n := n) (k := 2) (g := fun i => spV (w i)) (fun _ _ => rfl) h hj
section
variable {rw st wh : Int} {n cw cv m cu hs : Nat} {w v : Nat → Sp} {u : Nat → Hut}
theorem cl5 {a : List Value} {b : List (Nat × Nat)} : ClW ⟨⟨a, b⟩, [tabC, spL n w, spL n v, huL m u], []⟩ := by
 refine ⟨fun cs hc => ?_, fun e hc => (by cases hc)⟩
 simp only [List.mem_cons, List.not_mem_nil, or_false] at hc
 rcases hc with rfl | rfl | rfl | rfl
 · exact tabC_at
 · exact spL_at _ _
 · exact spL_at _ _
 · exact huL_at _ _
theorem wdN_le (hS : SOK rw st n w v) {i : Nat} (hi : i < n) : (1 ≤ wdN (w i) ∧ wdN (w i) ≤ 4) ∧ 1 ≤ wdN (v i) ∧ wdN (v i) ≤ 4 := by
 obtain ⟨w0, w1, w2, w3⟩ := hS.w i hi
 obtain ⟨v0, v1, v2, v3⟩ := hS.v i hi
 unfold wdN
 omega
theorem wd_wrap {s : Sp} (h0 : 0 ≤ s.lo) (h1 : s.lo ≤ s.hi) (h2 : s.hi ≤ 30) : IntKind.i64.wrap (IntKind.i64.wrap (s.hi - s.lo) + 1) = (wdN s : Nat) := by
 rw [wrapI (x := s.hi - s.lo) (by omega) (by omega), wrapI (by omega) (by omega)]
 unfold wdN
 omega
theorem wyp_le (hS : SOK rw st n w v) : ∀ i, i ≤ n → wypN w v i ≤ 16 ^ i := by
 intro i
 induction i with
 | zero => intro _; exact Nat.le_refl _
 | succ i ih =>
  intro hi
  obtain ⟨⟨_, a⟩, _, b⟩ := wdN_le hS (show i < n by omega)
  rw [Nat.pow_succ]
  exact Nat.mul_le_mul (ih (by omega)) (Nat.mul_le_mul a b)
set_option maxRecDepth 200000 in
theorem loop5a (hS : SOK rw st n w v) (hn : hs ≤ n) (h3 : hs ≤ 3) :
    LoopOW Tryd.prog none p5a T5a (h5a rw st wh n cw cv m cu hs tabC (spL n w) (spL n v) (huL m u) 1 0) (.exit 0) T5a (h5a rw st wh n cw cv m cu hs tabC (spL n w) (spL n v) (huL m u) (wypN w v hs : Nat) hs) := by
 have h8 := hS.n8
 refine loop_forW (Ts := [T5a]) (k := 8) (n := hs) (e := .exit 0) (st := fun i => (0, h5a rw st wh n cw cv m cu hs tabC (spL n w) (spL n v) (huL m u) (wypN w v i : Nat) i)) rfl vx_sound ?_ (by rw [nglob]; omega) ⟨by simp, trivial⟩ (fun i _ => cl5) (fun i hi R hR => ?_) (fun R hR => ?_) rfl (Nat.le_of_ble_eq_true rfl) (by decide) rfl
 · intro T hT; simp only [List.mem_singleton] at hT; subst hT; rfl
 · have hw : IntKind.i64.wrap ((i : Int) + 1) = ((i + 1 : Nat) : Int) := wrapI (by omega) (by omega)
   obtain ⟨w0, w1, w2, w3⟩ := hS.w i (by omega)
   obtain ⟨v0, v1, v2, v3⟩ := hS.v i (by omega)
   obtain ⟨⟨_, a⟩, _, b⟩ := wdN_le hS (show i < n by omega)
   have hab : wdN (w i) * wdN (v i) ≤ 16 := Nat.mul_le_mul a b
   have hp : wypN w v (i + 1) ≤ 4096 := Nat.le_trans (wyp_le hS (i + 1) (by omega)) (Nat.pow_le_pow_right (n := 16) (by omega) (show i + 1 ≤ 3 by omega))
   have e1 : IntKind.i64.wrap ((wdN (w i) : Int) * (wdN (v i) : Int)) = ((wdN (w i) * wdN (v i) : Nat) : Int) := by
    rw [← Int.natCast_mul]; exact wrapI (by omega) (by omega)
   have e2 : IntKind.i64.wrap (((wypN w v i : Nat) : Int) * ((wdN (w i) * wdN (v i) : Nat) : Int)) = ((wypN w v (i + 1) : Nat) : Int) := by
    rw [← Int.natCast_mul]; exact wrapI (Int.le_trans (by omega) (Int.natCast_nonneg _)) (by have : ((wypN w v i * (wdN (w i) * wdN (v i)) : Nat) : Int) ≤ 4096 := Int.ofNat_le.2 hp; omega)
   have idx1 : ((0 : Int) ≤ (i : Int) ∧ (i : Int) < (n : Int)) ∧ ((.pointer (some ⟨2, 0 + i * 2, none⟩) : Value) = .pointer (some ⟨2, 0 + i * 2, none⟩)) := ⟨⟨by omega, by omega⟩, rfl⟩
   have idx2 : ((0 : Int) ≤ (i : Int) ∧ (i : Int) < (n : Int)) ∧ ((.pointer (some ⟨3, 0 + i * 2, none⟩) : Value) = .pointer (some ⟨3, 0 + i * 2, none⟩)) := ⟨⟨by omega, by omega⟩, rfl⟩
   have hin : i < n := by omega
   refine ⟨T5a, _, rfl, (b5a rw st wh n cw cv m cu hs i w v u tabC (wypN w v i : Nat) R).mpr ⟨fun _ => ?_, fun h => absurd (by omega) (of_decide_eq_false h)⟩⟩
   rw [wd_wrap w0 w1 w2, wd_wrap v0 v1 (by omega), e1, e2, hw]
   exact ⟨idx1, spL_cell w hin (j := 1) (by omega), idx1, spL_cell w hin (j := 0) (by omega), idx2, spL_cell v hin (j := 1) (by omega), idx2, spL_cell v hin (j := 0) (by omega), hR⟩
 · exact ⟨T5a, _, rfl, (b5a rw st wh n cw cv m cu hs hs w v u tabC (wypN w v hs : Nat) R).mpr ⟨fun h => absurd (of_decide_eq_true h) (by omega), fun _ => hR⟩⟩
end
end Go.Ab
