/- package surf: the least brake, the least floor. -/
import Derived.Test.YtoelpblmhmhglaaDoorOU
import Derived.Test.YtoelpblmhmhglaaDoorOX
import Derived.Test.YtoelpblmhmhglaaDoorOS
import Derived.Test.YtoelpblmhmhglaaDoorOO
set_option maxRecDepth 100000
namespace Go.Ab
open Go Go.RowKit Go.Proofs
theorem b88 (rw st : Int) (n cw cv m cu : Nat) (fl br : Int) (row : Nat) (tb ws vs us : List Value) (es es2 : List (Value × Value)) (x _ : Int) (R : Nat → AExit → Hw → Prop) : (vx.code none (.l p88) (leafW [T88 109, R88] R) ((T88 109).inst (h88 rw st n cw cv m cu fl br row tb ws vs us es)) ([(2, .split ((21, .conW (CW39 rw st n cw cv m cu fl br row tb ws vs es es2 x)) :: [(0, .split ([(11, .tm 0 [])]) ([(8, .tm 1 [])]))]) ([(1, .tm 0 [])]))])) =
(((decide (br ≤ (10 : Int))) = true → (CW 39 (CW39 rw st n cw cv m cu fl br row tb ws vs es es2 x) ⟨⟨[I rw, I st, I fl, I br, I row], [⟨n, cw⟩, ⟨n, cv⟩, ⟨m, cu⟩]⟩, [tb, ws, vs], [es]⟩ <|
(((x != (0 : Int)) = true → R (0 : Nat) .normal ⟨⟨[I fl, I (IntKind.i64.wrap (br + (1 : Int))), I row, I rw, I st], [⟨n, cw⟩, ⟨n, cv⟩, ⟨m, cu⟩]⟩, [tb, ws, vs, us], [es2]⟩) ∧
((x != (0 : Int)) = false → R (1 : Nat) .ret ⟨⟨[I fl, I br, I row], []⟩, [], []⟩)))) ∧
((decide (br ≤ (10 : Int))) = false → R (0 : Nat) (.exit 0) ⟨⟨[I fl, I br, I row, I rw, I st], [⟨n, cw⟩, ⟨n, cv⟩, ⟨m, cu⟩]⟩, [tb, ws, vs, us], [es]⟩)) := by kernel_rfl
theorem b89 (rw st : Int) (n cw cv m cu : Nat) (fl br : Int) (row : Nat) (tb ws vs us : List Value) (es es2 : List (Value × Value)) (x y : Int) (R : Nat → AExit → Hw → Prop) : (vx.code none (.l p89) (leafW [T88 113, R88] R) ((T88 113).inst (h88 rw st n cw cv m cu fl br row tb ws vs us es)) ([(2, .split ((21, .conW (CW36 rw st n cw cv m cu fl br row tb ws vs es es2 x y)) :: [(1, .split ([(11, .tm 0 [])]) ([(8, .tm 1 [])]))]) ([(1, .tm 0 [])]))])) =
(((decide (fl ≤ (40 : Int))) = true → (CW 36 (CW36 rw st n cw cv m cu fl br row tb ws vs es es2 x y) ⟨⟨[I rw, I st, I fl, I br, I row], [⟨n, cw⟩, ⟨n, cv⟩, ⟨m, cu⟩]⟩, [tb, ws, vs], [es]⟩ <|
(((y != (0 : Int)) = true → R (0 : Nat) .normal ⟨⟨[I (IntKind.i64.wrap (fl + (1 : Int))), I br, I row, I rw, I st], [⟨n, cw⟩, ⟨n, cv⟩, ⟨m, cu⟩]⟩, [tb, ws, vs, us], [es2]⟩) ∧
((y != (0 : Int)) = false → R (1 : Nat) .ret ⟨⟨[I fl, I br, I row], []⟩, [], []⟩)))) ∧
((decide (fl ≤ (40 : Int))) = false → R (0 : Nat) (.exit 0) ⟨⟨[I fl, I br, I row, I rw, I st], [⟨n, cw⟩, ⟨n, cv⟩, ⟨m, cu⟩]⟩, [tb, ws, vs, us], [es]⟩)) := by kernel_rfl
theorem f23 (rw st : Int) (n cw cv m cu : Nat) (hut : Nat) (w v : Nat → Sp) (u : Nat → Hut) (x : Int) (tb : List Value) (R : ARes → Prop) : (vx.call 23 [suV rw st n cw cv m cu, I hut] (retK R) (mSu tb (spL n w) (spL n v) (huL m u)) ((25, .con (C79 rw st n cw cv m cu (spL n w) (spL n v) (huL m u))) :: (29, .val (.bool true)) :: (12, .val (.pointer (some ⟨4, 0 + hut * 3, none⟩))) :: (0, .val (.agg ⟨[I (u hut).fl, I (u hut).br, I (u hut).row]⟩)) :: (1, .again) :: (17, .again) :: (17, .loopW (T88 (109 : Nat)) AExit.ret R88 fun _ => r88 (u hut).fl x (u hut).row) :: [])) =
(CA 79 (C79 rw st n cw cv m cu (spL n w) (spL n v) (huL m u)) ⟨⟨[I rw, I st], [⟨n, cw⟩, ⟨n, cv⟩, ⟨m, cu⟩]⟩, [spL n w, spL n v, huL m u]⟩ <|
((OT (decide ((hut : Int) ≤ IntKind.i64.wrap ((m : Int) - (1 : Int)))) true) ∧
(((((0 : Int) ≤ hut) ∧ ((hut : Int) < m)) ∧ (VR (.pointer (some ⟨4, 0 + hut * 3, none⟩)))) ∧
((HR hut m u) ∧
(((HR hut m u) ∧ (SV 4 m cu)) ∧
(((((6 : Nat) ≤ (6 : Nat)) ∧ (((.agg ⟨[I rw, I st, .slice (.some ⟨(2 : Nat), (0 : Nat), .none⟩) n cw, .slice (.some ⟨(3 : Nat), (0 : Nat), .none⟩) n cv, .slice (.some ⟨(4 : Nat), (0 : Nat), .none⟩) m cu, .map (.some (14 : Nat))]⟩) : Value) = (.agg ⟨[I rw, I st, .slice (.some ⟨(2 : Nat), (0 : Nat), .none⟩) n cw, .slice (.some ⟨(3 : Nat), (0 : Nat), .none⟩) n cv, .slice (.some ⟨(4 : Nat), (0 : Nat), .none⟩) m cu, .map (.some (14 : Nat))]⟩))) ∧ True) ∧
(LW p88 (T88 (109 : Nat)) ⟨⟨[I (u hut).fl, I 0, I (u hut).row, I rw, I st], [⟨n, cw⟩, ⟨n, cv⟩, ⟨m, cu⟩]⟩, [tb, spL n w, spL n v, huL m u], [[]]⟩ .ret R88 ⟨⟨[I (u hut).fl, I x, I (u hut).row], []⟩, [], []⟩ <|
R (.ret (.tuple ⟨[I x, I 0]⟩))))))))) := by kernel_rfl
theorem f24 (rw st : Int) (n cw cv m cu : Nat) (hut : Nat) (w v : Nat → Sp) (u : Nat → Hut) (x : Int) (tb : List Value) (R : ARes → Prop) : (vx.call 24 [suV rw st n cw cv m cu, I hut] (retK R) (mSu tb (spL n w) (spL n v) (huL m u)) ((25, .con (C79 rw st n cw cv m cu (spL n w) (spL n v) (huL m u))) :: (29, .val (.bool true)) :: (12, .val (.pointer (some ⟨4, 0 + hut * 3, none⟩))) :: (0, .val (.agg ⟨[I (u hut).fl, I (u hut).br, I (u hut).row]⟩)) :: (1, .again) :: (17, .again) :: (17, .loopW (T88 (113 : Nat)) AExit.ret R88 fun _ => r88 x (u hut).br (u hut).row) :: [])) =
(CA 79 (C79 rw st n cw cv m cu (spL n w) (spL n v) (huL m u)) ⟨⟨[I rw, I st], [⟨n, cw⟩, ⟨n, cv⟩, ⟨m, cu⟩]⟩, [spL n w, spL n v, huL m u]⟩ <|
((OT (decide ((hut : Int) ≤ IntKind.i64.wrap ((m : Int) - (1 : Int)))) true) ∧
(((((0 : Int) ≤ hut) ∧ ((hut : Int) < m)) ∧ (VR (.pointer (some ⟨4, 0 + hut * 3, none⟩)))) ∧
((HR hut m u) ∧
(((HR hut m u) ∧ (SV 4 m cu)) ∧
(((((6 : Nat) ≤ (6 : Nat)) ∧ (((.agg ⟨[I rw, I st, .slice (.some ⟨(2 : Nat), (0 : Nat), .none⟩) n cw, .slice (.some ⟨(3 : Nat), (0 : Nat), .none⟩) n cv, .slice (.some ⟨(4 : Nat), (0 : Nat), .none⟩) m cu, .map (.some (14 : Nat))]⟩) : Value) = (.agg ⟨[I rw, I st, .slice (.some ⟨(2 : Nat), (0 : Nat), .none⟩) n cw, .slice (.some ⟨(3 : Nat), (0 : Nat), .none⟩) n cv, .slice (.some ⟨(4 : Nat), (0 : Nat), .none⟩) m cu, .map (.some (14 : Nat))]⟩))) ∧ True) ∧
(LW p89 (T88 (113 : Nat)) ⟨⟨[I 0, I (u hut).br, I (u hut).row, I rw, I st], [⟨n, cw⟩, ⟨n, cv⟩, ⟨m, cu⟩]⟩, [tb, spL n w, spL n v, huL m u], [[]]⟩ .ret R88 ⟨⟨[I x, I (u hut).br, I (u hut).row], []⟩, [], []⟩ <|
R (.ret (.tuple ⟨[I x, I 0]⟩))))))))) := by kernel_rfl
def lstF (p : Nat → Bool) : Nat → Nat → Nat
 | 0, i => i
 | r + 1, i => if p i = true then i else lstF p r (i + 1)
theorem inO_still {st : Int} {k : Key} {w va : Int} {c : Nat} (h : ∀ j, j < c → (seaO st k w (va + (j : Nat))).rows = 2 ^ k.row) {o : Out} (ho : o.rows = 0 ∨ o.rows = 2 ^ k.row) (hc : 0 < c ∨ o.rows = 2 ^ k.row) : (inO st k w va o c).rows = 2 ^ k.row := by
 induction c with
 | zero => rcases hc with hc | hc; omega; exact hc
 | succ c ih =>
  have hs := h c (by omega)
  show (inO st k w va o c).rows ||| (seaO st k w (va + (c : Nat))).rows = 2 ^ k.row
  rw [hs]
  rcases Nat.eq_zero_or_pos c with h0 | h0
  · subst h0
    show o.rows ||| _ = _
    rcases ho with ho | ho
    · rw [ho, Nat.zero_or]
    · rw [ho, Nat.or_self]
  · rw [ih (fun j hj => h j (by omega)) (.inl h0), Nat.or_self]
theorem thO_still {st : Int} {k : Key} {wa va : Int} {c : Nat} (hc : 0 < c) {r : Nat} (h : ∀ i j, i < r → j < c → (seaO st k (wa + (i : Nat)) (va + (j : Nat))).rows = 2 ^ k.row) : (thO st k wa va c r).rows = if r = 0 then 0 else 2 ^ k.row := by
 induction r with
 | zero => rfl
 | succ r ih =>
  have ih := ih fun i j hi hj => h i j (by omega) hj
  rw [if_neg (by omega)]
  refine inO_still (fun j hj => h r j (by omega) hj) ?_ (.inl hc)
  rw [ih]
  split
  · exact .inl rfl
  · exact .inr rfl
theorem bits_pow : ((List.range 7).all fun r => bitsL (2 ^ r) == [r] && losN (2 ^ r) == (if r = 6 then 2 else 0)) = true := by kernel_rfl
theorem bits_one {r : Nat} (h : r ≤ 6) : bitsL (2 ^ r) = [r] ∧ losN (2 ^ r) = if r = 6 then 2 else 0 := by
 have h := List.all_eq_true.1 bits_pow r (List.mem_range.2 (by omega))
 simp only [Bool.and_eq_true, beq_iff_eq] at h
 exact h
section
variable {rw st : Int} {n : Nat} {w v : Nat → Sp} {fl br : Int} {row : Nat}
theorem crs_still (hS : SOK rw st n w v) (hr : row < 6) (h : ∀ i, i < n → ∀ a b : Int, (w i).lo ≤ a → a ≤ (w i).hi → (v i).lo ≤ b → b ≤ (v i).hi → (seaO st ⟨fl, br, row, i⟩ a b).rows = 2 ^ row) (i : Nat) (hi : i ≤ n) : crs st w v fl br row i = 2 ^ row := by
 induction i with
 | zero => rfl
 | succ i ih =>
  have ih := ih (by omega)
  obtain ⟨w0, w1, w2, w3⟩ := hS.w i (by omega)
  obtain ⟨v0, v1, v2, v3⟩ := hS.v i (by omega)
  have hrw : ((rdN (w i) : Nat) : Int) = (w i).hi - (w i).lo + 1 := by unfold rdN; omega
  have hrv : ((rdN (v i) : Nat) : Int) = (v i).hi - (v i).lo + 1 := by unfold rdN; omega
  have hth := thO_still (st := st) (k := ⟨fl, br, row, i⟩) (wa := (w i).lo) (va := (v i).lo) (c := rdN (v i)) (by omega) (r := rdN (w i)) (fun a b ha hb => h i (by omega) _ _ (by omega) (by omega) (by omega) (by omega))
  rw [if_neg (by omega)] at hth
  show (ofO st w v fl br i (crs st w v fl br row i)).rows = 2 ^ row
  rw [ih]
  unfold ofO
  rw [(bits_one (by omega)).1]
  show (0 : Nat) ||| (outO st w v ⟨fl, br, row, i⟩).rows = 2 ^ row
  rw [Nat.zero_or]
  have e : outO st w v ⟨fl, br, row, i⟩ = livO st w v ⟨fl, br, row, i⟩ := if_neg (by show ¬ row = 6; omega)
  rw [e]
  exact hth
theorem brake_enough (hS : SOK rw st n w v) (hr : row < 6) : losN (crs st w v fl 10 row n) = 0 := by
 rw [crs_still hS hr (fun i hi a b h1 h2 h3 h4 => ?_) n (Nat.le_refl n), (bits_one (by omega)).2, if_neg (by omega)]
 obtain ⟨v0, v1, v2, v3⟩ := hS.v i hi
 unfold seaO
 split
 · rfl
 · rw [if_pos (show b ≤ (10 : Int) by omega)]
theorem li_40 (hS : SOK rw st n w v) {i : Nat} (hi : i < n) (hr : row < 6) {a b : Int} (h1 : (w i).lo ≤ a) (h2 : a ≤ (w i).hi) (h3 : (v i).lo ≤ b) (h4 : b ≤ (v i).hi) : liI st a b 40 row = false := by
 obtain ⟨w0, w1, w2, w3⟩ := hS.w i hi
 obtain ⟨v0, v1, v2, v3⟩ := hS.v i hi
 have s0 := hS.st0
 have s4 := hS.st4
 have hm0 : 0 ≤ st * (row : Int) := Int.mul_nonneg s0 (by omega)
 have hm1 : st * (row : Int) ≤ 4 * 6 := Int.mul_le_mul s4 (by omega) (by omega) (by omega)
 have e1 : IntKind.i64.wrap (st * (row : Int)) = st * (row : Int) := wrapI (by omega) (by omega)
 have e2 : IntKind.i64.wrap (a - st * (row : Int)) = a - st * (row : Int) := wrapI (by omega) (by omega)
 have hd : dpI st a row ≤ 30 ∧ 0 ≤ dpI st a row := by
  unfold dpI
  rw [e1, e2]
  split <;> omega
 unfold liI
 have e3 : IntKind.i64.wrap (dpI st a row + b) = dpI st a row + b := wrapI (by omega) (by omega)
 rw [e3, decide_eq_false (show ¬ dpI st a row + b > 40 by omega), Bool.and_false]
theorem inO_dry {k : Key} {a va : Int} {c : Nat} (h : ∀ j, j < c → (seaO st k a (va + (j : Nat))).fl = false) {o : Out} (ho : o.fl = false) : (inO st k a va o c).fl = false := by
 induction c with
 | zero => exact ho
 | succ c ih =>
  show ((inO st k a va o c).fl || (seaO st k a (va + (c : Nat))).fl) = false
  rw [ih fun j hj => h j (by omega), h c (by omega)]
  rfl
theorem thO_dry {k : Key} {wa va : Int} {c r : Nat} (h : ∀ i j, i < r → j < c → (seaO st k (wa + (i : Nat)) (va + (j : Nat))).fl = false) : (thO st k wa va c r).fl = false := by
 induction r with
 | zero => rfl
 | succ r ih => exact inO_dry (fun j hj => h r j (by omega) hj) (ih fun i j hi hj => h i j (by omega) hj)
theorem floor_enough (hS : SOK rw st n w v) (hr : row < 6) : hrS st w v 40 br (selP 70) row n = 0 := by
 have hsea : ∀ i, i < n → ∀ a b : Int, (w i).lo ≤ a → a ≤ (w i).hi → (v i).lo ≤ b → b ≤ (v i).hi → seaO st ⟨40, br, row, i⟩ a b = ⟨2 ^ row, false, true⟩ := fun i hi a b h1 h2 h3 h4 => by
  unfold seaO
  exact if_pos (li_40 hS hi hr h1 h2 h3 h4)
 have hc := fun i hi => crs_still (fl := 40) (br := br) hS hr (fun i hi a b h1 h2 h3 h4 => by rw [hsea i hi a b h1 h2 h3 h4]) i hi
 have key : ∀ i, i ≤ n → hrS st w v 40 br (selP 70) row i = 0 := by
  intro i
  induction i with
  | zero => intro _; rfl
  | succ i ih =>
   intro hi
   have ih := ih (by omega)
   obtain ⟨w0, w1, w2, w3⟩ := hS.w i (by omega)
   obtain ⟨v0, v1, v2, v3⟩ := hS.v i (by omega)
   have hrw : ((rdN (w i) : Nat) : Int) = (w i).hi - (w i).lo + 1 := by unfold rdN; omega
   have hrv : ((rdN (v i) : Nat) : Int) = (v i).hi - (v i).lo + 1 := by unfold rdN; omega
   have hdry := thO_dry (st := st) (k := ⟨40, br, row, i⟩) (wa := (w i).lo) (va := (v i).lo) (c := rdN (v i)) (r := rdN (w i)) (fun a b ha hb => by rw [hsea i (by omega) _ _ (by omega) (by omega) (by omega) (by omega)])
   have e : outO st w v ⟨40, br, row, i⟩ = livO st w v ⟨40, br, row, i⟩ := if_neg (by show ¬ row = 6; omega)
   have hof : (ofO st w v 40 br i (crs st w v 40 br row i)).fl = false := by
    rw [hc i (by omega)]
    unfold ofO
    rw [(bits_one (by omega)).1]
    show (false || (outO st w v ⟨40, br, row, i⟩).fl) = false
    rw [e, Bool.false_or]
    exact hdry
   show (if selP 70 (ofO st w v 40 br i (crs st w v 40 br row i)) = true then _ else _) = 0
   rw [if_neg (by simp [selP, hof]), ih]
 exact key n (Nat.le_refl n)
end
section
variable {rw st : Int} {n cw cv m cu : Nat} {w v : Nat → Sp} {u : Nat → Hut}
def brkP (st : Int) (w v : Nat → Sp) (n : Nat) (fl : Int) (row : Nat) (b : Nat) : Bool := losN (crs st w v fl (b : Nat) row n) == 0
def floP (st : Int) (w v : Nat → Sp) (n : Nat) (br : Int) (row : Nat) (f : Nat) : Bool := hrS st w v (f : Nat) br (selP 70) row n == 0
theorem cl4m {a : List Value} {b : List (Nat × Nat)} {M : List (Key × Out)} : ClW ⟨⟨a, b⟩, [tabC, spL n w, spL n v, huL m u], [encK M]⟩ := by
 refine ⟨fun cs hc => ?_, fun e hc => ?_⟩
 · exact at4 cs hc
 · simp only [List.mem_singleton] at hc
   subst hc
   exact encK_cl M
theorem clNo (a : List Value) : ClW ⟨⟨a, []⟩, [], []⟩ := ⟨fun cs hc => (by cases hc), fun e hc => (by cases hc)⟩
theorem loop88 (hS : SOK rw st n w v) {fl : Int} {row : Nat} (hr : row < 6) :
    LoopOW Tryd.prog none p88 (T88 109) (h88 rw st n cw cv m cu fl 0 row tabC (spL n w) (spL n v) (huL m u) []) .ret R88 (r88 fl (lstF (brkP st w v n fl row) 10 0 : Nat) row) := by
 have henough : brkP st w v n fl row 10 = true := by unfold brkP; rw [show ((10 : Nat) : Int) = 10 from rfl, brake_enough hS hr]; rfl
 refine loop_vcW (P := Tryd.prog) (ro := none) (p := p88) (Ts := [T88 109, R88]) (k := 28) (X := Nat × List (Key × Out)) (inv := fun y => y.1 ≤ 10 ∧ KpO st w v y.2) (μ := fun y => 10 - y.1) (st := fun y => (0, h88 rw st n cw cv m cu fl (y.1 : Nat) row tabC (spL n w) (spL n v) (huL m u) (encK y.2)))
  (out := fun y => (.ret, 1, r88 fl (lstF (brkP st w v n fl row) (10 - y.1) y.1 : Nat) row)) rfl vx_sound (by intro T hT; simp only [List.mem_cons, List.not_mem_nil, or_false] at hT; rcases hT with rfl | rfl <;> rfl) (by rw [nglob]; omega) (fun y hy => ?_) (x := (0, [])) ⟨Nat.zero_le _, kp0⟩ (T0 := T88 109) (T1 := R88) rfl (Nat.le_of_ble_eq_true rfl) (by decide) rfl
 obtain ⟨i, M⟩ := y
 obtain ⟨hi, hM⟩ := hy
 have hi : i ≤ 10 := hi
 have hw := wrS (i := i) (by omega)
 have h39 := C39_ok (rw := rw) (cw := cw) (cv := cv) (m := m) (cu := cu) (fl := fl) (br := (i : Nat)) hS (show row ≤ 6 by omega) hM
 refine ⟨T88 109, _, rfl, (b88 rw st n cw cv m cu fl i row tabC (spL n w) (spL n v) (huL m u) (encK M) (encK (crM st w v fl i row M n)) (losN (crs st w v fl i row n) : Nat) 0 _).mpr ⟨fun _ => ⟨h39, rfl, fun h => ?_, fun h => ?_⟩, fun h => absurd (show (i : Int) ≤ 10 by omega) (of_decide_eq_false h)⟩⟩
 · have hp : brkP st w v n fl row i = false := by
    unfold brkP
    have : ((losN (crs st w v fl i row n) : Nat) : Int) ≠ 0 := by simpa using h
    exact beq_eq_false_iff_ne.2 (by omega)
   have hlt : i < 10 := by
    by_cases e : i = 10
    · subst e; rw [henough] at hp; cases hp
    · omega
   rw [hw]
   refine ⟨⟨cl4m, trivial⟩, .inl ⟨rfl, (i + 1, crM st w v fl i row M n), ⟨hlt, crM_ok hM n⟩, by show 10 - (i + 1) < 10 - i; omega, rfl, ?_⟩⟩
   show (AExit.ret, 1, r88 fl (lstF (brkP st w v n fl row) (10 - (i + 1)) (i + 1) : Nat) row) = (AExit.ret, 1, r88 fl (lstF (brkP st w v n fl row) (10 - i) i : Nat) row)
   have : 10 - i = (10 - (i + 1)) + 1 := by omega
   rw [this]
   simp only [lstF, hp, Bool.false_eq_true, if_false]
 · have hp : brkP st w v n fl row i = true := by
    unfold brkP
    have : ((losN (crs st w v fl i row n) : Nat) : Int) = 0 := by simpa using h
    exact beq_iff_eq.2 (by omega)
   refine ⟨⟨clNo _, trivial⟩, .inr ⟨by simp, ?_⟩⟩
   show (AExit.ret, 1, r88 fl (lstF (brkP st w v n fl row) (10 - i) i : Nat) row) = _
   rcases Nat.lt_or_ge i 10 with hlt | hge
   · have : 10 - i = (10 - (i + 1)) + 1 := by omega
     rw [this]
     simp only [lstF, hp, if_true]
     rfl
   · have : i = 10 := by omega
     subst this
     rfl
theorem loop89 (hS : SOK rw st n w v) {br : Int} {row : Nat} (hr : row < 6) :
    LoopOW Tryd.prog none p89 (T88 113) (h88 rw st n cw cv m cu 0 br row tabC (spL n w) (spL n v) (huL m u) []) .ret R88 (r88 (lstF (floP st w v n br row) 40 0 : Nat) br row) := by
 have henough : floP st w v n br row 40 = true := by unfold floP; rw [show ((40 : Nat) : Int) = 40 from rfl, floor_enough hS hr]; rfl
 refine loop_vcW (P := Tryd.prog) (ro := none) (p := p89) (Ts := [T88 113, R88]) (k := 28) (X := Nat × List (Key × Out)) (inv := fun y => y.1 ≤ 40 ∧ KpO st w v y.2) (μ := fun y => 40 - y.1) (st := fun y => (0, h88 rw st n cw cv m cu (y.1 : Nat) br row tabC (spL n w) (spL n v) (huL m u) (encK y.2)))
  (out := fun y => (.ret, 1, r88 (lstF (floP st w v n br row) (40 - y.1) y.1 : Nat) br row)) rfl vx_sound (by intro T hT; simp only [List.mem_cons, List.not_mem_nil, or_false] at hT; rcases hT with rfl | rfl <;> rfl) (by rw [nglob]; omega) (fun y hy => ?_) (x := (0, [])) ⟨Nat.zero_le _, kp0⟩ (T0 := T88 113) (T1 := R88) rfl (Nat.le_of_ble_eq_true rfl) (by decide) rfl
 obtain ⟨i, M⟩ := y
 obtain ⟨hi, hM⟩ := hy
 have hi : i ≤ 40 := hi
 have hw := wrS (i := i) (by omega)
 have h36 := C36_ok (rw := rw) (cw := cw) (cv := cv) (m := m) (cu := cu) (fl := (i : Nat)) (br := br) hS (show row ≤ 6 by omega) hM
 refine ⟨T88 113, _, rfl, (b89 rw st n cw cv m cu i br row tabC (spL n w) (spL n v) (huL m u) (encK M) (encK (hrM st w v i br row n (hrM st w v i br row n M n) n)) (hrS st w v i br (selP 69) row n : Nat) (hrS st w v i br (selP 70) row n : Nat) _).mpr ⟨fun _ => ⟨h36, rfl, fun h => ?_, fun h => ?_⟩, fun h => absurd (show (i : Int) ≤ 40 by omega) (of_decide_eq_false h)⟩⟩
 · have hp : floP st w v n br row i = false := by
    unfold floP
    have : ((hrS st w v i br (selP 70) row n : Nat) : Int) ≠ 0 := by simpa using h
    exact beq_eq_false_iff_ne.2 (by omega)
   have hlt : i < 40 := by
    by_cases e : i = 40
    · subst e; rw [henough] at hp; cases hp
    · omega
   rw [hw]
   refine ⟨⟨cl4m, trivial⟩, .inl ⟨rfl, (i + 1, _), ⟨hlt, hrM_ok (hrM_ok hM n) n⟩, by show 40 - (i + 1) < 40 - i; omega, rfl, ?_⟩⟩
   show (AExit.ret, 1, r88 (lstF (floP st w v n br row) (40 - (i + 1)) (i + 1) : Nat) br row) = (AExit.ret, 1, r88 (lstF (floP st w v n br row) (40 - i) i : Nat) br row)
   have : 40 - i = (40 - (i + 1)) + 1 := by omega
   rw [this]
   simp only [lstF, hp, Bool.false_eq_true, if_false]
 · have hp : floP st w v n br row i = true := by
    unfold floP
    have : ((hrS st w v i br (selP 70) row n : Nat) : Int) = 0 := by simpa using h
    exact beq_iff_eq.2 (by omega)
   refine ⟨⟨clNo _, trivial⟩, .inr ⟨by simp, ?_⟩⟩
   show (AExit.ret, 1, r88 (lstF (floP st w v n br row) (40 - i) i : Nat) br row) = _
   rcases Nat.lt_or_ge i 40 with hlt | hge
   · have : 40 - i = (40 - (i + 1)) + 1 := by omega
     rw [this]
     simp only [lstF, hp, if_true]
     rfl
   · have : i = 40 := by omega
     subst this
     rfl
def brkH (st : Int) (w v : Nat → Sp) (n : Nat) (x : Hut) : Nat := lstF (brkP st w v n x.fl x.row) 10 0
def floH (st : Int) (w v : Nat → Sp) (n : Nat) (x : Hut) : Nat := lstF (floP st w v n x.br x.row) 40 0
theorem C23_ok (hS : SOK rw st n w v) (hU : HUK rw m u) {hut : Nat} (hh : hut < m) : ConOK Tryd.prog 23 (CS1 rw st n cw cv m cu tabC (spL n w) (spL n v) (huL m u) hut (.tuple ⟨[I (brkH st w v n (u hut) : Nat), I 0]⟩)) := by
 obtain ⟨u0, u1, u2, u3, u4⟩ := hU.u hut hh
 have hw6 := hS.rw6
 have h5 := hU.m5
 have hl := loop88 (rw := rw) (cw := cw) (cv := cv) (m := m) (cu := cu) (u := u) (fl := (u hut).fl) (row := (u hut).row) hS (by omega)
 have pu := huL_part u hh
 have lu := huL_len m u
 have e : IntKind.i64.wrap ((m : Int) - 1) = (m : Int) - 1 := wrapI (by omega) (by omega)
 refine con_of vx_sound ⟨⟨[I rw, I st, I hut], [(n, cw), (n, cv), (m, cu)]⟩, [tabC, spL n w, spL n v, huL m u]⟩ (fun y hy => ?_) rfl (fun y _ => rfl) (fun y hy => ?_) rfl (Nat.le_of_ble_eq_true rfl) (by rw [nglob]; exact Nat.le_of_ble_eq_true rfl)
 · cases hy
   refine ⟨_, (f23 rw st n cw cv m cu hut w v u (brkH st w v n (u hut) : Nat) tabC _).mpr ?_⟩
   rw [e]
   exact ⟨C79_ok hS hU, rfl, tt (decide_eq_true (by omega)), ⟨⟨by omega, by omega⟩, rfl⟩, ⟨by rw [lu]; omega, by rw [pu]; rfl⟩, ⟨⟨by rw [lu]; omega, by rw [pu]; rfl⟩, rfl, trivial⟩, ⟨⟨Nat.le_refl _, rfl⟩, trivial⟩, cl4m (M := []), hl, rfl⟩
 · cases hy
   exact at4
theorem C24_ok (hS : SOK rw st n w v) (hU : HUK rw m u) {hut : Nat} (hh : hut < m) : ConOK Tryd.prog 24 (CS1 rw st n cw cv m cu tabC (spL n w) (spL n v) (huL m u) hut (.tuple ⟨[I (floH st w v n (u hut) : Nat), I 0]⟩)) := by
 obtain ⟨u0, u1, u2, u3, u4⟩ := hU.u hut hh
 have hw6 := hS.rw6
 have h5 := hU.m5
 have hl := loop89 (rw := rw) (cw := cw) (cv := cv) (m := m) (cu := cu) (u := u) (br := (u hut).br) (row := (u hut).row) hS (by omega)
 have pu := huL_part u hh
 have lu := huL_len m u
 have e : IntKind.i64.wrap ((m : Int) - 1) = (m : Int) - 1 := wrapI (by omega) (by omega)
 refine con_of vx_sound ⟨⟨[I rw, I st, I hut], [(n, cw), (n, cv), (m, cu)]⟩, [tabC, spL n w, spL n v, huL m u]⟩ (fun y hy => ?_) rfl (fun y _ => rfl) (fun y hy => ?_) rfl (Nat.le_of_ble_eq_true rfl) (by rw [nglob]; exact Nat.le_of_ble_eq_true rfl)
 · cases hy
   refine ⟨_, (f24 rw st n cw cv m cu hut w v u (floH st w v n (u hut) : Nat) tabC _).mpr ?_⟩
   rw [e]
   exact ⟨C79_ok hS hU, rfl, tt (decide_eq_true (by omega)), ⟨⟨by omega, by omega⟩, rfl⟩, ⟨by rw [lu]; omega, by rw [pu]; rfl⟩, ⟨⟨by rw [lu]; omega, by rw [pu]; rfl⟩, rfl, trivial⟩, ⟨⟨Nat.le_refl _, rfl⟩, trivial⟩, cl4m (M := []), hl, rfl⟩
 · cases hy
   exact at4
end
end Go.Ab
set_option maxRecDepth 100000
namespace Go.Ab
open Go Go.RowKit Go.Proofs
structure LeO (x y : Out) : Prop where
 rows : ∀ t, x.rows.testBit t = true → y.rows.testBit t = true
 fl : x.fl = true → y.fl = true
 re : x.re = true → y.re = true
theorem LeO.refl (x : Out) : LeO x x := ⟨fun _ h => h, fun h => h, fun h => h⟩
theorem LeO.trans {x y z : Out} (h : LeO x y) (h' : LeO y z) : LeO x z := ⟨fun t ht => h'.rows t (h.rows t ht), fun ht => h'.fl (h.fl ht), fun ht => h'.re (h.re ht)⟩
theorem LeO.left (x y : Out) : LeO x (orO x y) := ⟨fun t h => by simp only [orO, Nat.testBit_or, h, Bool.true_or], fun h => by simp only [orO, h, Bool.true_or], fun h => by simp only [orO, h, Bool.true_or]⟩
theorem LeO.right (x y : Out) : LeO y (orO x y) := ⟨fun t h => by simp only [orO, Nat.testBit_or, h, Bool.or_true], fun h => by simp only [orO, h, Bool.or_true], fun h => by simp only [orO, h, Bool.or_true]⟩
section
variable {st : Int} {k : Key}
theorem inO_ge {a va : Int} {o : Out} (c : Nat) : LeO o (inO st k a va o c) := by
 induction c with
 | zero => exact .refl _
 | succ c ih => exact ih.trans (.left _ _)
theorem inO_has {a va : Int} {o : Out} {c j : Nat} (h : j < c) : LeO (seaO st k a (va + (j : Nat))) (inO st k a va o c) := by
 induction c with
 | zero => omega
 | succ c ih =>
  by_cases e : j = c
  · subst e; exact .right _ _
  · exact (ih (by omega)).trans (.left _ _)
theorem thO_has {wa va : Int} {c r i j : Nat} (hi : i < r) (hj : j < c) : LeO (seaO st k (wa + (i : Nat)) (va + (j : Nat))) (thO st k wa va c r) := by
 induction r with
 | zero => omega
 | succ r ih =>
  by_cases e : i = r
  · subst e; exact inO_has hj
  · exact (ih (by omega)).trans (inO_ge c)
theorem livO_has {w v : Nat → Sp} {a b : Int} (h1 : (w k.hour).lo ≤ a) (h2 : a ≤ (w k.hour).hi) (h3 : (v k.hour).lo ≤ b) (h4 : b ≤ (v k.hour).hi) : LeO (seaO st k a b) (livO st w v k) := by
 have e1 : a = (w k.hour).lo + ((a - (w k.hour).lo).toNat : Nat) := by omega
 have e2 : b = (v k.hour).lo + ((b - (v k.hour).lo).toNat : Nat) := by omega
 rw [e1, e2]
 exact thO_has (by unfold rdN; omega) (by unfold rdN; omega)
end
section
variable {st : Int} {w v : Nat → Sp} {fl br : Int}
theorem evO_ge {hour : Nat} : ∀ (l : List Nat) (o : Out), LeO o (evO st w v fl br hour l o)
 | [], o => .refl o
 | r :: l, o => (LeO.left o _).trans (evO_ge l _)
theorem evO_has {hour r : Nat} : ∀ (l : List Nat) (o : Out), r ∈ l → LeO (outO st w v ⟨fl, br, r, hour⟩) (evO st w v fl br hour l o)
 | [], _, h => (by cases h)
 | x :: l, o, h => by
  rcases List.mem_cons.1 h with rfl | h
  · exact (LeO.right o _).trans (evO_ge l _)
  · exact evO_has l _ h
theorem mem_bits {s r : Nat} (hs : s < 256) (h : s.testBit r = true) : r ∈ bitsL s := by
 simp only [bitsL, List.mem_filter, List.mem_range]
 refine ⟨?_, h⟩
 have h1 := Nat.ge_two_pow_of_testBit h
 by_cases h8 : r < 8
 · exact h8
 · have : (2 : Nat) ^ 8 ≤ 2 ^ r := Nat.pow_le_pow_right (by omega) (by omega)
   have e : (2 : Nat) ^ 8 = 256 := rfl
   omega
theorem hrS_bit {p : Out → Bool} {row : Nat} : ∀ (n i : Nat), (hrS st w v fl br p row n).testBit i = (decide (i < n) && p (ofO st w v fl br i (crs st w v fl br row i))) := by
 intro n
 induction n with
 | zero => intro i; simp [hrS]
 | succ n ih =>
  intro i
  simp only [hrS]
  by_cases e : i = n
  · subst e
    have hlt : (hrS st w v fl br p row i).testBit i = false := by rw [ih]; simp
    split
    · rename_i hp
      rw [Nat.testBit_or, Nat.testBit_two_pow_self, hp, Bool.or_true]
      simp
    · rename_i hp
      rw [hlt]
      simp [hp]
  · have h2 : (2 ^ n).testBit i = false := Nat.testBit_two_pow_of_ne (fun h => e h.symm)
    split
    · rw [Nat.testBit_or, h2, Bool.or_false, ih]
      congr 1
      exact decide_eq_decide.2 (by omega)
    · rw [ih]
      congr 1
      exact decide_eq_decide.2 (by omega)
theorem dp_eq (st a row : Int) : dpI st a row = dpF st a row := by unfold dpI dpF; split <;> split <;> omega
end
end Go.Ab
set_option maxRecDepth 100000
namespace Go.Ab
open Go Go.RowKit Go.Proofs
noncomputable def rcL (many m F : Int) (f : Nat → Int) : List Value := [I many, I m, I F, I (f 0), I (f 1), I (f 2), I (f 3), I (f 4)]
def p57 : Loc := .l (.r (.l (.r (.r (.top 57)))))
noncomputable def Z8 : TL := .val (.int .i64 0) (.val (.int .i64 0) (.val (.int .i64 0) (.val (.int .i64 0) (.val (.int .i64 0) (.val (.int .i64 0) (.val (.int .i64 0) (.val (.int .i64 0) .nil)))))))
noncomputable def T57 : Tw := ⟨44, mkS 44 [(2, .ptr 6 0 .nil), (4, .ptr 7 0 .nil), (5, .ptr 8 0 .nil), (17, .slice 4 0 .nil), (18, .hole .nil), (19, .hole .nil)], 9,
 [.dead, .list 1 .ro, .list 1 .ro, .list 1 .ro, .list 1 .ro, .map, .cells ShL 77 .var, .cells Z8 104 .var, .list 104 .var]⟩
noncomputable def h57 (rw st : Int) (n cw cv m cu : Nat) (tb ws vs us cs : List Value) (es : List (Value × Value)) (i : Nat) : Hw :=
 ⟨⟨[I m, I i, I rw, I st], [(m, cu), (n, cw), (n, cv), (m, cu)]⟩, [tb, ws, vs, us, cs], [es]⟩
def bs57 : List TBc := [.dead, .rlist 1, .rlist 1, .rlist 1, .rlist 1, .wmap]
noncomputable def m57 (tb ws vs us : List Value) (es : List (Value × Value)) : Mem := ⟨fillX [.dead, .cells tb 1 .ro, .cells ws 1 .ro, .cells vs 1 .ro, .cells us 1 .ro, .map es] 0 .nil, 6⟩
noncomputable def CW57 (rw st : Int) (n cw cv m cu : Nat) (many : Int) (tb ws vs us : List Value) (es es2 : List (Value × Value)) (F f0 f1 f2 f3 f4 : Int) : ConW where
 A := ShT (.hole .nil)
 bs := bs57
 pre y := y = ⟨⟨[I rw, I st, I many], [(n, cw), (n, cv), (m, cu)]⟩, [tb, ws, vs, us], [es]⟩
 out _ := [.mp es2]
 res _ := .ret (.agg ⟨[I many, I m, I F, I f0, I f1, I f2, I f3, I f4]⟩)
end Go.Ab
set_option maxRecDepth 100000
namespace Go.Ab
open Go Go.RowKit
variable [TT] [PR] {P : Program}
noncomputable def rowTs (N : Nat) (e : TypeId) : Tm := ⟨1, [some (.tuple (.slice N 0 (.hole (.hole .nil))) .nil)], N, List.replicate N .dead ++ [.list e .row]⟩
theorem conRowS_of {N : Nat} {V : Vx} (htt : TT.tt = true) (hV : VSound P N V) {f : FuncId} {C : ConN} {e : TypeId} {cells : List Value} {n : Nat} {y0 z : Int} (x0 : Hx) (hx0 : ∀ x, C.pre x ↔ x = x0) (hone : C.one = false) (hres : C.res x0 = [.sl 0 n, .cv (.int .i64 y0), .cv (.int .i64 z)]) (hnews : C.news x0 = [(cells, e)])
    (h : ∃ hs, V.call f (C.con.args x0) (retN (rowTs C.bs.length e) fun y => y = ⟨⟨[.int .i64 y0, .int .i64 z], [(n, n)]⟩, [cells]⟩) (C.con.mem x0) hs) (ha : Atoms x0.ls) (hat : ∀ v ∈ cells, atomic v = true)
    (hr : allRo C.bs = true) (hs : C.bs.length ≤ 100000) (hg : P.globals.size ≤ C.bs.length) : ConNOK P f C where
 calls := by obtain ⟨hs, hv⟩ := h; exact (hV.call hv).1
 says x hp := by
  cases (hx0 x).1 hp
  obtain ⟨hs', hv⟩ := h
  have hlen : (rowTs C.bs.length e).blocks.length = C.bs.length + 1 := by simp [rowTs]
  have hval : ((rowTs C.bs.length e).inst ⟨⟨[.int .i64 y0, .int .i64 z], [(n, n)]⟩, [cells]⟩).a.f 0 = some (.tuple ⟨[.slice (some ⟨C.bs.length, 0, none⟩) n n, .int .i64 y0, .int .i64 z]⟩) := rfl
  refine (retN_says htt hV (T := rowTs C.bs.length e) rfl (by exact hg) (fun j hj => ?_) (fun cs hcs => by simp only [List.mem_singleton] at hcs; subst hcs; exact hat) hv hval).mono ?_
  · have hj' : C.bs.length ≤ j := hj
    have := Con.mem_H (C := C.con) (x := x0) (by show C.bs.length ≤ _; omega) j
    rw [this, List.getElem?_eq_none (by rw [instB_len]; exact hj')]
    rfl
  · rintro r H' ⟨rfl, rfl⟩
    refine ⟨?_, fun t cs e' ht => ?_⟩
    · rw [hone, hres]; rfl
    · rw [hnews] at ht
      match t, ht with
      | 0, ht =>
       simp only [List.getElem?_cons_zero, Option.some.injEq, Prod.mk.injEq] at ht
       obtain ⟨rfl, rfl⟩ := ht
       rw [Nat.add_zero, Tm.inst_H (by rw [hlen]; omega)]
       have key : ∀ (k : Nat) (h : Hx), (instB (List.replicate k .dead ++ [.list e .row]) h).1[k]? = some (.cells (h.ls.headD []) e .row) := by
        intro k
        induction k with
        | zero => intro h; rfl
        | succ k ih => intro h; exact ih h
       show Option.map XB.a ((instB (List.replicate C.bs.length .dead ++ [.list e .row]) _).1[C.bs.length]?) = _
       rw [key]
       rfl
 closed x hp := by cases (hx0 x).1 hp; rw [hres, hnews]; exact ⟨rfl, fun h => (by rw [hone] at h; cases h)⟩
 atoms x hp := by
  cases (hx0 x).1 hp
  refine ⟨ha, fun y hy => ?_⟩
  rw [hnews] at hy
  simp only [List.mem_singleton] at hy
  subst hy
  exact hat
 ro := hr
 small := by omega
 glob := hg
end Go.Ab
set_option maxRecDepth 100000
namespace Go.Ab
open Go Go.RowKit Go.Proofs
def wS : Nat → Sp
 | 0 => ⟨3, 4⟩
 | 1 => ⟨5, 5⟩
 | 2 => ⟨6, 7⟩
 | _ => ⟨4, 4⟩
def vS : Nat → Sp
 | 0 => ⟨1, 1⟩
 | 1 => ⟨1, 2⟩
 | 2 => ⟨2, 3⟩
 | _ => ⟨0, 1⟩
def uS : Nat → Hut
 | 0 => ⟨6, 2, 0⟩
 | 1 => ⟨4, 1, 1⟩
 | _ => ⟨9, 0, 2⟩
noncomputable def wsS : List Value := [I 3, I 4, I 5, I 5, I 6, I 7, I 4, I 4]
noncomputable def vsS : List Value := [I 1, I 1, I 1, I 2, I 2, I 3, I 0, I 1]
noncomputable def usS : List Value := [I 6, I 2, I 0, I 4, I 1, I 1, I 9, I 0, I 2]
noncomputable def mSam : Mem := ⟨fillX [.dead, .cells tabC 1 .ro, .cells wsS 1 .ro, .cells vsS 1 .ro, .cells usS 1 .ro] 0 .nil, 5⟩
noncomputable def C21s (rw st : Int) (n cw cv m cu : Nat) (many : Int) (tb ws vs us r : List Value) (k : Nat) (left : Int) : ConN where
 A := .agg SuL (.hole .nil)
 bs := bsSu
 pre x := x = ⟨⟨[I rw, I st, I many], [(n, cw), (n, cv), (m, cu)]⟩, [tb, ws, vs, us]⟩
 news _ := [(r, 3)]
 one := false
 res _ := [.sl 0 k, .cv (I left), .cv (I 0)]
end Go.Ab
set_option maxRecDepth 100000
namespace Go.Ab
open Go Go.RowKit Go.Proofs
noncomputable def C11t (tb : List Value) : Con where
 A := .nil
 bs := [.dead, .list 1 .ro]
 pre x := x = ⟨⟨[], []⟩, [tb]⟩
 res _ := .ret (.bool true)
end Go.Ab
