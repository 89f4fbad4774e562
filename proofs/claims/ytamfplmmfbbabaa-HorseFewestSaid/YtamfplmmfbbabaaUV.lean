/- what the law calls: examples, contracts by what they return. -/
import Derived.Test.YtamfplmmfbbabaaUT
import Derived.Test.YtamfplmmfbbabaaUU
import Derived.Test.YtamfplmmfbbabaaUQ
import Init
set_option maxRecDepth 100000
namespace Go.Ab
open Go Go.RowKit Go.Proofs
noncomputable def C12 : Con where
  A := .nil
  bs := []
  pre x := x = ⟨⟨[], []⟩, []⟩
  res _ := .ret (.bool true)
theorem C12_ok : ConOK Try.prog 12 C12 where
  calls := aw_ok.calls
  says x hp := by cases hp; exact aw_ok.says.mono fun r H hr => hr
  closed _ _ := rfl
  atoms x hp := by cases hp; intro cs hcs; cases hcs
  ro := rfl
  small := Nat.zero_le _
  glob := by rw [nglob]; exact Nat.zero_le _
def natAt (x : Hx) (m : Nat) : Nat := match x.hs.vs[m]? with | some (.int _ v) => v.toNat | _ => 0
noncomputable def C18x (p : Int) (n c : Nat) (f : Nat → Mv) : Con where
  A := .agg (.hole (.slice 0 0 .nil)) (.hole (.hole .nil))
  bs := [.list 1 .ro]
  pre x := ∃ i j, i < n ∧ j < n ∧ x = ⟨⟨[I p, I (i : Nat), I (j : Nat)], [(n, c)]⟩, [mvs n f]⟩
  res x := .ret (.tuple ⟨[I (folV p n f (natAt x 1) (natAt x 2)), I 0]⟩)
theorem C18x_ok (p : Int) (n c : Nat) (f : Nat → Mv) (h0 : 0 < n) (hok : okH p n f = true) (hn : n ≤ 7) : ConOK Try.prog 18 (C18x p n c f) where
  calls := (C18_ok p 0 0 n c f hok h0 h0 hn).calls
  says x hp := by
    obtain ⟨i, j, hi, hj, rfl⟩ := hp
    exact (C18_ok p i j n c f hok hi hj hn).says _ rfl
  closed x hp := rfl
  atoms x hp := by obtain ⟨i, j, hi, hj, rfl⟩ := hp; exact mvs_atoms n f
  ro := rfl
  small := Nat.le_of_ble_eq_true rfl
  glob := by rw [nglob]; exact Nat.zero_le _
def p6o : Loc := .l (.r (.l (.r (.r (.r (.r (.r (.r (.top 6)))))))))
def p6i : Loc := .l (.r (.r (.l (.l (.r (.r (.l (.l (.r (.l (.r (.r (.r (.r (.r (.r (.top 6)))))))))))))))))
noncomputable def T6o : Tm := ⟨123, mkS 123 [(3, .ptr 2 0 .nil), (6, .hole .nil), (7, .slice 5 0 .nil), (8, .hole .nil), (9, .hole .nil), (10, .hole .nil), (11, .hole .nil), (35, .hole .nil), (36, .hole .nil)], 6, [.list 1 .ro, .dead, .cells (.hole (.slice 0 0 .nil)) 24 .var, .dead, .dead, .list 3 .row]⟩
noncomputable def T6i : Tm := ⟨123, mkS 123 [(3, .ptr 2 0 .nil), (6, .hole .nil), (7, .slice 5 0 .nil), (8, .hole .nil), (9, .hole .nil), (10, .hole .nil), (11, .hole .nil), (12, .hole .nil), (13, .hole .nil), (35, .hole .nil), (36, .hole .nil)], 6, [.list 1 .ro, .dead, .cells (.hole (.slice 0 0 .nil)) 24 .var, .dead, .dead, .list 3 .row]⟩
end Go.Ab
/- which sets tell what: bits, and what can follow. -/
set_option maxRecDepth 100000
namespace Go.Ab
open Go Go.RowKit Go.Proofs
theorem wrapsI (n : Int) (h0 : 0 ≤ n) (h1 : n < 2 ^ 62) : IntKind.i64.wrap n = n := wrapI (by omega) (by omega)
theorem or_nat (a b : Nat) (ha : a < 2 ^ 62) (hb : b < 2 ^ 62) : bits .or .i64 (a : Int) (b : Int) = ((a ||| b : Nat) : Int) := (bits_nat .i64 62 (by decide) wrapsI a b ha hb).2
theorem and_nat (a b : Nat) (ha : a < 2 ^ 62) (hb : b < 2 ^ 62) : bits .and .i64 (a : Int) (b : Int) = ((a &&& b : Nat) : Int) := (bits_nat .i64 62 (by decide) wrapsI a b ha hb).1
def maskN (b : Nat → Bool) : Nat → Nat
  | 0 => 0
  | j + 1 => if b j then maskN b j ||| 2 ^ j else maskN b j
theorem maskN_lt (b : Nat → Bool) (j : Nat) : maskN b j < 2 ^ j := by
  induction j with
  | zero => simp [maskN]
  | succ j ih =>
    have h2 : 2 ^ (j + 1) = 2 ^ j + 2 ^ j := by rw [Nat.pow_succ]; omega
    simp only [maskN]
    split
    · exact Nat.or_lt_two_pow (by omega) (by omega)
    · omega
theorem maskN_bit (b : Nat → Bool) (j k : Nat) : (maskN b j).testBit k = (decide (k < j) && b k) := by
  induction j with
  | zero => simp [maskN]
  | succ j ih =>
    simp only [maskN]
    by_cases hk : k = j
    · subst hk
      cases hb : b k with
      | true => simp [hb, Nat.testBit_or, Nat.testBit_two_pow_self]
      | false => simp [hb, ih]
    · have hne : j ≠ k := fun h => hk h.symm
      have e : decide (k < j + 1) = decide (k < j) := by
        by_cases h : k < j
        · simp [h]; omega
        · simp [h]; omega
      rw [e]
      split
      · rw [Nat.testBit_or, ih, Nat.testBit_two_pow_of_ne hne, Bool.or_false]
      · exact ih
theorem one_nat (j : Nat) (h : j ≤ 61) : oneI j = ((2 ^ j : Nat) : Int) := by
  have h1 : 2 ^ j ≤ 2 ^ 61 := Nat.pow_le_pow_right (by omega) h
  have h2 : (2 : Nat) ^ 61 < 2 ^ 62 := by decide
  have e : (1 : Int) * 2 ^ j = ((2 ^ j : Nat) : Int) := by simp
  rw [oneI, e]
  have h3 : (2 : Nat) ^ 61 = 2305843009213693952 := by decide
  rw [h3] at h1
  generalize 2 ^ j = z at h1
  exact wrapI (by omega) (by omega)
theorem rowI_mask (b : Nat → Bool) (j : Nat) (h : j ≤ 61) : rowI b 0 j = (maskN b j : Int) := by
  induction j with
  | zero => rfl
  | succ j ih =>
    have hm := maskN_lt b j
    have hp : 2 ^ j ≤ 2 ^ 61 := Nat.pow_le_pow_right (by omega) (by omega)
    have h2 : (2 : Nat) ^ 61 < 2 ^ 62 := by decide
    simp only [rowI, maskN]
    split
    · rw [ih (by omega), one_nat j (by omega), joinI]
      have e0 : bits .or .i64 0 (maskN b j : Int) = (maskN b j : Int) := by
        have := or_nat 0 (maskN b j) (by decide) (by omega)
        simpa using this
      rw [e0, or_nat _ _ (by omega) (by omega)]
    · exact ih (by omega)
theorem hasI_mask (m j : Nat) (hm : m < 2 ^ 62) : hasI (m : Int) j = m.testBit j := by
  have e : (m : Int) / 2 ^ j = ((m / 2 ^ j : Nat) : Int) := by simp
  have hd : m / 2 ^ j < 2 ^ 62 := Nat.lt_of_le_of_lt (Nat.div_le_self _ _) hm
  simp only [hasI, e]
  have h1 := and_nat (m / 2 ^ j) 1 hd (by decide)
  rw [show ((1 : Nat) : Int) = 1 from rfl] at h1
  rw [h1, Nat.testBit_eq_decide_div_mod_eq, Nat.and_one_is_mod]
  have hmod : m / 2 ^ j % 2 = 0 ∨ m / 2 ^ j % 2 = 1 := by omega
  rcases hmod with h | h <;> simp [h]
theorem hasI_row (b : Nat → Bool) {n j : Nat} (hn : n ≤ 7) (hj : j < n) : hasI (rowI b 0 n) j = b j := by
  have h1 := maskN_lt b n
  have h2 : 2 ^ n ≤ 2 ^ 7 := Nat.pow_le_pow_right (by omega) hn
  have h3 : (2 : Nat) ^ 7 < 2 ^ 62 := by decide
  rw [rowI_mask b n (by omega), hasI_mask _ _ (by omega), maskN_bit]
  simp [hj]
theorem hasI_ord (sure : Bool) (p : Int) {n : Nat} (f : Nat → Mv) {i j : Nat} (hn : n ≤ 7) (hi : i < n) (hj : j < n) : hasI (ordF sure p n f n i) j = canB sure p f i j := by
  simp only [ordF, if_pos hi]
  exact hasI_row _ hn hj
end Go.Ab
/- what Follows tells, in numbers. -/
set_option maxRecDepth 100000
namespace Go.Ab
open Go Go.RowKit Go.Proofs
theorem allFrom_iff (b : Nat → Bool) : ∀ (r m : Nat), allFrom b r m = true → ∀ i, m ≤ i → i < m + r → b i = true := by
  intro r
  induction r with
  | zero => intro m _ i h1 h2; omega
  | succ r ih =>
    intro m h i h1 h2
    simp only [allFrom, Bool.and_eq_true] at h
    by_cases e : i = m
    · subst e; exact h.1
    · exact ih (m + 1) h.2 i (by omega) (by omega)
structure MvOK (m : Mv) : Prop where
  at0 : 0 ≤ m.at_
  at1 : m.at_ ≤ 200
  pl0 : 0 ≤ m.place
  pl1 : m.place ≤ 30
  lo1 : 1 ≤ m.lo
  lohi : m.lo ≤ m.hi
  hi1 : m.hi ≤ 20
theorem okMv_iff {m : Mv} (h : okMv m = true) : MvOK m := by
  simp only [okMv, Bool.and_eq_true, decide_eq_true_eq, Bool.not_eq_true', decide_eq_false_iff_not] at h
  obtain ⟨h1, h2, h3, h4, h5, h6, h7⟩ := h
  exact ⟨h1, h2, h3, h4, by omega, by omega, by omega⟩
structure HOK (p : Int) (n : Nat) (f : Nat → Mv) : Prop where
  p0 : 0 ≤ p
  p3 : p ≤ 3
  n7 : n ≤ 7
  mv : ∀ i, i < n → MvOK (f i)
theorem okH_iff {p : Int} {n : Nat} {f : Nat → Mv} (h : okH p n f = true) : HOK p n f := by
  simp only [okH, Bool.and_eq_true, decide_eq_true_eq, Bool.not_eq_true', decide_eq_false_iff_not] at h
  obtain ⟨h1, h2, h3, h4⟩ := h
  exact ⟨h1, h2, by omega, fun i hi => okMv_iff (allFrom_iff _ n 0 h4 i (by omega) (by omega))⟩
def distI (a b : Mv) : Int := if b.place - a.place > a.place - b.place then b.place - a.place else a.place - b.place
theorem distI_bounds {a b : Mv} (ha : MvOK a) (hb : MvOK b) : 0 ≤ distI a b ∧ distI a b ≤ 30 := by
  have := ha.pl0; have := ha.pl1; have := hb.pl0; have := hb.pl1
  simp only [distI]; split <;> omega
theorem distI_comm (a b : Mv) : distI a b = distI b a := by simp only [distI]; split <;> split <;> omega
theorem mul_bounds {p x : Int} (h0 : 0 ≤ p) (h3 : p ≤ 3) (hx : 0 ≤ x) (hx3 : x ≤ 30) : 0 ≤ p * x ∧ p * x ≤ 90 := by
  have : p = 0 ∨ p = 1 ∨ p = 2 ∨ p = 3 := by omega
  rcases this with rfl | rfl | rfl | rfl <;> omega
theorem canB_eq {p : Int} {n : Nat} {f : Nat → Mv} (h : HOK p n f) (sure : Bool) {i j : Nat} (hi : i < n) (hj : j < n) : canB sure p f i j = decide ((f i).at_ + cond sure (f i).hi (f i).lo + p * distI (f i) (f j) ≤ (f j).at_) := by
  have ha := h.mv i hi
  have hb := h.mv j hj
  have a1 := ha.at0; have a2 := ha.at1; have a3 := ha.pl0; have a4 := ha.pl1; have a5 := ha.lo1; have a6 := ha.lohi; have a7 := ha.hi1
  have b1 := hb.at0; have b2 := hb.at1; have b3 := hb.pl0; have b4 := hb.pl1
  have hL : 1 ≤ cond sure (f i).hi (f i).lo ∧ cond sure (f i).hi (f i).lo ≤ 20 := by cases sure <;> simp only [cond_true, cond_false] <;> omega
  have e1 : IntKind.i64.wrap ((f j).place - (f i).place) = (f j).place - (f i).place := wrapI (by omega) (by omega)
  have e2 : IntKind.i64.wrap ((f i).place - (f j).place) = (f i).place - (f j).place := wrapI (by omega) (by omega)
  have hd := distI_bounds ha hb
  have hm := mul_bounds h.p0 h.p3 hd.1 hd.2
  simp only [canB, canW, doneW, e1, e2]
  rw [show (if (f j).place - (f i).place > (f i).place - (f j).place then (f j).place - (f i).place else (f i).place - (f j).place) = distI (f i) (f j) from rfl]
  generalize cond sure (f i).hi (f i).lo = L at hL
  generalize p * distI (f i) (f j) = w at hm
  rw [wrapI (x := w) (by omega) (by omega), wrapI (x := (f i).at_ + L) (by omega) (by omega), wrapI (x := (f i).at_ + L + w) (by omega) (by omega)]
theorem both_can {p : Int} {n : Nat} {f : Nat → Mv} (h : HOK p n f) (s t : Bool) {i j : Nat} (hi : i < n) (hj : j < n) : canB s p f i j = true → canB t p f j i = false := by
  intro h1
  rw [canB_eq h t hj hi]
  rw [canB_eq h s hi hj] at h1
  have h1 := of_decide_eq_true h1
  have ha := h.mv i hi
  have hb := h.mv j hj
  have a5 := ha.lo1; have a6 := ha.lohi; have b5 := hb.lo1; have b6 := hb.lohi
  have hm := mul_bounds h.p0 h.p3 (distI_bounds ha hb).1 (distI_bounds ha hb).2
  rw [distI_comm (f j) (f i)]
  generalize p * distI (f i) (f j) = w at hm h1
  have hL : 1 ≤ cond s (f i).hi (f i).lo := by cases s <;> simp only [cond_true, cond_false] <;> omega
  have hL2 : 1 ≤ cond t (f j).hi (f j).lo := by cases t <;> simp only [cond_true, cond_false] <;> omega
  exact decide_eq_false (by omega)
theorem sure_some {p : Int} {n : Nat} {f : Nat → Mv} (h : HOK p n f) {i j : Nat} (hi : i < n) (hj : j < n) : canB true p f i j = true → canB false p f i j = true := by
  intro h1
  rw [canB_eq h _ hi hj] at h1 ⊢
  have h1 := of_decide_eq_true h1
  have a6 := (h.mv i hi).lohi
  simp only [cond_true, cond_false] at h1 ⊢
  exact decide_eq_true (by omega)
theorem folV_eq {p : Int} {n : Nat} {f : Nat → Mv} (h : HOK p n f) {i j : Nat} (hi : i < n) (hj : j < n) : folV p n f i j = if canB true p f i j then 2 else if canB false p f i j then 1 else 0 := by
  simp only [folV, hasI_ord true p f h.n7 hi hj, hasI_ord false p f h.n7 hi hj]
theorem folV_pos {p : Int} {n : Nat} {f : Nat → Mv} (h : HOK p n f) {i j : Nat} (hi : i < n) (hj : j < n) : decide (folV p n f i j > 0) = true → decide (folV p n f j i > 0) = true → False := by
  intro h1 h2
  have h1 := of_decide_eq_true h1
  have h2 := of_decide_eq_true h2
  rw [folV_eq h hi hj] at h1
  rw [folV_eq h hj hi] at h2
  have c1 := both_can h true true hi hj
  have c2 := both_can h true false hi hj
  have c3 := both_can h false true hi hj
  have c4 := both_can h false false hi hj
  revert h1 h2 c1 c2 c3 c4
  cases canB true p f i j <;> cases canB false p f i j <;> cases canB true p f j i <;> cases canB false p f j i <;> simp
theorem folV_can {p : Int} {n : Nat} {f : Nat → Mv} (h : HOK p n f) (sure : Bool) {i j : Nat} (hi : i < n) (hj : j < n) : decide (folV p n f i j < cond sure 2 1) = !canB sure p f i j := by
  rw [folV_eq h hi hj]
  have m := sure_some h hi hj
  revert m
  cases sure <;> cases canB true p f i j <;> cases canB false p f i j <;> simp
end Go.Ab
/- Stores into cells. -/
set_option maxRecDepth 100000
namespace Go.Ab
open Go Go.RowKit Go.Proofs
theorem flatC_congr {n : Nat} {g g' : Nat → List Value} (h : ∀ i, i < n → g i = g' i) : flatC n g = flatC n g' := by
  induction n with
  | zero => rfl
  | succ n ih => rw [flatC_succ, flatC_succ, ih (fun i hi => h i (by omega)), h n (by omega)]
theorem flatC_set {n k : Nat} {g : Nat → List Value} (hk : ∀ i, i < n → (g i).length = k) {i : Nat} (hi : i < n) {v : List Value} (hv : v.length = k) :
    (flatC n g).take (i * k) ++ v ++ (flatC n g).drop (i * k + k) = flatC n fun x => if x = i then v else g x := by
  induction n with
  | zero => omega
  | succ n ih =>
    have hl := flatC_len (n := n) (g := g) (k := k) fun i hi => hk i (by omega)
    rw [flatC_succ, flatC_succ]
    by_cases h : i = n
    · subst h
      rw [if_pos rfl, List.take_append_of_le_length (by omega), List.take_of_length_le (by omega), List.drop_append, List.drop_eq_nil_of_le (by omega), List.nil_append, hl, List.drop_eq_nil_of_le (by rw [hk i (by omega)]; omega), List.append_nil]
      congr 1
      exact flatC_congr fun x hx => by rw [if_neg (by omega)]
    · have h2 := ih (fun i hi => hk i (by omega)) (by omega)
      have h3 := flatC_bound (n := n) (k := k) (i := i) (by omega)
      rw [if_neg (fun e => h e.symm), List.take_append_of_le_length (by omega), List.drop_append_of_le_length (by omega), ← List.append_assoc, h2]
theorem ints_put {n i : Nat} (o : Nat → Int) (v : Int) (hi : i < n) : (ints n o).take (0 + i * 1) ++ [I v] ++ (ints n o).drop (0 + i * 1 + 1) = ints n (updF o i v) := by
  have h := flatC_set (n := n) (k := 1) (g := fun i => [I (o i)]) (fun _ _ => rfl) hi (v := [I v]) rfl
  rw [Nat.zero_add]
  refine (show _ = _ from h).trans ?_
  refine flatC_congr fun x _ => ?_
  simp only [updF]
  split <;> rfl
end Go.Ab
/- ABSTRACT MEMORY, 53: loops that go through some numbers; loops that may be left before. -/
namespace Go.Ab
open Go Go.RowKit
variable [TT] [PR]
section
variable {P : Program} {ro : Option Nat} {N : Nat} {V : Vx}
theorem loop_forW (htt : TT.tt = true) (hV : VSound P N V) {p : Loc} {Ts : List Tw} {k n : Nat} {st : Nat → Nat × Hw} {e : AExit} (hk : ∀ T ∈ Ts, T.k = k) (hg : P.globals.size ≤ k) (he : e ≠ .normal ∧ exitOK e) (hcl : ∀ i, i ≤ n → ClW (st i).2)
    (round : ∀ i, i < n → ∀ R : Nat → AExit → Hw → Prop, R (st (i + 1)).1 .normal (st (i + 1)).2 → ∃ T hs, Ts[(st i).1]? = some T ∧ V.code ro (.l p) (leafW Ts R) (T.inst (st i).2) hs)
    (last : ∀ R : Nat → AExit → Hw → Prop, R (st n).1 e (st n).2 → ∃ T hs, Ts[(st n).1]? = some T ∧ V.code ro (.l p) (leafW Ts R) (T.inst (st n).2) hs)
    {T0 T1 : Tw} (h0 : Ts[(st 0).1]? = some T0) (h0k : T0.blocks.length ≤ k) (hs0 : k ≤ 1000000) (h1 : Ts[(st n).1]? = some T1) : LoopOW P ro p T0 (st 0).2 e T1 (st n).2 := by
  refine loop_vcW htt hV (Ts := Ts) (k := k) (X := Nat) (inv := fun i => i ≤ n) (μ := fun i => n - i) (st := st) (out := fun _ => (e, (st n).1, (st n).2)) hk hg (fun i hi => ?_) (Nat.zero_le n) (x := 0) h0 h0k hs0 h1
  by_cases h : i = n
  · subst h
    exact last _ ⟨⟨hcl i (Nat.le_refl i), he.2⟩, .inr ⟨he.1, rfl⟩⟩
  · exact round i (by omega) _ ⟨⟨hcl (i + 1) (by omega), trivial⟩, .inl ⟨rfl, i + 1, by omega, by show n - (i + 1) < n - i; omega, rfl, rfl⟩⟩
def runX (ex : Nat → Option (AExit × Nat × Hw)) (fin : AExit × Nat × Hw) : Nat → Nat → AExit × Nat × Hw
  | 0, _ => fin
  | r + 1, i => match ex i with | some o => o | none => runX ex fin r (i + 1)
theorem loop_untilW (htt : TT.tt = true) (hV : VSound P N V) {p : Loc} {Ts : List Tw} {k n : Nat} {st : Nat → Nat × Hw} {e : AExit} {ex : Nat → Option (AExit × Nat × Hw)} (hk : ∀ T ∈ Ts, T.k = k) (hg : P.globals.size ≤ k) (he : e ≠ .normal ∧ exitOK e) (hcl : ∀ i, i ≤ n → ClW (st i).2)
    (hex : ∀ i o, i < n → ex i = some o → o.1 ≠ .normal ∧ exitOK o.1 ∧ ClW o.2.2)
    (round : ∀ i, i < n → ∀ R : Nat → AExit → Hw → Prop, (ex i = none → R (st (i + 1)).1 .normal (st (i + 1)).2) → (∀ o, ex i = some o → R o.2.1 o.1 o.2.2) → ∃ T hs, Ts[(st i).1]? = some T ∧ V.code ro (.l p) (leafW Ts R) (T.inst (st i).2) hs)
    (last : ∀ R : Nat → AExit → Hw → Prop, R (st n).1 e (st n).2 → ∃ T hs, Ts[(st n).1]? = some T ∧ V.code ro (.l p) (leafW Ts R) (T.inst (st n).2) hs)
    {s : Nat} (hsn : s ≤ n) {T0 T1 : Tw} (h0 : Ts[(st s).1]? = some T0) (h0k : T0.blocks.length ≤ k) (hs0 : k ≤ 1000000) (h1 : Ts[(runX ex (e, (st n).1, (st n).2) (n - s) s).2.1]? = some T1) :
    LoopOW P ro p T0 (st s).2 (runX ex (e, (st n).1, (st n).2) (n - s) s).1 T1 (runX ex (e, (st n).1, (st n).2) (n - s) s).2.2 := by
  refine loop_vcW htt hV (Ts := Ts) (k := k) (X := Nat) (inv := fun i => i ≤ n) (μ := fun i => n - i) (st := st) (out := fun i => runX ex (e, (st n).1, (st n).2) (n - i) i) hk hg (fun i hi => ?_) hsn (x := s) h0 h0k hs0 h1
  have step : i < n → runX ex (e, (st n).1, (st n).2) (n - i) i = match ex i with | some o => o | none => runX ex (e, (st n).1, (st n).2) (n - (i + 1)) (i + 1) := fun h => by
    have e1 : n - i = (n - (i + 1)) + 1 := by omega
    rw [e1]; rfl
  by_cases h : i = n
  · subst h
    refine last _ ⟨⟨hcl i (Nat.le_refl i), he.2⟩, .inr ⟨he.1, ?_⟩⟩
    simp only [Nat.sub_self, runX]
  · refine round i (by omega) _ (fun hx => ⟨⟨hcl (i + 1) (by omega), trivial⟩, .inl ⟨rfl, i + 1, by omega, by show n - (i + 1) < n - i; omega, rfl, ?_⟩⟩) (fun o hx => ⟨⟨(hex i o (by omega) hx).2.2, (hex i o (by omega) hx).2.1⟩, .inr ⟨(hex i o (by omega) hx).1, ?_⟩⟩)
    · have h2 := step (by omega)
      rw [hx] at h2
      exact h2.symm
    · have h2 := step (by omega)
      rw [hx] at h2
      exact h2
theorem runX_none {ex : Nat → Option (AExit × Nat × Hw)} {fin : AExit × Nat × Hw} : ∀ {r i : Nat}, (∀ j, i ≤ j → j < i + r → ex j = none) → runX ex fin r i = fin := by
  have _ := TT.tt
  have _ := PR.prog
  intro r
  induction r with
  | zero => intro i _; rfl
  | succ r ih =>
    intro i h
    simp only [runX, h i (Nat.le_refl i) (by omega)]
    exact ih fun j h1 h2 => h j (by omega) (by omega)
end
end Go.Ab
/- ABSTRACT MEMORY, 55: a contract that writes, from what a call comes to. -/
namespace Go.Ab
open Go Go.RowKit
noncomputable def getW : List TBc → Nat → Tr XB → Option (List WB)
  | [], _, _ => some []
  | .wlist e k :: l, j, t => (t.get j).bind fun b => (cellsX b).bind fun x => cond (Nat.beq e x.2.1 && kEq k x.2.2) ((getW l (Nat.succ j) t).bind fun r => some (.lst x.1 :: r)) none
  | .wmap :: l, j, t => (t.get j).bind fun b => (mapX b).bind fun es => (getW l (Nat.succ j) t).bind fun r => some (.mp es :: r)
  | _ :: l, j, t => getW l (Nat.succ j) t
noncomputable def retW (bs : List TBc) (R : ARes → List WB → Prop) : ARes → Mem → HS → Prop := fun r m _ =>
  match getW bs 0 m.h with
  | some ws => R r ws
  | none => False
noncomputable def rowT3 (N : Nat) (e : TypeId) : Tm := ⟨1, [some (.tuple (.hole (.slice N 0 (.hole .nil))) .nil)], N, List.replicate N .dead ++ [.list e .row]⟩
variable [TT] [PR] {P : Program}
theorem getW_sound (l : List TBc) : ∀ {i : Nat} {t : Tr XB} {ws : List WB}, getW l i t = some ws → ∀ p ∈ putG l i ws, t.get p.1 = some p.2 := by
  have _ := TT.tt
  have _ := PR.prog
  induction l with
  | nil => intro i t ws _ p hp; cases hp
  | cons o l ih =>
    intro i t ws h p hp
    cases o with
    | dead => exact ih h p hp
    | rlist e => exact ih h p hp
    | rcells T e => exact ih h p hp
    | wlist e k =>
      simp only [getW] at h
      obtain ⟨b, eb, h⟩ := bindSome h
      obtain ⟨y, ey, h⟩ := bindSome h
      obtain ⟨hc, h⟩ := condSome h
      obtain ⟨r, er, h⟩ := bindSome h
      cases h
      simp only [Bool.and_eq_true] at hc
      simp only [putG, List.head?_cons, List.tail_cons, List.mem_cons] at hp
      rcases hp with rfl | hp
      · rw [eb, cellsX_eq ey, Nat.eq_of_beq_eq_true hc.1, kEq_eq2 hc.2]; rfl
      · exact ih er p hp
    | wmap =>
      simp only [getW] at h
      obtain ⟨b, eb, h⟩ := bindSome h
      obtain ⟨y, ey, h⟩ := bindSome h
      obtain ⟨r, er, h⟩ := bindSome h
      cases h
      have hb : b = .map y := by unfold mapX at ey; split at ey <;> cases ey; rfl
      simp only [putG, List.head?_cons, List.tail_cons, List.mem_cons] at hp
      rcases hp with rfl | hp
      · rw [eb, hb]; rfl
      · exact ih er p hp
theorem conW_of {N : Nat} {V : Vx} (hV : VSound P N V) {f : FuncId} {C : ConW} (hcall : Callable P f) (h : ∀ x, C.pre x → ∃ hs, V.call f (C.args x) (retW C.bs fun r ws => r = C.res x ∧ ws = C.out x) (C.mem x) hs)
    (hc : ∀ x, C.pre x → clR 50 (C.res x) = true ∧ ∀ b ∈ C.out x, b.ok) (ha : ∀ x, C.pre x → ClW x) (hs : C.bs.length ≤ 1000000) (hg : P.globals.size ≤ C.bs.length) : ConWOK P f C where
  calls := hcall
  says x hp := by
    obtain ⟨hs, hv⟩ := h x hp
    refine (hV.call hv).2.mono ?_
    rintro r H ⟨m, hs', hk, rfl⟩
    unfold retW at hk
    split at hk
    · rename_i ws hw
      obtain ⟨rfl, rfl⟩ := hk
      exact ⟨rfl, fun p hp => Mem.get_H (getW_sound _ hw p hp)⟩
    · exact hk.elim
  closed := hc
  atoms := ha
  small := hs
  glob := hg
theorem conRow3_of {N : Nat} {V : Vx} (htt : TT.tt = true) (hV : VSound P N V) {f : FuncId} {C : ConN} {e : TypeId} {cells : List Value} {n : Nat} {y0 z : Int} (x0 : Hx) (hx0 : ∀ x, C.pre x ↔ x = x0) (hone : C.one = false) (hres : C.res x0 = [.cv (.int .i64 y0), .sl 0 n, .cv (.int .i64 z)]) (hnews : C.news x0 = [(cells, e)])
    (h : ∃ hs, V.call f (C.con.args x0) (retN (rowT3 C.bs.length e) fun y => y = ⟨⟨[.int .i64 y0, .int .i64 z], [(n, n)]⟩, [cells]⟩) (C.con.mem x0) hs) (ha : Atoms x0.ls) (hat : ∀ v ∈ cells, atomic v = true)
    (hr : allRo C.bs = true) (hs : C.bs.length ≤ 100000) (hg : P.globals.size ≤ C.bs.length) : ConNOK P f C where
  calls := by obtain ⟨hs, hv⟩ := h; exact (hV.call hv).1
  says x hp := by
    cases (hx0 x).1 hp
    obtain ⟨hs', hv⟩ := h
    have hlen : (rowT3 C.bs.length e).blocks.length = C.bs.length + 1 := by simp [rowT3]
    have hval : ((rowT3 C.bs.length e).inst ⟨⟨[.int .i64 y0, .int .i64 z], [(n, n)]⟩, [cells]⟩).a.f 0 = some (.tuple ⟨[.int .i64 y0, .slice (some ⟨C.bs.length, 0, none⟩) n n, .int .i64 z]⟩) := rfl
    refine (retN_says htt hV (T := rowT3 C.bs.length e) rfl (by exact hg) (fun j hj => ?_) (fun cs hcs => by simp only [List.mem_singleton] at hcs; subst hcs; exact hat) hv hval).mono ?_
    · have hj' : C.bs.length ≤ j := hj
      have := Con.mem_H (C := C.con) (x := x0) (by show C.bs.length ≤ _; omega) j
      rw [this, List.getElem?_eq_none (by rw [instB_len]; exact hj')]
      rfl
    · rintro r H' ⟨rfl, rfl⟩
      refine ⟨?_, fun t cs e' ht => ?_⟩
      · rw [hone, hres]; rfl
      · rw [hnews] at ht
        match t, ht with
        | 0, ht =>
          simp only [List.getElem?_cons_zero, Option.some.injEq, Prod.mk.injEq] at ht
          obtain ⟨rfl, rfl⟩ := ht
          rw [Nat.add_zero, Tm.inst_H (by rw [hlen]; omega)]
          have key : ∀ (k : Nat) (h : Hx), (instB (List.replicate k .dead ++ [.list e .row]) h).1[k]? = some (.cells (h.ls.headD []) e .row) := by
            intro k
            induction k with
            | zero => intro h; rfl
            | succ k ih => intro h; exact ih h
          show Option.map XB.a ((instB (List.replicate C.bs.length .dead ++ [.list e .row]) _).1[C.bs.length]?) = _
          rw [key]
          rfl
  closed x hp := by cases (hx0 x).1 hp; rw [hres, hnews]; exact ⟨rfl, fun h => (by rw [hone] at h; cases h)⟩
  atoms x hp := by
    cases (hx0 x).1 hp
    refine ⟨ha, fun y hy => ?_⟩
    rw [hnews] at hy
    simp only [List.mem_singleton] at hy
    subst hy
    exact hat
  ro := hr
  small := by omega
  glob := hg
end Go.Ab
/- Matching, as numbers: each job with one that comes next. -/
namespace Go.Ab
structure Ms where
  T : Nat
  M : List (Nat × Nat)
def getN : List (Nat × Nat) → Nat → Option Nat
  | [], _ => none
  | e :: l, h => if h = e.1 then some e.2 else getN l h
def setN : List (Nat × Nat) → Nat → Nat → List (Nat × Nat)
  | [], h, a => [(h, a)]
  | e :: l, h, a => if h = e.1 then (h, a) :: l else e :: setN l h a
theorem getN_set (M : List (Nat × Nat)) (h h' a : Nat) : getN (setN M h a) h' = if h' = h then some a else getN M h' := by
  induction M with
  | nil => simp only [setN, getN]
  | cons e l ih =>
    simp only [setN]
    split
    · rename_i he
      subst he
      simp only [getN]
      split <;> rfl
    · rename_i he
      simp only [getN, ih]
      by_cases h1 : h' = e.1
      · subst h1
        rw [if_pos rfl, if_neg (fun hh => he hh.symm), if_pos rfl]
      · rw [if_neg h1]
        split
        · rfl
        · rfl
theorem mem_setN {M : List (Nat × Nat)} {h a : Nat} {e : Nat × Nat} (he : e ∈ setN M h a) : e = (h, a) ∨ e ∈ M := by
  induction M with
  | nil => simp only [setN, List.mem_singleton] at he; exact .inl he
  | cons x l ih =>
    simp only [setN] at he
    split at he
    · rcases List.mem_cons.1 he with rfl | he
      · exact .inl rfl
      · exact .inr (List.mem_cons_of_mem _ he)
    · rcases List.mem_cons.1 he with rfl | he
      · exact .inr List.mem_cons_self
      · exact (ih he).imp id (List.mem_cons_of_mem _)
theorem getN_mem {M : List (Nat × Nat)} {h a : Nat} (he : getN M h = some a) : (h, a) ∈ M := by
  induction M with
  | nil => cases he
  | cons x l ih =>
    simp only [getN] at he
    split at he
    · rename_i h1
      cases he
      subst h1
      exact List.mem_cons_self
    · exact List.mem_cons_of_mem _ (ih he)
section
variable (can : Nat → Nat → Bool) (q : Nat → Nat) (n : Nat)
def markN (σ : Ms) (s : Nat) : Ms := ⟨σ.T ||| 2 ^ q s, σ.M⟩
def putN (σ : Ms) (s a : Nat) : Ms := ⟨σ.T, setN σ.M s a⟩
def goF (rec : Nat → Ms → Bool × Ms) (a : Nat) : Nat → Nat → Ms → Bool × Ms
  | 0, _, σ => (false, σ)
  | r + 1, s, σ =>
    if σ.T.testBit (q s) || !(can a s) then goF rec a r (s + 1) σ
    else match getN σ.M s with
      | none => (true, putN (markN q σ s) s a)
      | some b => match rec b (markN q σ s) with
        | (true, σ2) => (true, putN σ2 s a)
        | (false, σ2) => goF rec a r (s + 1) σ2
def matchF : Nat → Nat → Ms → Bool × Ms
  | 0 => fun _ σ => (false, σ)
  | k + 1 => fun a σ => goF can q (matchF k) a n 0 σ
def unt (σ : Ms) : Nat := ((List.range n).filter fun s => !σ.T.testBit (q s)).length
structure MsOK (σ : Ms) : Prop where
  T : σ.T < 128
  keys : ∀ e ∈ σ.M, e.1 < n ∧ e.2 < n
variable {can q n}
theorem MsOK.mark (hq : ∀ s, s < n → q s < 7) {σ : Ms} (h : MsOK n σ) {s : Nat} (hs : s < n) : MsOK n (markN q σ s) := by
  refine ⟨?_, h.keys⟩
  have h1 : 2 ^ q s < 2 ^ 7 := Nat.pow_lt_pow_right (by omega) (hq s hs)
  exact Nat.or_lt_two_pow (n := 7) h.T h1
theorem MsOK.put {σ : Ms} (h : MsOK n σ) {s a : Nat} (hs : s < n) (ha : a < n) : MsOK n (putN σ s a) := by
  refine ⟨h.T, fun e he => ?_⟩
  rcases mem_setN he with rfl | he
  · exact ⟨hs, ha⟩
  · exact h.keys e he
theorem MsOK.get {σ : Ms} (h : MsOK n σ) {s b : Nat} (hg : getN σ.M s = some b) : b < n := (h.keys _ (getN_mem hg)).2
structure Steps (can : Nat → Nat → Bool) (q : Nat → Nat) (n : Nat) (rec : Nat → Ms → Bool × Ms) : Prop where
  ok : ∀ a σ, a < n → MsOK n σ → MsOK n (rec a σ).2
  mono : ∀ a σ j, σ.T.testBit j = true → (rec a σ).2.T.testBit j = true
theorem mark_mono (σ : Ms) (s j : Nat) (h : σ.T.testBit j = true) : (markN q σ s).T.testBit j = true := by
  simp only [markN, Nat.testBit_or, h, Bool.true_or]
theorem mark_self (σ : Ms) (s : Nat) : (markN q σ s).T.testBit (q s) = true := by
  simp only [markN, Nat.testBit_or, Nat.testBit_two_pow_self, Bool.or_true]
theorem goF_steps (hq : ∀ s, s < n → q s < 7) {rec : Nat → Ms → Bool × Ms} (h : Steps can q n rec) (a r : Nat) : ∀ s σ, (a < n → s + r ≤ n → MsOK n σ → MsOK n (goF can q rec a r s σ).2) ∧ ∀ j, σ.T.testBit j = true → (goF can q rec a r s σ).2.T.testBit j = true := by
  induction r with
  | zero => intro s σ; exact ⟨fun _ _ h => h, fun _ h => h⟩
  | succ r ih =>
    intro s σ
    simp only [goF]
    split
    · exact ⟨fun ha hs hσ => (ih (s + 1) σ).1 ha (by omega) hσ, (ih (s + 1) σ).2⟩
    · split
      · exact ⟨fun ha hs hσ => (hσ.mark hq (by omega)).put (by omega) ha, fun j hj => mark_mono σ s j hj⟩
      · rename_i b hb
        split
        · rename_i σ2 h2
          refine ⟨fun ha hs hσ => ?_, fun j hj => ?_⟩
          · have := h.ok b (markN q σ s) (hσ.get hb) (hσ.mark hq (by omega))
            rw [h2] at this
            exact this.put (by omega) ha
          · have := h.mono b (markN q σ s) j (mark_mono σ s j hj)
            rw [h2] at this
            exact this
        · rename_i σ2 h2
          refine ⟨fun ha hs hσ => ?_, fun j hj => ?_⟩
          · have := h.ok b (markN q σ s) (hσ.get hb) (hσ.mark hq (by omega))
            rw [h2] at this
            exact (ih (s + 1) σ2).1 ha (by omega) this
          · have := h.mono b (markN q σ s) j (mark_mono σ s j hj)
            rw [h2] at this
            exact (ih (s + 1) σ2).2 j this
theorem matchF_steps (hq : ∀ s, s < n → q s < 7) (k : Nat) : Steps can q n (matchF can q n k) := by
  induction k with
  | zero => exact ⟨fun _ _ _ h => h, fun _ _ _ h => h⟩
  | succ k ih => exact ⟨fun a σ ha hσ => (goF_steps hq ih a n 0 σ).1 ha (by omega) hσ, fun a σ => (goF_steps hq ih a n 0 σ).2⟩
theorem unt_mono {σ σ' : Ms} (h : ∀ j, σ.T.testBit j = true → σ'.T.testBit j = true) : unt q n σ' ≤ unt q n σ := by
  unfold unt
  induction n with
  | zero => simp
  | succ m ih =>
    simp only [List.range_succ, List.filter_append, List.length_append]
    have : ([m].filter fun s => !σ'.T.testBit (q s)).length ≤ ([m].filter fun s => !σ.T.testBit (q s)).length := by
      cases h1 : σ.T.testBit (q m) with
      | true => simp [h1, h _ h1]
      | false => cases h2 : σ'.T.testBit (q m) <;> simp [h1, h2]
    omega
theorem unt_mark {σ : Ms} {s : Nat} (hs : s < n) (h : σ.T.testBit (q s) = false) : unt q n (markN q σ s) < unt q n σ := by
  unfold unt
  induction n with
  | zero => omega
  | succ m ih =>
    simp only [List.range_succ, List.filter_append, List.length_append]
    have h1 : ∀ j, σ.T.testBit j = true → (markN q σ s).T.testBit j = true := fun j hj => mark_mono σ s j hj
    by_cases e : s = m
    · subst e
      have h2 := unt_mono (q := q) (n := s) h1
      unfold unt at h2
      simp only [List.filter_cons, h, mark_self, Bool.not_true, Bool.false_eq_true, if_false, Bool.not_false, if_true, List.filter_nil, List.length_cons, List.length_nil]
      omega
    · have h3 := ih (by omega)
      have : ([m].filter fun t => !(markN q σ s).T.testBit (q t)).length ≤ ([m].filter fun t => !σ.T.testBit (q t)).length := by
        cases h4 : σ.T.testBit (q m) with
        | true => simp [h4, h1 _ h4]
        | false => cases h5 : (markN q σ s).T.testBit (q m) <;> simp [h4, h5]
      omega
theorem goF_skip {rec : Nat → Ms → Bool × Ms} {a r s : Nat} {σ : Ms} (h : (σ.T.testBit (q s) || !(can a s)) = true) : goF can q rec a (r + 1) s σ = goF can q rec a r (s + 1) σ := by
  simp only [goF, h, if_true]
theorem goF_none {rec : Nat → Ms → Bool × Ms} {a r s : Nat} {σ : Ms} (h : (σ.T.testBit (q s) || !(can a s)) = false) (hg : getN σ.M s = none) : goF can q rec a (r + 1) s σ = (true, putN (markN q σ s) s a) := by
  simp only [goF, h, Bool.false_eq_true, if_false, hg]
theorem goF_true {rec : Nat → Ms → Bool × Ms} {a r s b : Nat} {σ σ2 : Ms} (h : (σ.T.testBit (q s) || !(can a s)) = false) (hg : getN σ.M s = some b) (hr : rec b (markN q σ s) = (true, σ2)) : goF can q rec a (r + 1) s σ = (true, putN σ2 s a) := by
  simp only [goF, h, Bool.false_eq_true, if_false, hg, hr]
theorem goF_false {rec : Nat → Ms → Bool × Ms} {a r s b : Nat} {σ σ2 : Ms} (h : (σ.T.testBit (q s) || !(can a s)) = false) (hg : getN σ.M s = some b) (hr : rec b (markN q σ s) = (false, σ2)) : goF can q rec a (r + 1) s σ = goF can q rec a r (s + 1) σ2 := by
  simp only [goF, h, Bool.false_eq_true, if_false, hg, hr]
theorem unt_le (σ : Ms) : unt q n σ ≤ n := by
  unfold unt
  have := List.length_filter_le (fun s => !σ.T.testBit (q s)) (List.range n)
  rwa [List.length_range] at this
variable (can q n) in
def fewS : Nat → Ms × Nat
  | 0 => (⟨0, []⟩, 0)
  | j + 1 => ((matchF can q n 8 j ⟨0, (fewS j).1.M⟩).2, if (matchF can q n 8 j ⟨0, (fewS j).1.M⟩).1 = true then (fewS j).2 else (fewS j).2 + 1)
variable (can q n) in
def fewN : Nat := (fewS can q n n).2
theorem fewS_ok (hq : ∀ s, s < n → q s < 7) (j : Nat) (hj : j ≤ n) : MsOK n (fewS can q n j).1 ∧ (fewS can q n j).2 ≤ j := by
  induction j with
  | zero => exact ⟨⟨by simp [fewS], fun e he => by simp [fewS] at he⟩, Nat.le_refl _⟩
  | succ j ih =>
    obtain ⟨h1, h2⟩ := ih (by omega)
    refine ⟨(matchF_steps hq 8).ok j ⟨0, (fewS can q n j).1.M⟩ (by omega) ⟨Nat.zero_lt_succ _, h1.keys⟩, ?_⟩
    simp only [fewS]
    split <;> omega
end
end Go.Ab
/- package horse: matching: forms. -/
set_option maxRecDepth 100000
namespace Go.Ab
open Go Go.RowKit Go.Proofs
noncomputable def jobU (f : Nat → Mv) (q : Nat → Nat) (k : Nat) : List Value := [I (f k).at_, I (f k).place, I (f k).lo, I (f k).hi, I (q k : Nat)]
noncomputable def jobsU (m : Nat) (f : Nat → Mv) (q : Nat → Nat) : List Value := flatC m (jobU f q)
noncomputable def jU (f : Nat → Mv) (q : Nat → Nat) (k : Nat) : Value := .agg ⟨jobU f q k⟩
def pN (j : Nat) : Value := .pointer (some ⟨j, 0, none⟩)
def T5h (l : TL) : TL := .agg (.hole (.hole (.hole (.hole (.hole .nil))))) l
def T7h (l : TL) : TL := .agg (.hole (.hole (.hole (.hole (.hole (.hole (.hole .nil))))))) l
noncomputable def canV (o : Nat → Int) : Value := .func (.func 77) ⟨[.agg ⟨ints 7 o⟩]⟩ ⟨[]⟩
noncomputable def capV : Value := .func (.func 95) ⟨[]⟩ ⟨[pN 0, pN 1, pN 2, pN 3, pN 4]⟩
noncomputable def m95 (o : Nat → Int) (n c : Nat) (js : List Value) (tr : Int) (es : List (Value × Value)) : Mem :=
  ⟨fillX [.cells [.slice (some ⟨5, 0, none⟩) n c] 93 .ro, .cells [I tr] 83 .var, .cells [canV o] 124 .ro, .cells [.map (some 6)] 144 .ro, .cells [capV] 145 .ro, .cells js 97 .ro, .map es] 0 .nil, 7⟩
def P5n : TL := .ptr 0 0 (.ptr 1 0 (.ptr 2 0 (.ptr 3 0 (.ptr 4 0 .nil))))
def CanT : TL := .func 77 (T7h .nil) .nil .nil
def CapT : TL := .func 95 .nil P5n .nil
def bs95 : List TBc := [.rcells (.slice 5 0 .nil) 93, .wlist 83 .var, .rcells CanT 124, .rcells (.map 6 .nil) 144, .rcells CapT 145, .rlist 97, .wmap]
noncomputable def CW95 (o : Nat → Int) (n c : Nat) (js : List Value) (u1 u2 u3 u4 : Int) (a : Nat) (tr : Int) (es : List (Value × Value)) (b : Bool) (tr2 : Int) (es2 : List (Value × Value)) : ConW where
  A := T5h P5n
  bs := bs95
  pre x := x = ⟨⟨[I u1, I u2, I u3, I u4, I a] ++ ints 7 o, [(n, c)]⟩, [[I tr], js], [es]⟩
  out _ := [.lst [I tr2], .mp es2]
  res _ := .ret (.bool b)
noncomputable def C77 (o : Nat → Int) (u1 u2 u3 u4 : Int) (a : Nat) (v1 v2 v3 v4 : Int) (b : Nat) : Con where
  A := T7h (T5h (T5h .nil))
  bs := []
  pre x := x = ⟨⟨ints 7 o ++ [I u1, I u2, I u3, I u4, I a] ++ [I v1, I v2, I v3, I v4, I b], []⟩, []⟩
  res _ := .ret (.bool (hasI (o a) b))
def p95 : Loc := .l (.r (.l (.r (.top 95))))
noncomputable def T95 : Tw := ⟨52, mkS 52 [(2, .ptr 1 0 .nil), (3, .ptr 2 0 .nil), (4, .ptr 3 0 .nil), (5, .ptr 4 0 .nil), (6, .ptr 7 0 .nil), (12, .slice 5 0 .nil), (13, .hole .nil), (14, .hole .nil)], 8,
  [.cells (.slice 5 0 .nil) 93 .ro, .list 83 .var, .cells CanT 124 .ro, .cells (.map 6 .nil) 144 .ro, .cells CapT 145 .ro, .list 97 .ro, .map, .list 97 .var]⟩
noncomputable def R95 : Tw := ⟨52, mkS 52 [(7, .hole .nil)], 8, [.dead, .list 83 .var, .dead, .dead, .dead, .dead, .map, .dead]⟩
noncomputable def st95 (o : Nat → Int) (n c : Nat) (js : List Value) (u : List Value) (tr : Int) (es : List (Value × Value)) (i : Nat) : Hw := ⟨⟨[I n, I i] ++ ints 7 o, [(n, c), (n, c)]⟩, [[I tr], js, u], [es]⟩
noncomputable def m83 (js : List Value) : Mem := ⟨fillX [.cells js 97 .ro] 0 .nil, 1⟩
def p83 : Loc := .l (.r (.l (.r (.r (.r (.r (.r (.r (.top 83)))))))))
noncomputable def T83 : Tw := ⟨27, mkS 27 [(6, .ptr 5 0 .nil), (7, .ptr 6 0 .nil), (8, .hole .nil), (13, .slice 0 0 .nil), (14, .hole .nil), (15, .hole .nil)], 7,
  [.list 97 .ro, .cells (.slice 0 0 .nil) 93 .var, .cells CanT 124 .var, .map, .cells (.map 3 .nil) 144 .var, .list 83 .var, .cells (.func 95 .nil (.ptr 1 0 (.ptr 5 0 (.ptr 2 0 (.ptr 4 0 (.ptr 6 0 .nil))))) .nil) 145 .var]⟩
noncomputable def st83 (o : Nat → Int) (n c : Nat) (js : List Value) (many : Int) (tr : Int) (es : List (Value × Value)) (j : Nat) : Hw := ⟨⟨[I many, I n, I j] ++ ints 7 o, [(n, c), (n, c)]⟩, [js, [I tr]], [es]⟩
noncomputable def T83z : Tw := ⟨27, mkS 27 [(8, .hole .nil), (14, .hole .nil), (15, .hole .nil)], 6, [.dead, .dead, .dead, .dead, .dead, .dead]⟩
noncomputable def C72 (o : Nat → Int) (a b : Nat) : Con where
  A := T7h (.hole (.hole .nil))
  bs := []
  pre x := x = ⟨⟨ints 7 o ++ [I a, I b], []⟩, []⟩
  res _ := .ret (.bool (linkB o a b))
def p97 : Loc := .l (.r (.l (.r (.top 97))))
noncomputable def T97 : Tw := ⟨28, mkS 28 [(2, .hole .nil), (3, .hole .nil), (5, .ptr 2 0 .nil), (13, .hole .nil), (14, .hole .nil)], 3, [.dead, .dead, .cells (.hole (.hole (.hole (.hole (.hole (.hole (.hole .nil))))))) 85 .var]⟩
noncomputable def R97 : Tw := ⟨28, mkS 28 [(8, .hole .nil)], 3, [.dead, .dead, .dead]⟩
noncomputable def st97 (o : Nat → Int) (n : Nat) (D : Int) (m i : Nat) : Hw := ⟨⟨[I D, I m, I n, I i] ++ ints 7 o, []⟩, [], []⟩
def fitsF (o : Nat → Int) (n : Nat) (D : Int) (m : Nat) : Bool := allFrom (fun k => !(hasI D k && !linkB o k m)) n 0
noncomputable def C97 (p : Int) (n c : Nat) (o : Nat → Int) (D : Int) (m : Nat) : Con where
  A := .agg (.hole (.slice 0 0 .nil)) (T7h (.hole (.hole .nil)))
  bs := [.dead]
  pre x := x = ⟨⟨I p :: ints 7 o ++ [I D, I m], [(n, c)]⟩, []⟩
  res _ := .ret (.bool (fitsF o n D m))
def P6n : TL := .ptr 0 0 (.ptr 1 0 (.ptr 2 0 (.ptr 3 0 (.ptr 4 0 (.ptr 5 0 .nil)))))
noncomputable def cap96 : Value := .func (.func 96) ⟨[]⟩ ⟨[pN 0, pN 1, pN 2, pN 3, pN 4, pN 5]⟩
noncomputable def m96 (p : Int) (n c many : Nat) (o : Nat → Int) (Dl Pl : List Value) : Mem :=
  ⟨fillX [.cells [I p, .slice (some ⟨6, 0, none⟩) n c] 73 .ro, .cells [I many] 3 .ro, .cells Dl 84 .var, .cells (ints 7 o) 85 .ro, .cells Pl 147 .var, .cells [cap96] 61 .ro, .dead] 0 .nil, 7⟩
def bs96 : List TBc := [.rcells (.hole (.slice 6 0 .nil)) 73, .rcells (.hole .nil) 3, .wlist 84 .var, .rcells (.hole (.hole (.hole (.hole (.hole (.hole (.hole .nil))))))) 85, .wlist 147 .var, .rcells (.func 96 .nil P6n .nil) 61, .dead]
noncomputable def CW96 (p : Int) (n c many : Nat) (o : Nat → Int) (m : Int) (Dl Pl : List Value) (b : Bool) (Dl2 Pl2 : List Value) : ConW where
  A := .hole P6n
  bs := bs96
  pre x := x = ⟨⟨[I m, I p, I many] ++ ints 7 o, [(n, c)]⟩, [Dl, Pl], []⟩
  out _ := [.lst Dl2, .lst Pl2]
  res _ := .ret (.bool b)
def p96 : Loc := .l (.r (.l (.r (.r (.top 96)))))
noncomputable def T96 : Tw := ⟨48, mkS 48 [(0, .hole .nil), (1, .ptr 0 0 .nil), (3, .ptr 2 0 .nil), (4, .ptr 3 0 .nil), (5, .ptr 4 0 .nil), (6, .ptr 5 0 .nil), (17, .hole .nil), (18, .hole .nil)], 7,
  [.cells (.hole (.slice 6 0 .nil)) 73 .ro, .cells (.hole .nil) 3 .ro, .list 84 .var, .cells (.hole (.hole (.hole (.hole (.hole (.hole (.hole .nil))))))) 85 .ro, .list 147 .var, .cells (.func 96 .nil P6n .nil) 61 .ro, .dead]⟩
noncomputable def R96 : Tw := ⟨48, mkS 48 [(8, .hole .nil)], 7, [.dead, .dead, .list 84 .var, .dead, .list 147 .var, .dead, .dead]⟩
noncomputable def st96 (p : Int) (n c many : Nat) (o : Nat → Int) (m : Nat) (Dl Pl : List Value) (h : Nat) : Hw := ⟨⟨[I m, I many, I h, I p, I many] ++ ints 7 o, [(n, c)]⟩, [Dl, Pl], []⟩
def p88 : Loc := .l (.r (.l (.r (.top 88))))
noncomputable def T88 : Tw := ⟨22, mkS 22 [(1, .hole .nil), (7, T7h .nil), (8, .hole .nil)], 1, [.dead]⟩
noncomputable def R88 : Tw := ⟨22, mkS 22 [(4, .hole .nil)], 1, [.dead]⟩
noncomputable def st88 (o : Nat → Int) (s : Int) (i : Nat) : Hw := ⟨⟨[I s] ++ ints 7 o ++ [I i], []⟩, [], []⟩
def apartI (o : Nat → Int) (s : Int) (i : Nat) : Bool := !(hasI s i && bits .and .i64 s (o i) != 0)
noncomputable def C88 (o : Nat → Int) (s : Int) : Con where
  A := T7h (.hole .nil)
  bs := []
  pre x := x = ⟨⟨ints 7 o ++ [I s], []⟩, []⟩
  res _ := .ret (.bool (allFrom (apartI o s) 7 0))
def popN (x : Nat) : Nat := ((List.range 7).filter fun i => x.testBit i).length
noncomputable def C82 (x : Nat) : Con where
  A := .hole .nil
  bs := []
  pre y := y = ⟨⟨[I x], []⟩, []⟩
  res _ := .ret (I (popN x : Nat))
noncomputable def C89 (a b : Nat) : Con where
  A := .hole (.hole .nil)
  bs := []
  pre y := y = ⟨⟨[I a, I b], []⟩, []⟩
  res _ := .ret (.bool (decide ((popN a : Int) > (popN b : Int))))
def p87 : Loc := .l (.r (.l (.r (.r (.r (.top 87))))))
def p93 : Loc := .l (.r (.top 93))
noncomputable def T93 : Tw := ⟨15, mkS 15 [(0, .yield 5 .nil), (6, .hole .nil), (7, .hole .nil)], 6,
  [.dead, .cells (.func 88 (T7h .nil) .nil (.func 89 .nil .nil .nil)) 135 .var, .list 83 .var, .list 4 .var, .defs, .loop 27 (mkS 27 [(2, .ptr 1 0 .nil), (5, .ptr 2 0 .nil), (6, .ptr 3 0 .nil)]) #[9] p87]⟩
noncomputable def st93 (o : Nat → Int) (N i found : Nat) (bg : Bool) : Hw := ⟨⟨[I N, I i] ++ ints 7 o, []⟩, [[I found], [.bool bg]], []⟩
noncomputable def fitV (o : Nat → Int) : Value := .agg ⟨[.func (.func 88) ⟨[.agg ⟨ints 7 o⟩]⟩ ⟨[]⟩, .func (.func 89) ⟨[]⟩ ⟨[]⟩]⟩
noncomputable def C87 (n : Nat) (o : Nat → Int) (found : Nat) : Con where
  A := .agg (.func 88 (T7h .nil) .nil (.func 89 .nil .nil .nil)) (.func 93 .nil (.ptr 0 0 .nil) .nil)
  bs := [.cells (.hole .nil) 3 .ro]
  pre x := x = ⟨⟨ints 7 o ++ [I n], []⟩, []⟩
  res _ := .ret (I found)
noncomputable def C25 (sure : Bool) (p : Int) (n c : Nat) (f : Nat → Mv) (found : Nat) : Con where
  A := .agg (.hole (.slice 0 0 .nil)) (.hole .nil)
  bs := [.list 1 .ro]
  pre x := x = ⟨⟨[I p, .bool sure], [(n, c)]⟩, [mvs n f]⟩
  res _ := .ret (.tuple ⟨[I found, I 0]⟩)
noncomputable def C24 (sure : Bool) (p : Int) (n c : Nat) (f : Nat → Mv) (many : Nat) (P : Nat → Nat) : ConN where
  A := .agg (.hole (.slice 0 0 .nil)) (.hole .nil)
  bs := [.list 1 .ro]
  pre x := x = ⟨⟨[I p, .bool sure], [(n, c)]⟩, [mvs n f]⟩
  news _ := [(ints n fun i => (P i : Int), 3)]
  one := false
  res _ := [.cv (I many), .sl 0 n, .cv (I 0)]
noncomputable def C83c (o : Nat → Int) (n c : Nat) (js : List Value) (many : Nat) : Con where
  A := .slice 0 0 CanT
  bs := [.list 97 .ro]
  pre x := x = ⟨⟨ints 7 o, [(n, c)]⟩, [js]⟩
  res _ := .ret (I many)
noncomputable def C86c (p : Int) (n c : Nat) (ms : List Value) (o : Nat → Int) (many : Nat) (pl : List Value) : ConN where
  A := .agg (.hole (.slice 0 0 .nil)) (T7h (.hole .nil))
  bs := [.list 1 .ro]
  pre x := x = ⟨⟨I p :: ints 7 o ++ [I many], [(n, c)]⟩, [ms]⟩
  news _ := [(pl, 3)]
  one := true
  res _ := [.sl 0 n]
end Go.Ab
/- the law HorseProof: forms. -/
set_option maxRecDepth 100000
namespace Go.Ab
open Go Go.RowKit Go.Proofs
noncomputable def C29 (x : Nat) : Con where
  A := .hole .nil
  bs := []
  pre y := y = ⟨⟨[I x], []⟩, []⟩
  res _ := .ret (I (popN x : Nat))
def p29 : Loc := .l (.l (.r (.r (.top 29))))
noncomputable def T29 : Tw := ⟨13, mkS 13 [(0, .hole .nil), (3, .hole .nil)], 0, []⟩
noncomputable def C24c (sure : Bool) (p : Int) (n c : Nat) (ms : List Value) (many : Nat) (pl : List Value) : ConN where
  A := .agg (.hole (.slice 0 0 .nil)) (.hole .nil)
  bs := [.list 1 .ro]
  pre x := x = ⟨⟨[I p, .bool sure], [(n, c)]⟩, [ms]⟩
  news _ := [(pl, 3)]
  one := false
  res _ := [.cv (I many), .sl 0 n, .cv (I 0)]
end Go.Ab
/- The first plan, as numbers: move after move, horse after horse. -/
namespace Go.Ab
structure Gs where
  D : Nat → Nat
  P : Nat → Nat
def updN (g : Nat → Nat) (i v : Nat) : Nat → Nat := fun k => if k = i then v else g k
section
variable (fits : Nat → Nat → Bool) (n many : Nat)
def giveH (rec : Gs → Bool × Gs) (m : Nat) : Nat → Nat → Gs → Bool × Gs
  | 0, _, σ => (false, σ)
  | r + 1, h, σ =>
    if fits (σ.D h) m then
      if (rec ⟨updN σ.D h (σ.D h ||| 2 ^ m), updN σ.P m h⟩).1 then (true, (rec ⟨updN σ.D h (σ.D h ||| 2 ^ m), updN σ.P m h⟩).2)
      else giveH rec m r (h + 1) ⟨updN (rec ⟨updN σ.D h (σ.D h ||| 2 ^ m), updN σ.P m h⟩).2.D h (σ.D h), (rec ⟨updN σ.D h (σ.D h ||| 2 ^ m), updN σ.P m h⟩).2.P⟩
    else giveH rec m r (h + 1) σ
def giveF : Nat → Nat → Gs → Bool × Gs
  | 0, _, σ => (true, σ)
  | k + 1, m, σ => if m = n then (true, σ) else giveH fits (giveF k (m + 1)) m many 0 σ
def GsOK (σ : Gs) : Prop := ∀ h, σ.D h < 128
variable {fits n many}
theorem GsOK.upd {σ : Gs} (h : GsOK σ) {i v : Nat} (hv : v < 128) (P : Nat → Nat) : GsOK ⟨updN σ.D i v, P⟩ := by
  intro k
  show updN σ.D i v k < 128
  unfold updN
  split
  · exact hv
  · exact h k
theorem GsOK.add {σ : Gs} (h : GsOK σ) {i m : Nat} (hm : m < 7) (P : Nat → Nat) : GsOK ⟨updN σ.D i (σ.D i ||| 2 ^ m), P⟩ :=
  h.upd (Nat.or_lt_two_pow (n := 7) (h i) (Nat.pow_lt_pow_right (by omega) hm)) P
theorem giveH_ok {rec : Gs → Bool × Gs} {m : Nat} (hm : m < 7) (hr : ∀ σ, GsOK σ → GsOK (rec σ).2) (r : Nat) : ∀ h σ, GsOK σ → GsOK (giveH fits rec m r h σ).2 := by
  induction r with
  | zero => intro h σ hσ; exact hσ
  | succ r ih =>
    intro h σ hσ
    simp only [giveH]
    split
    · split
      · exact hr _ (hσ.add hm _)
      · exact ih _ _ ((hr _ (hσ.add hm (updN σ.P m h))).upd (hσ h) _)
    · exact ih _ _ hσ
theorem giveF_ok (hn : n ≤ 7) (k : Nat) : ∀ m σ, m ≤ n → GsOK σ → GsOK (giveF fits n many k m σ).2 := by
  induction k with
  | zero => intro m σ _ h; exact h
  | succ k ih =>
    intro m σ hm hσ
    simp only [giveF]
    split
    · exact hσ
    · exact giveH_ok (by omega) (fun σ h => ih (m + 1) σ (by omega) h) many 0 σ hσ
theorem giveH_skip {rec : Gs → Bool × Gs} {m r h : Nat} {σ : Gs} (hf : fits (σ.D h) m = false) : giveH fits rec m (r + 1) h σ = giveH fits rec m r (h + 1) σ := by
  simp only [giveH, hf, Bool.false_eq_true, if_false]
theorem giveH_true {rec : Gs → Bool × Gs} {m r h : Nat} {σ σ' : Gs} (hf : fits (σ.D h) m = true) (hr : rec ⟨updN σ.D h (σ.D h ||| 2 ^ m), updN σ.P m h⟩ = (true, σ')) : giveH fits rec m (r + 1) h σ = (true, σ') := by
  simp only [giveH, hf, if_true, hr]
theorem giveH_false {rec : Gs → Bool × Gs} {m r h : Nat} {σ σ' : Gs} (hf : fits (σ.D h) m = true) (hr : rec ⟨updN σ.D h (σ.D h ||| 2 ^ m), updN σ.P m h⟩ = (false, σ')) : giveH fits rec m (r + 1) h σ = giveH fits rec m r (h + 1) ⟨updN σ'.D h (σ.D h), σ'.P⟩ := by
  simp only [giveH, hf, if_true, hr, Bool.false_eq_true, if_false]
end
end Go.Ab
/- Matching: what the search comes to. -/
namespace Go.Ab
def cnt (P : Nat → Bool) : Nat → Nat
  | 0 => 0
  | n + 1 => cnt P n + if P n = true then 1 else 0
theorem cnt_congr {P Q : Nat → Bool} {n : Nat} (h : ∀ i, i < n → P i = Q i) : cnt P n = cnt Q n := by
  induction n with
  | zero => rfl
  | succ n ih => simp only [cnt, ih (fun i hi => h i (by omega)), h n (by omega)]
theorem cnt_le (P : Nat → Bool) (n : Nat) : cnt P n ≤ n := by
  induction n with
  | zero => exact Nat.le_refl _
  | succ n ih => simp only [cnt]; split <;> omega
theorem cnt_upd {P Q : Nat → Bool} {n s : Nat} (hs : s < n) (h : ∀ i, i ≠ s → Q i = P i) : cnt Q n + (if P s = true then 1 else 0) = cnt P n + if Q s = true then 1 else 0 := by
  induction n with
  | zero => omega
  | succ n ih =>
    simp only [cnt]
    by_cases e : s = n
    · subst e
      rw [cnt_congr (P := Q) (Q := P) (fun i hi => h i (by omega))]
      omega
    · have := ih (by omega)
      rw [h n (fun e' => e e'.symm)]
      omega
theorem cnt_mono {P Q : Nat → Bool} {n : Nat} (h : ∀ i, i < n → P i = true → Q i = true) : cnt P n ≤ cnt Q n := by
  induction n with
  | zero => exact Nat.le_refl _
  | succ n ih =>
    have := ih (fun i hi => h i (by omega))
    simp only [cnt]
    cases hp : P n with
    | false => simp; omega
    | true => rw [h n (by omega) hp]; simp; omega
theorem cnt_not (P : Nat → Bool) (n : Nat) : cnt P n + cnt (fun i => !P i) n = n := by
  induction n with
  | zero => rfl
  | succ n ih =>
    simp only [cnt]
    by_cases hp : P n = true
    · simp only [hp, if_true, Bool.not_true, Bool.false_eq_true, if_false]; omega
    · have h2 : P n = false := by simpa using hp
      simp only [h2, Bool.false_eq_true, if_false, Bool.not_false, if_true]; omega
theorem cnt_pos {P : Nat → Bool} {n i : Nat} (hi : i < n) (h : P i = true) : 0 < cnt P n := by
  induction n with
  | zero => omega
  | succ n ih =>
    simp only [cnt]
    by_cases e : i = n
    · subst e; rw [if_pos h]; omega
    · have := ih (by omega); omega
theorem cnt_ex {P : Nat → Bool} {n : Nat} (h : 0 < cnt P n) : ∃ i, i < n ∧ P i = true := by
  induction n with
  | zero => cases h
  | succ n ih =>
    simp only [cnt] at h
    by_cases hp : P n = true
    · exact ⟨n, by omega, hp⟩
    · rw [if_neg hp] at h
      obtain ⟨i, h1, h2⟩ := ih h
      exact ⟨i, by omega, h2⟩
theorem cnt_one {P : Nat → Bool} {n i j : Nat} (h : cnt P n ≤ 1) (hi : i < n) (hj : j < n) (pi : P i = true) (pj : P j = true) : i = j := by
  induction n with
  | zero => omega
  | succ n ih =>
    simp only [cnt] at h
    by_cases ei : i = n <;> by_cases ej : j = n
    · omega
    · subst ei
      rw [if_pos pi] at h
      have := cnt_pos (P := P) (n := i) (i := j) (by omega) pj
      omega
    · subst ej
      rw [if_pos pj] at h
      have := cnt_pos (P := P) (n := j) (i := i) (by omega) pi
      omega
    · exact ih (by omega) (by omega) (by omega)
theorem cnt_inj {m : Nat} (g : Nat → Nat) (n : Nat) : ∀ {P Q : Nat → Bool}, (∀ i, i < n → P i = true → g i < m ∧ Q (g i) = true) → (∀ i j, i < n → j < n → P i = true → P j = true → g i = g j → i = j) → cnt P n ≤ cnt Q m := by
  induction n with
  | zero => intro P Q _ _; exact Nat.zero_le _
  | succ n ih =>
    intro P Q h hi
    simp only [cnt]
    cases hp : P n with
    | false =>
      have := ih (P := P) (Q := Q) (fun i hi => h i (by omega)) (fun i j a b => hi i j (by omega) (by omega))
      simpa using this
    | true =>
      obtain ⟨g1, g2⟩ := h n (by omega) hp
      have := ih (P := P) (Q := fun j => if j = g n then false else Q j) (fun i hi' hpi => by
        obtain ⟨g3, g4⟩ := h i (by omega) hpi
        refine ⟨g3, ?_⟩
        show (if g i = g n then false else Q (g i)) = true
        rw [if_neg (fun e => by have := hi i n (by omega) (by omega) hpi hp e; omega)]
        exact g4) (fun i j a b => hi i j (by omega) (by omega))
      have h2 := cnt_upd (P := Q) (Q := fun j => if j = g n then false else Q j) g1 (fun i hne => by simp [hne])
      simp only [if_true, g2, Bool.false_eq_true, if_false] at h2 ⊢
      omega
section
variable (can : Nat → Nat → Bool) (q : Nat → Nat) (n : Nat)
def trN (σ : Ms) (s : Nat) : Prop := σ.T.testBit (q s) = true
def Val (M : List (Nat × Nat)) : Prop := ∀ s o, getN M s = some o → s < n ∧ o < n ∧ can o s = true
def cntL (M : List (Nat × Nat)) (l : Nat) : Nat := cnt (fun s => getN M s == some l) n
def Closed (M : List (Nat × Nat)) (S : Nat → Prop) : Prop := ∀ s, s < n → S s → ∃ o, getN M s = some o ∧ ∀ t, t < n → can o t = true → S t
structure RecOK (rec : Nat → Ms → Bool × Ms) (k : Nat) : Prop where
  f0 : ∀ a σ s, trN q σ s → trN q (rec a σ).2 s
  f1 : ∀ a σ s, s < n → trN q σ s → getN (rec a σ).2.M s = getN σ.M s
  f2 : ∀ a σ, (rec a σ).1 = false → (rec a σ).2.M = σ.M
  f3 : ∀ a σ, a < n → Val can n σ.M → Val can n (rec a σ).2.M
  f4 : ∀ a σ l, (rec a σ).1 = true → cntL n (rec a σ).2.M l = cntL n σ.M l + if l = a then 1 else 0
  f5 : ∀ a σ, unt q n σ < k → (rec a σ).1 = false → (∀ s, s < n → can a s = true → trN q (rec a σ).2 s) ∧ ∀ s, s < n → trN q (rec a σ).2 s → ¬ trN q σ s → ∃ b, getN σ.M s = some b ∧ ∀ t, t < n → can b t = true → trN q (rec a σ).2 t
  f6 : ∀ a σ S, Closed can n σ.M S → (∀ s, s < n → S s → getN (rec a σ).2.M s = getN σ.M s) ∧ ((∀ s, s < n → can a s = true → S s) → (rec a σ).1 = false)
variable {can q n}
theorem tr_mark (hq : ∀ i j, i < n → j < n → q i = q j → i = j) {σ : Ms} {s t : Nat} (hs : s < n) (ht : t < n) : trN q (markN q σ s) t ↔ trN q σ t ∨ t = s := by
  unfold trN markN
  rw [Nat.testBit_or, Bool.or_eq_true]
  refine or_congr Iff.rfl ⟨fun h => ?_, fun h => by subst h; exact Nat.testBit_two_pow_self⟩
  by_cases e : q s = q t
  · exact (hq s t hs ht e).symm
  · rw [Nat.testBit_two_pow_of_ne e] at h; cases h
theorem cntL_put {M : List (Nat × Nat)} {s a l : Nat} (hs : s < n) : cntL n (setN M s a) l + (if getN M s = some l then 1 else 0) = cntL n M l + if l = a then 1 else 0 := by
  have := cnt_upd (P := fun t => getN M t == some l) (Q := fun t => getN (setN M s a) t == some l) hs (fun i hi => by simp only [getN_set, if_neg hi])
  simp only [getN_set, if_true] at this
  have e1 : ((getN M s == some l) = true) = (getN M s = some l) := propext ⟨eq_of_beq, fun h => by rw [h]; exact beq_self_eq_true _⟩
  have e2 : ((some a == some l) = true) = (l = a) := propext ⟨fun h => by have := eq_of_beq h; cases this; rfl, fun h => by rw [h]; exact beq_self_eq_true _⟩
  simp only [e1, e2] at this
  unfold cntL
  simp only [getN_set]
  exact this
theorem goF_ok (hq : ∀ i j, i < n → j < n → q i = q j → i = j) {rec : Nat → Ms → Bool × Ms} {k : Nat} (h : RecOK can q n rec k) (a r : Nat) : ∀ s σ, s + r = n →
    (∀ t, trN q σ t → trN q (goF can q rec a r s σ).2 t) ∧
    (∀ t, t < n → trN q σ t → getN (goF can q rec a r s σ).2.M t = getN σ.M t) ∧
    ((goF can q rec a r s σ).1 = false → (goF can q rec a r s σ).2.M = σ.M) ∧
    (a < n → Val can n σ.M → Val can n (goF can q rec a r s σ).2.M) ∧
    (∀ l, (goF can q rec a r s σ).1 = true → cntL n (goF can q rec a r s σ).2.M l = cntL n σ.M l + if l = a then 1 else 0) ∧
    (unt q n σ < k + 1 → (goF can q rec a r s σ).1 = false → (∀ t, s ≤ t → t < n → can a t = true → trN q (goF can q rec a r s σ).2 t) ∧ ∀ t, t < n → trN q (goF can q rec a r s σ).2 t → ¬ trN q σ t → ∃ b, getN σ.M t = some b ∧ ∀ u, u < n → can b u = true → trN q (goF can q rec a r s σ).2 u) ∧
    (∀ S, Closed can n σ.M S → (∀ t, t < n → S t → getN (goF can q rec a r s σ).2.M t = getN σ.M t) ∧ ((∀ t, t < n → can a t = true → S t) → (goF can q rec a r s σ).1 = false)) := by
  induction r with
  | zero =>
    intro s σ hs
    refine ⟨fun t h => h, fun t _ _ => rfl, fun _ => rfl, fun _ h => h, fun l h => (by cases h), fun _ _ => ⟨fun t h1 h2 => by omega, fun t _ h1 h2 => absurd h1 h2⟩, fun S _ => ⟨fun t _ _ => rfl, fun _ => rfl⟩⟩
  | succ r ih =>
    intro s σ hs
    have hsn : s < n := by omega
    by_cases hskip : (σ.T.testBit (q s) || !(can a s)) = true
    · rw [goF_skip hskip]
      obtain ⟨i0, i1, i2, i3, i4, i5, i6⟩ := ih (s + 1) σ (by omega)
      refine ⟨i0, i1, i2, i3, i4, fun hu hf => ?_, i6⟩
      obtain ⟨j1, j2⟩ := i5 hu hf
      refine ⟨fun t ht1 ht2 hc => ?_, j2⟩
      by_cases e : t = s
      · subst e
        simp only [hc, Bool.not_true, Bool.or_false] at hskip
        exact i0 t hskip
      · exact j1 t (by omega) ht2 hc
    · have hgo : (σ.T.testBit (q s) || !(can a s)) = false := by simpa using hskip
      have hnt : ¬ trN q σ s := by
        intro h
        unfold trN at h
        rw [h] at hgo
        cases hgo
      have hcan : can a s = true := by
        cases hc : can a s with
        | true => rfl
        | false => rw [hc] at hgo; simp at hgo
      have hmk : ∀ t, t < n → (trN q (markN q σ s) t ↔ trN q σ t ∨ t = s) := fun t ht => tr_mark hq hsn ht
      cases hg : getN σ.M s with
      | none =>
        rw [goF_none hgo hg]
        refine ⟨fun t h => mark_mono σ s _ h, fun t ht h => ?_, fun h => (by cases h), fun ha hv u o hu => ?_, fun l _ => ?_, fun _ h => (by cases h), fun S hS => ⟨fun t ht hSt => ?_, fun hN => ?_⟩⟩
        · show getN (setN σ.M s a) t = _
          rw [getN_set, if_neg (fun e => by subst e; exact hnt h)]
        · have hu : getN (setN σ.M s a) u = some o := hu
          rw [getN_set] at hu
          split at hu
          · rename_i e
            cases hu
            subst e
            exact ⟨hsn, ha, hcan⟩
          · exact hv u o hu
        · have := cntL_put (M := σ.M) (a := a) (l := l) hsn
          rw [hg] at this
          show cntL n (setN σ.M s a) l = _
          simpa using this
        · show getN (setN σ.M s a) t = _
          rw [getN_set, if_neg (fun e => by subst e; obtain ⟨o, ho, _⟩ := hS t ht hSt; rw [hg] at ho; cases ho)]
        · obtain ⟨o, ho, _⟩ := hS s hsn (hN s hsn hcan)
          rw [hg] at ho; cases ho
      | some b =>
        have f0 := fun t => h.f0 b (markN q σ s) t
        have f1 := fun t => h.f1 b (markN q σ s) t
        have f2 := h.f2 b (markN q σ s)
        have f3 := h.f3 b (markN q σ s)
        have f4 := fun l => h.f4 b (markN q σ s) l
        have f5 := h.f5 b (markN q σ s)
        have f6 := fun S => h.f6 b (markN q σ s) S
        have hlt : unt q n σ < k + 1 → unt q n (markN q σ s) < k := fun hu => by
          have := unt_mark (q := q) (n := n) hsn (σ := σ) (by unfold trN at hnt; simpa using hnt)
          omega
        cases hr : rec b (markN q σ s) with
        | mk rb σ2 =>
        rw [hr] at f0 f1 f2 f3 f4 f5 f6
        cases rb with
        | true =>
          rw [goF_true hgo hg hr]
          have hs2 : getN σ2.M s = some b := by rw [f1 s hsn ((hmk s hsn).2 (.inr rfl))]; exact hg
          refine ⟨fun t h => f0 t (mark_mono σ s _ h), fun t ht h => ?_, fun h => (by cases h), fun ha hv u o hu => ?_, fun l _ => ?_, fun _ h => (by cases h), fun S hS => ⟨fun t ht hSt => ?_, fun hN => ?_⟩⟩
          · show getN (setN σ2.M s a) t = _
            rw [getN_set, if_neg (fun e => by subst e; exact hnt h)]
            exact f1 t ht (mark_mono σ s _ h)
          · have hu : getN (setN σ2.M s a) u = some o := hu
            rw [getN_set] at hu
            split at hu
            · rename_i e
              cases hu
              subst e
              exact ⟨hsn, ha, hcan⟩
            · exact f3 (hv s b hg).2.1 hv u o hu
          · have h1 := cntL_put (M := σ2.M) (a := a) (l := l) hsn
            have h2 := f4 l rfl
            rw [hs2] at h1
            have e3 : (if some b = some l then 1 else 0) = if l = b then 1 else (0 : Nat) := by
              by_cases e : l = b
              · subst e; simp
              · rw [if_neg e, if_neg (fun h => by cases h; exact e rfl)]
            rw [e3] at h1
            simp only [markN] at h2
            show cntL n (setN σ2.M s a) l = _
            omega
          · have hns : ¬ S s := fun hSs => by
              obtain ⟨o, ho, hN⟩ := hS s hsn hSs
              rw [hg] at ho
              cases ho
              have := (f6 S hS).2 hN
              cases this
            show getN (setN σ2.M s a) t = _
            rw [getN_set, if_neg (fun e => by subst e; exact hns hSt)]
            exact (f6 S hS).1 t ht hSt
          · obtain ⟨o, ho, hN2⟩ := hS s hsn (hN s hsn hcan)
            rw [hg] at ho
            cases ho
            have := (f6 S hS).2 hN2
            cases this
        | false =>
          rw [goF_false hgo hg hr]
          have hM : σ2.M = σ.M := f2 rfl
          obtain ⟨i0, i1, i2, i3, i4, i5, i6⟩ := ih (s + 1) σ2 (by omega)
          rw [hM] at i1 i2 i3 i4 i5 i6
          refine ⟨fun t h => i0 t (f0 t (mark_mono σ s _ h)), fun t ht h => i1 t ht (f0 t (mark_mono σ s _ h)), i2, i3, i4, fun hu hf => ?_, i6⟩
          obtain ⟨g1, g2⟩ := f5 (hlt hu) rfl
          have hu2 : unt q n σ2 < k + 1 := by
            have h1 := unt_mono (q := q) (n := n) (σ := markN q σ s) (σ' := markN q σ s) (fun j h => h)
            have h2 : unt q n σ2 ≤ unt q n (markN q σ s) := by
              unfold unt
              have key : ∀ m, m ≤ n → ((List.range m).filter fun s => !σ2.T.testBit (q s)).length ≤ ((List.range m).filter fun t => !(markN q σ s).T.testBit (q t)).length := by
                intro m
                induction m with
                | zero => intro _; simp
                | succ m ihm =>
                  intro hm
                  have := ihm (by omega)
                  simp only [List.range_succ, List.filter_append, List.length_append]
                  have : ([m].filter fun s => !σ2.T.testBit (q s)).length ≤ ([m].filter fun t => !(markN q σ s).T.testBit (q t)).length := by
                    cases h4 : (markN q σ s).T.testBit (q m) with
                    | true => have := f0 m h4; unfold trN at this; simp [h4, this]
                    | false => cases h5 : σ2.T.testBit (q m) <;> simp [h4, h5]
                  omega
              exact key n (Nat.le_refl n)
            have := hlt hu
            omega
          obtain ⟨j1, j2⟩ := i5 hu2 hf
          refine ⟨fun t ht1 ht2 hc => ?_, fun t ht ht1 ht2 => ?_⟩
          · by_cases e : t = s
            · subst e
              exact i0 t (f0 t ((hmk t ht2).2 (.inr rfl)))
            · exact j1 t (by omega) ht2 hc
          · by_cases e2 : trN q σ2 t
            · by_cases e3 : t = s
              · subst e3
                exact ⟨b, hg, fun u hu' hc => i0 u (g1 u hu' hc)⟩
              · obtain ⟨b', h1, h2⟩ := g2 t ht e2 (fun hm => by
                  rcases (hmk t ht).1 hm with h3 | h3
                  · exact ht2 h3
                  · exact e3 h3)
                exact ⟨b', h1, fun u hu' hc => i0 u (h2 u hu' hc)⟩
            · exact j2 t ht ht1 e2
theorem matchF_ok (hq : ∀ i j, i < n → j < n → q i = q j → i = j) (k : Nat) : RecOK can q n (matchF can q n k) k := by
  induction k with
  | zero => exact ⟨fun _ _ _ h => h, fun _ _ _ _ _ => rfl, fun _ _ _ => rfl, fun _ _ _ h => h, fun _ _ _ h => (by cases h), fun _ _ h => (by omega), fun _ _ _ _ => ⟨fun _ _ _ => rfl, fun _ => rfl⟩⟩
  | succ k ih =>
    have key := fun a σ => goF_ok hq ih a n 0 σ (by omega)
    refine ⟨fun a σ => (key a σ).1, fun a σ => (key a σ).2.1, fun a σ => (key a σ).2.2.1, fun a σ => (key a σ).2.2.2.1, fun a σ => (key a σ).2.2.2.2.1, fun a σ hu hf => ?_, fun a σ => (key a σ).2.2.2.2.2.2⟩
    obtain ⟨h1, h2⟩ := (key a σ).2.2.2.2.2.1 hu hf
    exact ⟨fun s hs hc => h1 s (Nat.zero_le s) hs hc, h2⟩
end
end Go.Ab
/- Matching: as few as the most of which no one can follow another one. -/
namespace Go.Ab
theorem cnt_add {A X S : Nat → Bool} {n : Nat} (h : ∀ i, i < n → A i = true → X i = true ∨ S i = true) : cnt A n ≤ cnt X n + cnt S n := by
  induction n with
  | zero => exact Nat.zero_le _
  | succ n ih =>
    have := ih (fun i hi => h i (by omega))
    simp only [cnt]
    by_cases ha : A n = true
    · rcases h n (by omega) ha with hx | hs
      · rw [if_pos ha, if_pos hx]; split <;> omega
      · rw [if_pos ha, if_pos hs]; split <;> omega
    · rw [if_neg ha]; omega
theorem cnt_dis {A F P : Nat → Bool} {n : Nat} (h1 : ∀ i, i < n → F i = true → A i = true ∧ P i = false) (h2 : ∀ i, i < n → P i = true → A i = true) : cnt F n + cnt P n ≤ cnt A n := by
  induction n with
  | zero => exact Nat.le_refl _
  | succ n ih =>
    have := ih (fun i hi => h1 i (by omega)) (fun i hi => h2 i (by omega))
    simp only [cnt]
    by_cases hf : F n = true
    · obtain ⟨ha, hp⟩ := h1 n (by omega) hf
      rw [if_pos hf, if_pos ha, if_neg (by simp [hp])]
      omega
    · by_cases hp : P n = true
      · rw [if_neg hf, if_pos hp, if_pos (h2 n (by omega) hp)]; omega
      · rw [if_neg hf, if_neg hp]; split <;> omega
section
variable {can : Nat → Nat → Bool} {q : Nat → Nat} {n : Nat}
structure FewOK (can : Nat → Nat → Bool) (n j : Nat) (M : List (Nat × Nat)) (many : Nat) (F S : Nat → Bool) : Prop where
  val : Val can n M
  cl : ∀ l, cntL n M l = if l < j ∧ F l = false then 1 else 0
  lt : ∀ l, F l = true → l < j
  many : cnt F n = many
  closed : Closed can n M (fun s => S s = true)
  out : ∀ l, F l = true → ∀ t, t < n → can l t = true → S t = true
theorem cnt_false (n : Nat) : cnt (fun _ => false) n = 0 := by
  induction n with
  | zero => rfl
  | succ n ih => simp only [cnt, ih]; rfl
theorem fewS_inv (hq : ∀ i j, i < n → j < n → q i = q j → i = j) (hn : n ≤ 7) (j : Nat) (hj : j ≤ n) : ∃ F S, FewOK can n j (fewS can q n j).1.M (fewS can q n j).2 F S := by
  induction j with
  | zero =>
    refine ⟨fun _ => false, fun _ => false, ⟨fun s o h => (by cases h), fun l => ?_, fun l h => (by cases h), cnt_false n, fun s _ h => (by cases h), fun l h => (by cases h)⟩⟩
    rw [if_neg (by omega)]
    show cnt (fun s => getN [] s == some l) n = 0
    exact cnt_false n
  | succ j ih =>
    obtain ⟨F, S, h⟩ := ih (by omega)
    have hM := matchF_ok (can := can) hq 8
    have f2 := hM.f2 j ⟨0, (fewS can q n j).1.M⟩
    have f3 := hM.f3 j ⟨0, (fewS can q n j).1.M⟩ (by omega) h.val
    have f4 := fun l => hM.f4 j ⟨0, (fewS can q n j).1.M⟩ l
    have f5 := hM.f5 j ⟨0, (fewS can q n j).1.M⟩ (by have := unt_le (q := q) (n := n) ⟨0, (fewS can q n j).1.M⟩; omega)
    have f6 := hM.f6 j ⟨0, (fewS can q n j).1.M⟩ (fun s => S s = true) h.closed
    have hFj : F j = false := by
      cases hf : F j with
      | false => rfl
      | true => have := h.lt j hf; omega
    simp only [fewS]
    cases hr : matchF can q n 8 j ⟨0, (fewS can q n j).1.M⟩ with
    | mk b σ' =>
    rw [hr] at f2 f3 f4 f5 f6
    cases b with
    | true =>
      refine ⟨F, S, ⟨f3, fun l => ?_, fun l hl => (by have := h.lt l hl; omega), by rw [if_pos rfl]; exact h.many, fun s hs hS => ?_, h.out⟩⟩
      · have h1 := f4 l rfl
        have h2 := h.cl l
        simp only at h1
        rw [h1, h2]
        by_cases e : l = j
        · subst e
          rw [if_neg (by omega), if_pos rfl, if_pos ⟨by omega, hFj⟩]
        · rw [if_neg e]
          by_cases e2 : l < j ∧ F l = false
          · rw [if_pos e2, if_pos ⟨by omega, e2.2⟩]
          · rw [if_neg e2, if_neg (fun h => e2 ⟨by omega, h.2⟩)]
      · obtain ⟨o, ho, hN⟩ := h.closed s hs hS
        exact ⟨o, by rw [f6.1 s hs hS]; exact ho, hN⟩
    | false =>
      have hM' : σ'.M = (fewS can q n j).1.M := f2 rfl
      obtain ⟨g1, g2⟩ := f5 rfl
      refine ⟨fun l => if l = j then true else F l, fun s => S s || σ'.T.testBit (q s), ⟨f3, fun l => ?_, fun l hl => ?_, ?_, fun s hs hS => ?_, fun l hl t ht hc => ?_⟩⟩
      · show cntL n σ'.M l = _
        rw [hM', h.cl l]
        by_cases e : l = j
        · subst e
          rw [if_neg (by omega), if_neg (by simp)]
        · simp only [if_neg e]
          by_cases e2 : l < j ∧ F l = false
          · rw [if_pos e2, if_pos ⟨by omega, e2.2⟩]
          · rw [if_neg e2, if_neg (fun h => e2 ⟨by omega, h.2⟩)]
      · by_cases e : l = j
        · omega
        · have hl : (if l = j then true else F l) = true := hl
          rw [if_neg e] at hl
          have := h.lt l hl
          omega
      · have := cnt_upd (P := F) (Q := fun l => if l = j then true else F l) (n := n) (s := j) (by omega) (fun i hi => by simp [hi])
        simp only [hFj, Bool.false_eq_true, if_false, if_true] at this
        rw [if_neg (by simp)]
        have := h.many
        omega
      · show ∃ o, getN σ'.M s = some o ∧ _
        rw [hM']
        cases hs1 : S s with
        | true =>
          obtain ⟨o, ho, hN⟩ := h.closed s hs hs1
          exact ⟨o, ho, fun t ht hc => by have := hN t ht hc; show (S t || σ'.T.testBit (q t)) = true; rw [this]; rfl⟩
        | false =>
          have hS : (S s || σ'.T.testBit (q s)) = true := hS
          rw [hs1, Bool.false_or] at hS
          obtain ⟨o, ho, hN⟩ := g2 s hs hS (by unfold trN; simp)
          exact ⟨o, ho, fun t ht hc => by have := hN t ht hc; show (S t || σ'.T.testBit (q t)) = true; rw [show σ'.T.testBit (q t) = true from this, Bool.or_true]⟩
      · by_cases e : l = j
        · subst e
          have := g1 t ht hc
          show (S t || σ'.T.testBit (q t)) = true
          rw [show σ'.T.testBit (q t) = true from this, Bool.or_true]
        · have hl : (if l = j then true else F l) = true := hl
          rw [if_neg e] at hl
          have := h.out l hl t ht hc
          show (S t || σ'.T.testBit (q t)) = true
          rw [this]; rfl
def Anti (can : Nat → Nat → Bool) (n : Nat) (X : Nat → Bool) : Prop := ∀ i j, i < n → j < n → X i = true → X j = true → can i j = false
theorem FewOK.one {M : List (Nat × Nat)} {many : Nat} {F S : Nat → Bool} {j : Nat} (h : FewOK can n j M many F S) {s t o : Nat} (hs : getN M s = some o) (ht : getN M t = some o) : s = t := by
  have h1 := h.cl o
  have h2 : cntL n M o ≤ 1 := by rw [h1]; split <;> omega
  exact cnt_one h2 (h.val s o hs).1 (h.val t o ht).1 (by rw [hs]; exact beq_self_eq_true _) (by rw [ht]; exact beq_self_eq_true _)
theorem anti_ex (hq : ∀ i j, i < n → j < n → q i = q j → i = j) (hn : n ≤ 7) : ∃ X, Anti can n X ∧ fewN can q n ≤ cnt X n := by
  obtain ⟨F, S, h⟩ := fewS_inv (can := can) hq hn n (Nat.le_refl n)
  have hF : cnt F n = fewN can q n := h.many
  generalize (fewS can q n n).1.M = M at h
  let P : Nat → Bool := fun i => decide (0 < cnt (fun s => S s && getN M s == some i) n)
  have hP : ∀ i, P i = true ↔ ∃ s, s < n ∧ S s = true ∧ getN M s = some i := fun i => by
    simp only [P, decide_eq_true_eq]
    refine ⟨fun hp => ?_, fun ⟨s, h1, h2, h3⟩ => ?_⟩
    · obtain ⟨s, h1, h2⟩ := cnt_ex hp
      simp only [Bool.and_eq_true] at h2
      exact ⟨s, h1, h2.1, eq_of_beq h2.2⟩
    · exact cnt_pos h1 (by simp only [h2, Bool.true_and, h3]; exact beq_self_eq_true _)
  refine ⟨fun i => (F i || P i) && !(S i), fun i j hi hj hx hy => ?_, ?_⟩
  · simp only [Bool.and_eq_true, Bool.or_eq_true, Bool.not_eq_true'] at hx hy
    cases hc : can i j with
    | false => rfl
    | true =>
      have : S j = true := by
        rcases hx.1 with hf | hp
        · exact h.out i hf j hj hc
        · obtain ⟨s, h1, h2, h3⟩ := (hP i).1 hp
          obtain ⟨o, ho, hN⟩ := h.closed s h1 h2
          rw [h3] at ho
          cases ho
          exact hN j hj hc
      rw [this] at hy
      cases hy.2
  · have h1 : cnt (fun i => F i || P i) n ≤ cnt (fun i => (F i || P i) && !(S i)) n + cnt S n := cnt_add fun i _ hi => by
      cases hs : S i with
      | true => exact .inr rfl
      | false =>
        left
        have hi : (F i || P i) = true := hi
        simp only [hi, Bool.true_and, Bool.not_false]
    have h2 : cnt F n + cnt P n ≤ cnt (fun i => F i || P i) n := cnt_dis (fun i hi hf => ⟨by show (F i || P i) = true; rw [hf]; rfl, by
      cases hp : P i with
      | false => rfl
      | true =>
        obtain ⟨s, h1, h2, h3⟩ := (hP i).1 hp
        have h4 := h.cl i
        rw [if_neg (by simp [hf])] at h4
        have h5 : 0 < cntL n M i := cnt_pos h1 (by rw [h3]; exact beq_self_eq_true _)
        omega⟩) (fun i hi hp => by show (F i || P i) = true; rw [hp, Bool.or_true])
    have h3 : cnt S n ≤ cnt P n := cnt_inj (fun s => (getN M s).getD 0) n (fun s hs hS => by
      obtain ⟨o, ho, _⟩ := h.closed s hs hS
      refine ⟨?_, ?_⟩
      · rw [ho]; exact (h.val s o ho).2.1
      · rw [ho]; exact (hP o).2 ⟨s, hs, hS, ho⟩) (fun s t hs ht hS hT he => by
      obtain ⟨o, ho, _⟩ := h.closed s hs hS
      obtain ⟨o', ho', _⟩ := h.closed t ht hT
      simp only [ho, ho', Option.getD_some] at he
      subst he
      exact h.one ho ho')
    omega
inductive Down (M : List (Nat × Nat)) : Nat → Nat → Prop
  | refl (i : Nat) : Down M i i
  | step {r o s : Nat} (h : Down M r o) (hs : getN M s = some o) : Down M r s
theorem Down.first {M : List (Nat × Nat)} {i j : Nat} (h : Down M i j) : i = j ∨ ∃ s, getN M s = some i ∧ Down M s j := by
  induction h with
  | refl => exact .inl rfl
  | step _ hs ih =>
    rcases ih with rfl | ⟨s', h1, h2⟩
    · exact .inr ⟨_, hs, .refl _⟩
    · exact .inr ⟨s', h1, .step h2 hs⟩
theorem Down.cmp {M : List (Nat × Nat)} (h1 : ∀ s t o, getN M s = some o → getN M t = some o → s = t) {r i j : Nat} (hi : Down M r i) (hj : Down M r j) : Down M i j ∨ Down M j i := by
  induction hi with
  | refl => exact .inl hj
  | step _ hs ih =>
    rcases ih with h | h
    · rcases h.first with rfl | ⟨s', h2, h3⟩
      · exact .inr (.step (.refl _) hs)
      · rw [h1 _ _ _ hs h2]; exact .inl h3
    · exact .inr (.step h hs)
theorem Down.link {M : List (Nat × Nat)} (hv : Val can n M) (tra : ∀ i j k, i < n → j < n → k < n → can i j = true → can j k = true → can i k = true) {i j : Nat} (hi : i < n) (h : Down M i j) : j < n ∧ (i = j ∨ can i j = true) := by
  induction h with
  | refl => exact ⟨hi, .inl rfl⟩
  | step _ hs ih =>
    obtain ⟨a, b, c⟩ := hv _ _ hs
    refine ⟨a, .inr ?_⟩
    rcases ih.2 with rfl | h2
    · exact c
    · exact tra _ _ _ hi ih.1 a h2 c
theorem root_ex {M : List (Nat × Nat)} (hv : Val can n M) (μ : Nat → Nat) (hμ : ∀ i j, i < n → j < n → can i j = true → μ i < μ j) : ∀ k i, μ i < k → i < n → ∃ r, r < n ∧ getN M r = none ∧ Down M r i := by
  intro k
  induction k with
  | zero => intro i h; omega
  | succ k ih =>
    intro i hk hi
    cases hg : getN M i with
    | none => exact ⟨i, hi, hg, .refl i⟩
    | some o =>
      obtain ⟨a, b, c⟩ := hv _ _ hg
      have := hμ o i b a c
      obtain ⟨r, h1, h2, h3⟩ := ih o (by omega) b
      exact ⟨r, h1, h2, .step h3 hg⟩
theorem roots_le {M : List (Nat × Nat)} {many : Nat} {F S : Nat → Bool} (h : FewOK can n n M many F S) : cnt (fun i => (getN M i).isNone) n ≤ many := by
  have h1 := cnt_not (fun i => (getN M i).isNone) n
  have h2 := cnt_not F n
  have h3 : cnt (fun i => !F i) n ≤ cnt (fun i => !(getN M i).isNone) n := by
    have hex : ∀ l, l < n → F l = false → ∃ s, s < n ∧ getN M s = some l := fun l hl hf => by
      have h4 := h.cl l
      rw [if_pos ⟨hl, hf⟩] at h4
      obtain ⟨s, h5, h6⟩ := cnt_ex (show 0 < cntL n M l by omega)
      exact ⟨s, h5, eq_of_beq h6⟩
    refine cnt_inj (fun l => if hx : ∃ s, s < n ∧ getN M s = some l then Classical.choose hx else 0) n (fun l hl hf => ?_) (fun l m hl hm hf hf' he => ?_)
    · have hf : F l = false := by simpa using hf
      have hx := hex l hl hf
      simp only [dif_pos hx]
      have := Classical.choose_spec hx
      refine ⟨this.1, ?_⟩
      rw [this.2]; rfl
    · have hf : F l = false := by simpa using hf
      have hf' : F m = false := by simpa using hf'
      have hx := hex l hl hf
      have hy := hex m hm hf'
      simp only [dif_pos hx, dif_pos hy] at he
      have h5 := (Classical.choose_spec hx).2
      have h6 := (Classical.choose_spec hy).2
      rw [he, h6] at h5
      cases h5
      rfl
  have := h.many
  omega
theorem anti_le (hq : ∀ i j, i < n → j < n → q i = q j → i = j) (hn : n ≤ 7) (μ : Nat → Nat) (hμ : ∀ i j, i < n → j < n → can i j = true → μ i < μ j)
    (tra : ∀ i j k, i < n → j < n → k < n → can i j = true → can j k = true → can i k = true) {X : Nat → Bool} (hX : Anti can n X) : cnt X n ≤ fewN can q n := by
  obtain ⟨F, S, h⟩ := fewS_inv (can := can) hq hn n (Nat.le_refl n)
  have h0 := roots_le h
  have hv := h.val
  have h1 : ∀ s t o, getN (fewS can q n n).1.M s = some o → getN (fewS can q n n).1.M t = some o → s = t := fun s t o a b => h.one a b
  refine Nat.le_trans ?_ h0
  generalize (fewS can q n n).1.M = M at hv h1
  have hr : ∀ i, i < n → ∃ r, r < n ∧ getN M r = none ∧ Down M r i := fun i hi => root_ex hv μ hμ (μ i + 1) i (by omega) hi
  classical
  refine cnt_inj (fun i => if hx : ∃ r, r < n ∧ getN M r = none ∧ Down M r i then Classical.choose hx else 0) n (fun i hi _ => ?_) (fun i j hi hj hx hy he => ?_)
  · simp only [dif_pos (hr i hi)]
    have := Classical.choose_spec (hr i hi)
    exact ⟨this.1, by rw [this.2.1]; rfl⟩
  · simp only [dif_pos (hr i hi), dif_pos (hr j hj)] at he
    have h5 := (Classical.choose_spec (hr i hi)).2.2
    have h6 := (Classical.choose_spec (hr j hj)).2.2
    rw [he] at h5
    rcases Down.cmp h1 h5 h6 with h7 | h7
    · rcases (h7.link hv tra hi).2 with e | e
      · exact e
      · rw [hX i j hi hj hx hy] at e; cases e
    · rcases (h7.link hv tra hj).2 with e | e
      · exact e.symm
      · rw [hX j i hj hi hy hx] at e; cases e
end
end Go.Ab
/- The first plan: right, with as few horses as moves ask for; and no other one comes before it. -/
namespace Go.Ab
section
variable {can : Nat → Nat → Bool} {fits : Nat → Nat → Bool} {n many : Nat}
def Lk (can : Nat → Nat → Bool) (i j : Nat) : Prop := can i j = true ∨ can j i = true
theorem Lk.symm {i j : Nat} (h : Lk can i j) : Lk can j i := h.elim .inr .inl
structure Pl (can : Nat → Nat → Bool) (many m : Nat) (g : Nat → Nat) : Prop where
  lt : ∀ i, i < m → g i < many
  ok : ∀ i j, i < j → j < m → g i = g j → Lk can i j
def Rep (n m : Nat) (σ : Gs) : Prop := ∀ h k, k < n → ((σ.D h).testBit k = true ↔ k < m ∧ σ.P k = h)
def Bef (n : Nat) (g Q : Nat → Nat) : Prop := ∀ i, i < n → (∀ j, j < i → g j = Q j) → g i ≤ Q i
def Fits (can : Nat → Nat → Bool) (fits : Nat → Nat → Bool) (n : Nat) : Prop := ∀ D m, D < 128 → m < n → (fits D m = true ↔ ∀ k, k < n → D.testBit k = true → Lk can k m)
structure GiveOK (can : Nat → Nat → Bool) (n many m h0 : Nat) (σ : Gs) (x : Bool × Gs) : Prop where
  ok : GsOK x.2
  tru : x.1 = true → Pl can many n x.2.P ∧ (∀ j, j < m → x.2.P j = σ.P j) ∧ ∀ Q, Pl can many n Q → (∀ j, j < m → Q j = σ.P j) → h0 ≤ Q m → Bef n x.2.P Q
  fls : x.1 = false → x.2.D = σ.D ∧ (∀ j, j < m → x.2.P j = σ.P j) ∧ ∀ Q, Pl can many n Q → (∀ j, j < m → Q j = σ.P j) → ¬ h0 ≤ Q m
theorem Rep.add {m h : Nat} (hm : m < n) {σ : Gs} (hr : Rep n m σ) : Rep n (m + 1) ⟨updN σ.D h (σ.D h ||| 2 ^ m), updN σ.P m h⟩ := by
  intro h' k hk
  simp only [updN]
  by_cases e : h' = h
  · subst e
    simp only [if_pos rfl, if_true, Nat.testBit_or, Nat.testBit_two_pow]
    by_cases ek : k = m
    · subst ek
      simp
    · have := hr h' k hk
      simp only [if_neg ek, Bool.or_eq_true, decide_eq_true_eq]
      constructor
      · rintro (h1 | h1)
        · exact ⟨by have := (this.1 h1).1; omega, (this.1 h1).2⟩
        · exact absurd h1.symm ek
      · rintro ⟨h1, h2⟩
        exact .inl (this.2 ⟨by omega, h2⟩)
  · have := hr h' k hk
    simp only [if_neg e]
    by_cases ek : k = m
    · subst ek
      simp only [if_true]
      constructor
      · intro h1; have := (this.1 h1).1; omega
      · rintro ⟨_, h2⟩; exact absurd h2.symm e
    · simp only [if_neg ek]
      constructor
      · intro h1; exact ⟨by have := (this.1 h1).1; omega, (this.1 h1).2⟩
      · rintro ⟨h1, h2⟩; exact this.2 ⟨by omega, h2⟩
theorem giveH_spec (hF : Fits can fits n) {rec : Gs → Bool × Gs} {m : Nat} (hm : m < n) (hn : n ≤ 7)
    (hrec : ∀ σ, GsOK σ → Rep n (m + 1) σ → Pl can many (m + 1) σ.P → GiveOK can n many (m + 1) 0 σ (rec σ)) :
    ∀ r h σ, h + r = many → GsOK σ → Rep n m σ → Pl can many m σ.P → GiveOK can n many m h σ (giveH fits rec m r h σ) := by
  intro r
  induction r with
  | zero =>
    intro h σ hr hg hR hP
    exact ⟨hg, fun h1 => (by cases h1), fun _ => ⟨rfl, fun _ _ => rfl, fun Q hQ _ hh => by have := hQ.lt m hm; omega⟩⟩
  | succ r ih =>
    intro h σ hr hg hR hP
    cases hf : fits (σ.D h) m with
    | false =>
      rw [giveH_skip hf]
      have h1 := ih (h + 1) σ (by omega) hg hR hP
      have hno : ∀ Q, Pl can many n Q → (∀ j, j < m → Q j = σ.P j) → h ≤ Q m → h + 1 ≤ Q m := fun Q hQ ha hle => by
        rcases Nat.lt_or_ge h (Q m) with hlt | hge
        · exact hlt
        · exfalso
          have e : Q m = h := by omega
          have : fits (σ.D h) m = true := (hF _ m (hg h) hm).2 fun k hk hb => by
            have h2 := (hR h k hk).1 hb
            exact hQ.ok k m h2.1 hm (by rw [ha k h2.1, h2.2, e])
          rw [hf] at this; cases this
      exact ⟨h1.ok, fun ht => ⟨(h1.tru ht).1, (h1.tru ht).2.1, fun Q hQ ha hle => (h1.tru ht).2.2 Q hQ ha (hno Q hQ ha hle)⟩,
        fun ht => ⟨(h1.fls ht).1, (h1.fls ht).2.1, fun Q hQ ha hle => (h1.fls ht).2.2 Q hQ ha (hno Q hQ ha hle)⟩⟩
    | true =>
      have hok1 := hg.add (i := h) (m := m) (by omega) (updN σ.P m h)
      have hR1 := hR.add (h := h) hm
      have hP1 : Pl can many (m + 1) (updN σ.P m h) := by
        refine ⟨fun i hi => ?_, fun i j hij hj he => ?_⟩
        · simp only [updN]
          split
          · omega
          · exact hP.lt i (by omega)
        · simp only [updN, if_neg (show ¬ i = m by omega)] at he
          by_cases ej : j = m
          · subst ej
            simp only [if_true] at he
            exact (hF _ j (hg h) hm).1 hf i (by omega) ((hR h i (by omega)).2 ⟨hij, he⟩)
          · simp only [if_neg ej] at he
            exact hP.ok i j hij (by omega) he
      have h1 := hrec _ hok1 hR1 hP1
      have agr : ∀ P' : Nat → Nat, (∀ j, j < m + 1 → P' j = updN σ.P m h j) → (∀ j, j < m → P' j = σ.P j) ∧ P' m = h := fun P' ha =>
        ⟨fun j hj => by rw [ha j (by omega)]; simp only [updN, if_neg (show ¬ j = m by omega)], by rw [ha m (by omega)]; simp only [updN, if_true]⟩
      have agr' : ∀ Q : Nat → Nat, (∀ j, j < m → Q j = σ.P j) → Q m = h → ∀ j, j < m + 1 → Q j = updN σ.P m h j := fun Q ha hq j hj => by
        simp only [updN]
        split
        · rename_i e; subst e; exact hq
        · exact ha j (by omega)
      generalize hx : rec ⟨updN σ.D h (σ.D h ||| 2 ^ m), updN σ.P m h⟩ = x at h1
      obtain ⟨b, σ'⟩ := x
      cases b with
      | true =>
        rw [giveH_true hf hx]
        obtain ⟨a1, a2, a3⟩ := h1.tru rfl
        obtain ⟨b1, b2⟩ := agr _ a2
        refine ⟨h1.ok, fun _ => ⟨a1, b1, fun Q hQ ha hle => ?_⟩, fun h2 => (by cases h2)⟩
        by_cases e : Q m = h
        · exact a3 Q hQ (agr' Q ha e) (Nat.zero_le _)
        · intro i hi hpre
          rcases Nat.lt_trichotomy i m with hlt | heq | hgt
          · rw [ha i hlt]; exact Nat.le_of_eq (b1 i hlt)
          · subst heq; rw [b2]; exact hle
          · have := hpre m hgt
            exact absurd (this.symm.trans b2) e
      | false =>
        rw [giveH_false hf hx]
        obtain ⟨a1, a2, a3⟩ := h1.fls rfl
        obtain ⟨b1, b2⟩ := agr _ a2
        have eD : updN σ'.D h (σ.D h) = σ.D := by
          funext k
          have : σ'.D k = updN σ.D h (σ.D h ||| 2 ^ m) k := congrFun a1 k
          simp only [updN] at this ⊢
          split
          · rename_i e; rw [e]
          · rename_i e; rw [this, if_neg e]
        rw [eD]
        have hg2 : GsOK ⟨σ.D, σ'.P⟩ := hg
        have hR2 : Rep n m ⟨σ.D, σ'.P⟩ := fun h' k hk => by
          have := hR h' k hk
          constructor
          · intro hb
            obtain ⟨c1, c2⟩ := this.1 hb
            exact ⟨c1, by show σ'.P k = h'; rw [b1 k c1]; exact c2⟩
          · rintro ⟨c1, c2⟩
            have c2 : σ'.P k = h' := c2
            exact this.2 ⟨c1, by rw [← b1 k c1]; exact c2⟩
        have hP2 : Pl can many m σ'.P := ⟨fun i hi => by rw [b1 i hi]; exact hP.lt i hi, fun i j hij hj he => hP.ok i j hij hj (by rw [← b1 i (by omega), ← b1 j hj]; exact he)⟩
        have h2 := ih (h + 1) ⟨σ.D, σ'.P⟩ (by omega) hg2 hR2 hP2
        have hno : ∀ Q, Pl can many n Q → (∀ j, j < m → Q j = σ.P j) → h ≤ Q m → h + 1 ≤ Q m := fun Q hQ ha hle => by
          rcases Nat.lt_or_ge h (Q m) with hlt | hge
          · exact hlt
          · exact absurd (Nat.zero_le _) (a3 Q hQ (agr' Q ha (by omega)))
        have tr : ∀ P' : Nat → Nat, (∀ j, j < m → P' j = σ'.P j) → ∀ j, j < m → P' j = σ.P j := fun P' hp j hj => by rw [hp j hj, b1 j hj]
        have tr' : ∀ P' : Nat → Nat, (∀ j, j < m → P' j = σ.P j) → ∀ j, j < m → P' j = σ'.P j := fun P' hp j hj => by rw [hp j hj, b1 j hj]
        exact ⟨h2.ok, fun ht => ⟨(h2.tru ht).1, tr _ (h2.tru ht).2.1, fun Q hQ ha hle => (h2.tru ht).2.2 Q hQ (tr' Q ha) (hno Q hQ ha hle)⟩,
          fun ht => ⟨(h2.fls ht).1, tr _ (h2.fls ht).2.1, fun Q hQ ha hle => (h2.fls ht).2.2 Q hQ (tr' Q ha) (hno Q hQ ha hle)⟩⟩
theorem giveF_spec (hF : Fits can fits n) (hn : n ≤ 7) : ∀ k m σ, m ≤ n → n < m + k → GsOK σ → Rep n m σ → Pl can many m σ.P → GiveOK can n many m 0 σ (giveF fits n many k m σ) := by
  intro k
  induction k with
  | zero => intro m σ hm hk; omega
  | succ k ih =>
    intro m σ hm hk hg hR hP
    simp only [giveF]
    by_cases e : m = n
    · subst e
      rw [if_pos rfl]
      exact ⟨hg, fun _ => ⟨hP, fun _ _ => rfl, fun Q hQ ha _ i hi _ => Nat.le_of_eq (ha i hi).symm⟩, fun h => (by cases h)⟩
    · rw [if_neg e]
      exact giveH_spec hF (by omega) hn (fun σ a b c => ih (m + 1) σ (by omega) (by omega) a b c) many 0 σ (by omega) hg hR hP
theorem giveF_first (hF : Fits can fits n) (hn : n ≤ 7) {Q : Nat → Nat} (hQ : Pl can many n Q) :
    Pl can many n (giveF fits n many 8 0 ⟨fun _ => 0, fun _ => 0⟩).2.P ∧ ∀ Q, Pl can many n Q → Bef n (giveF fits n many 8 0 ⟨fun _ => 0, fun _ => 0⟩).2.P Q := by
  have h := giveF_spec (can := can) (many := many) hF hn 8 0 ⟨fun _ => 0, fun _ => 0⟩ (Nat.zero_le _) (by omega) (fun _ => by show (0 : Nat) < 128; decide) (fun h k _ => by
    constructor
    · intro hb; simp at hb
    · rintro ⟨a, _⟩; omega) ⟨fun i hi => by omega, fun i j _ hj => by omega⟩
  generalize giveF fits n many 8 0 ⟨fun _ => 0, fun _ => 0⟩ = x at h
  obtain ⟨b, σ⟩ := x
  cases b with
  | true =>
    obtain ⟨a1, _, a3⟩ := h.tru rfl
    exact ⟨a1, fun Q hQ => a3 Q hQ (fun j hj => by omega) (Nat.zero_le _)⟩
  | false => exact absurd (Nat.zero_le _) ((h.fls rfl).2.2 Q hQ (fun j hj => by omega))
theorem cnt_lt {P : Nat → Bool} {i j : Nat} (hij : i < j) (hi : P i = true) : cnt P i < cnt P j := by
  induction j with
  | zero => omega
  | succ j ih =>
    simp only [cnt]
    by_cases e : i = j
    · subst e; rw [if_pos hi]; omega
    · have := ih (by omega)
      omega
theorem cnt_one_one {P : Nat → Bool} {i j : Nat} (hi : P i = true) (hj : P j = true) (he : cnt P i = cnt P j) : i = j := by
  rcases Nat.lt_trichotomy i j with h | h | h
  · have := cnt_lt h hi; omega
  · exact h
  · have := cnt_lt h hj; omega
theorem plan_ex {q : Nat → Nat} (hq : ∀ i j, i < n → j < n → q i = q j → i = j) (hn : n ≤ 7) (μ : Nat → Nat) (hμ : ∀ i j, i < n → j < n → can i j = true → μ i < μ j)
    (tra : ∀ i j k, i < n → j < n → k < n → can i j = true → can j k = true → can i k = true) : ∃ Q, Pl can (fewN can q n) n Q := by
  obtain ⟨F, S, h⟩ := fewS_inv (can := can) hq hn n (Nat.le_refl n)
  have h0 := roots_le h
  have hv := h.val
  have h1 : ∀ s t o, getN (fewS can q n n).1.M s = some o → getN (fewS can q n n).1.M t = some o → s = t := fun s t o a b => h.one a b
  show ∃ Q, Pl can (fewS can q n n).2 n Q
  generalize (fewS can q n n).1.M = M at hv h1 h0
  have hr : ∀ i, i < n → ∃ r, r < n ∧ getN M r = none ∧ Down M r i := fun i hi => root_ex hv μ hμ (μ i + 1) i (by omega) hi
  classical
  refine ⟨fun i => cnt (fun r => (getN M r).isNone) (if hx : ∃ r, r < n ∧ getN M r = none ∧ Down M r i then Classical.choose hx else 0), ⟨fun i hi => ?_, fun i j hij hj he => ?_⟩⟩
  · simp only [dif_pos (hr i hi)]
    have := Classical.choose_spec (hr i hi)
    exact Nat.lt_of_lt_of_le (cnt_lt this.1 (by rw [this.2.1]; rfl)) h0
  · have hi : i < n := by omega
    simp only [dif_pos (hr i hi), dif_pos (hr j hj)] at he
    have h5 := Classical.choose_spec (hr i hi)
    have h6 := Classical.choose_spec (hr j hj)
    have he := cnt_one_one (P := fun r => (getN M r).isNone) (by rw [h5.2.1]; rfl) (by rw [h6.2.1]; rfl) he
    have h5 := h5.2.2
    have h6 := h6.2.2
    rw [he] at h5
    rcases Down.cmp h1 h5 h6 with h7 | h7
    · rcases (h7.link hv tra hi).2 with e | e
      · omega
      · exact .inl e
    · rcases (h7.link hv tra hj).2 with e | e
      · omega
      · exact .inr e
def usedB (g : Nat → Nat) : Nat → Nat → Bool
  | 0, _ => false
  | n + 1, v => usedB g n v || g n == v
theorem usedB_iff (g : Nat → Nat) (n v : Nat) : usedB g n v = true ↔ ∃ i, i < n ∧ g i = v := by
  induction n with
  | zero =>
    constructor
    · intro h; cases h
    · rintro ⟨i, hi, _⟩; omega
  | succ n ih =>
    simp only [usedB, Bool.or_eq_true, beq_iff_eq, ih]
    constructor
    · rintro (⟨i, a, b⟩ | h)
      · exact ⟨i, by omega, b⟩
      · exact ⟨n, by omega, h⟩
    · rintro ⟨i, a, b⟩
      by_cases e : i = n
      · subst e; exact .inr b
      · exact .inl ⟨i, by omega, b⟩
theorem used_ge {X : Nat → Bool} (hX : Anti can n X) {m : Nat} {g : Nat → Nat} (hg : Pl can m n g) : cnt X n ≤ cnt (usedB g n) m := by
  refine cnt_inj g n (fun i hi _ => ⟨hg.lt i hi, (usedB_iff g n _).2 ⟨i, hi, rfl⟩⟩) fun i j hi hj hx hy he => ?_
  rcases Nat.lt_trichotomy i j with h | h | h
  · rcases hg.ok i j h hj he with h1 | h1
    · rw [hX i j hi hj hx hy] at h1; cases h1
    · rw [hX j i hj hi hy hx] at h1; cases h1
  · exact h
  · rcases hg.ok j i h hi he.symm with h1 | h1
    · rw [hX j i hj hi hy hx] at h1; cases h1
    · rw [hX i j hi hj hx hy] at h1; cases h1
def nextF (g : Nat → Nat) : Nat → Nat
  | 0 => 0
  | i + 1 => max (nextF g i) (g i + 1)
theorem nextF_gt (g : Nat → Nat) {i j : Nat} (h : j < i) : g j < nextF g i := by
  induction i with
  | zero => omega
  | succ i ih =>
    simp only [nextF]
    by_cases e : j = i
    · subst e; omega
    · have := ih (by omega); omega
theorem first_canon {g : Nat → Nat} (hg : Pl can many n g) (hb : ∀ Q, Pl can many n Q → Bef n g Q) {i : Nat} (hi : i < n) : g i ≤ nextF g i := by
  apply Nat.le_of_not_lt
  intro hlt
  have hQ : Pl can many n (fun k => if g k = nextF g i then g i else if g k = g i then nextF g i else g k) := by
    refine ⟨fun k hk => ?_, fun k l hkl hl he => ?_⟩
    · have h1 := hg.lt k hk
      have h2 := hg.lt i hi
      split
      · omega
      · split <;> omega
    · apply hg.ok k l hkl hl
      split at he <;> split at he <;> (try split at he) <;> (try split at he) <;> omega
  have h1 := hb _ hQ i hi (fun j hj => by
    have := nextF_gt g hj
    rw [if_neg (by omega), if_neg (by omega)])
  rw [if_neg (by omega), if_pos rfl] at h1
  omega
theorem next_used {g : Nat → Nat} : ∀ i, (∀ k, k < i → g k ≤ nextF g k) → ∀ v, v < nextF g i → ∃ j, j < i ∧ g j = v := by
  intro i
  induction i with
  | zero => intro _ v hv; simp only [nextF] at hv; omega
  | succ i ih =>
    intro hc v hv
    simp only [nextF] at hv
    by_cases h : v < nextF g i
    · obtain ⟨j, a, b⟩ := ih (fun k hk => hc k (by omega)) v h
      exact ⟨j, by omega, b⟩
    · have := hc i (by omega)
      exact ⟨i, by omega, by omega⟩
theorem cnt_all {P : Nat → Bool} {m : Nat} (h : ∀ v, v < m → P v = true) : cnt P m = m := by
  induction m with
  | zero => rfl
  | succ m ih => simp only [cnt, h m (by omega), ih (fun v hv => h v (by omega))]; rfl
theorem cnt_mono_n (P : Nat → Bool) {a b : Nat} (h : a ≤ b) : cnt P a ≤ cnt P b := by
  induction b with
  | zero => have : a = 0 := by omega
            subst this; exact Nat.le_refl _
  | succ b ih =>
    by_cases e : a = b + 1
    · subst e; exact Nat.le_refl _
    · have := ih (by omega)
      simp only [cnt]
      omega
theorem first_before {g : Nat → Nat} (hg : Pl can many n g) (hb : ∀ Q, Pl can many n Q → Bef n g Q) {m : Nat} {own : Nat → Nat} (ho : Pl can m n own) (hu : cnt (usedB own n) m = many)
    {i : Nat} (hi : i < n) (hpre : ∀ j, j < i → own j = g j) : g i ≤ own i := by
  apply Nat.le_of_not_lt
  intro hlt
  have hc := first_canon hg hb hi
  have hall : ∀ v, v < nextF g i → usedB own n v = true := fun v hv => by
    obtain ⟨j, a, b⟩ := next_used (g := g) i (fun k hk => first_canon hg hb (by omega)) v hv
    exact (usedB_iff own n v).2 ⟨j, by omega, by rw [hpre j a, b]⟩
  have hfix : ∀ v, v ≤ nextF g i → cnt (usedB own n) v = v := fun v hv => cnt_all fun w hw => hall w (by omega)
  have hQ : Pl can many n (fun k => cnt (usedB own n) (own k)) := by
    refine ⟨fun k hk => ?_, fun k l hkl hl he => ho.ok k l hkl hl (cnt_one_one ((usedB_iff own n _).2 ⟨k, by omega, rfl⟩) ((usedB_iff own n _).2 ⟨l, hl, rfl⟩) he)⟩
    rw [← hu]
    exact cnt_lt (ho.lt k hk) ((usedB_iff own n _).2 ⟨k, hk, rfl⟩)
  have h1 := hb _ hQ i hi (fun j hj => by
    have := nextF_gt g hj
    rw [hpre j hj, hfix _ (by omega)])
  rw [hfix _ (by omega)] at h1
  omega
end
end Go.Ab
/- the law HorseFewest: forms. -/
set_option maxRecDepth 100000
namespace Go.Ab
open Go Go.RowKit Go.Proofs
noncomputable def natL (n : Nat) (g : Nat → Nat) : List Value := ints n fun i => (g i : Int)
noncomputable def C26 (p : Int) (n c k d : Nat) (f : Nat → Mv) (g : Nat → Nat) : Con where
  A := .agg (.hole (.slice 0 0 .nil)) (.slice 1 0 .nil)
  bs := [.list 1 .ro, .list 3 .ro]
  pre x := x = ⟨⟨[I p], [(n, c), (k, d)]⟩, [mvs n f, natL k g]⟩
  res _ := .ret (.bool (decide ((k : Int) = n)))
noncomputable def C27 (sure : Bool) (p : Int) (n c k d : Nat) (f : Nat → Mv) (g : Nat → Nat) (v : Bool) : Con where
  A := .agg (.hole (.slice 0 0 .nil)) (.slice 1 0 (.hole .nil))
  bs := [.list 1 .ro, .list 3 .ro]
  pre x := x = ⟨⟨[I p, .bool sure], [(n, c), (k, d)]⟩, [mvs n f, natL k g]⟩
  res _ := .ret (.bool v)
noncomputable def C28 (k d : Nat) (g : Nat → Nat) (v : Nat) : Con where
  A := .slice 0 0 .nil
  bs := [.list 3 .ro]
  pre x := x = ⟨⟨[], [(k, d)]⟩, [natL k g]⟩
  res _ := .ret (I v)
def p26 : Loc := .l (.r (.l (.r (.top 26))))
noncomputable def T26 : Tw := ⟨24, mkS 24 [(1, .slice 1 0 .nil), (2, .ptr 2 0 .nil), (4, .hole .nil), (5, .hole .nil)], 3, [.list 1 .ro, .list 3 .ro, .cells (.hole (.slice 0 0 .nil)) 24 .var]⟩
noncomputable def st26 (p : Int) (n c k d : Nat) (f : Nat → Mv) (g : Nat → Nat) (i : Nat) : Hw := ⟨⟨[.bool false, I i, I p], [(k, d), (n, c)]⟩, [mvs n f, natL k g], []⟩
def p28o : Loc := .l (.r (.l (.r (.r (.top 28)))))
def p28i : Loc := .l (.r (.l (.r (.l (.l (.r (.l (.l (.r (.l (.r (.r (.top 28)))))))))))))
noncomputable def T28o : Tw := ⟨34, mkS 34 [(0, .slice 0 0 .nil), (2, .hole .nil), (3, .hole .nil), (4, .hole .nil)], 1, [.list 3 .ro]⟩
noncomputable def T28i : Tw := ⟨34, mkS 34 [(0, .slice 0 0 .nil), (2, .hole .nil), (3, .hole .nil), (4, .hole .nil), (5, .hole .nil), (6, .hole .nil)], 1, [.list 3 .ro]⟩
noncomputable def st28o (k d : Nat) (g : Nat → Nat) (a i : Nat) : Hw := ⟨⟨[I (0 : Nat), I a, I i], [(k, d)]⟩, [natL k g], []⟩
noncomputable def st28i (k d : Nat) (g : Nat → Nat) (a i : Nat) (fr : Bool) (j : Nat) : Hw := ⟨⟨[I (0 : Nat), I a, I i, .bool fr, I j], [(k, d)]⟩, [natL k g], []⟩
noncomputable def C13q (p : Int) (n c k d : Nat) (f : Nat → Mv) (b : Nat → Int) (g : Nat → Nat) : ConN where
  A := .agg (.hole (.slice 0 0 .nil)) (.slice 1 0 .nil)
  bs := [.list 1 .ro, .list 2 .ro]
  pre x := x = ⟨⟨[I p], [(n, c), (k, d)]⟩, [mvs n f, u8s k b]⟩
  news _ := [(natL n g, 3)]
  one := true
  res _ := [.sl 0 n]
noncomputable def C13z (p : Int) (n c : Nat) (f : Nat → Mv) (g : Nat → Nat) : ConN where
  A := .agg (.hole (.slice 0 0 .nil)) (.val nilS .nil)
  bs := [.list 1 .ro]
  pre x := x = ⟨⟨[I p], [(n, c)]⟩, [mvs n f]⟩
  news _ := [(natL n g, 3)]
  one := true
  res _ := [.sl 0 n]
noncomputable def mL (ps : List Value) : Mem := ⟨fillX [.cells ps 3 .ro] 0 .nil, 1⟩
def p5a : Loc := .l (.r (.l (.r (.r (.r (.r (.r (.r (.top 5)))))))))
def p5b : Loc := .l (.r (.l (.r (.r (.r (.r (.r (.r (.r (.r (.r (.top 5))))))))))))
def p5c : Loc := .l (.r (.r (.l (.l (.r (.r (.l (.l (.r (.l (.r (.r (.r (.r (.r (.r (.r (.r (.r (.top 5))))))))))))))))))))
def p5d : Loc := .l (.r (.l (.r (.r (.r (.r (.r (.r (.r (.r (.r (.r (.r (.r (.r (.r (.top 5)))))))))))))))))
noncomputable def B5 : List TBw := [.list 1 .ro, .list 2 .ro, .cells (.hole (.slice 0 0 .nil)) 24 .var, .dead, .dead, .list 3 .row]
noncomputable def T5a : Tw := ⟨187, mkS 187 [(1, .hole .nil), (2, .slice 1 0 .nil), (3, .ptr 2 0 .nil), (7, .hole .nil), (8, .slice 5 0 .nil), (10, .hole .nil), (12, .hole .nil), (83, .slice 5 0 .nil), (84, .hole .nil), (85, .hole .nil)], 6, B5⟩
noncomputable def T5b : Tw := ⟨187, mkS 187 [(1, .hole .nil), (2, .slice 1 0 .nil), (3, .ptr 2 0 .nil), (7, .hole .nil), (8, .slice 5 0 .nil), (10, .hole .nil), (15, .hole .nil), (100, .hole .nil), (101, .hole .nil)], 6, B5⟩
noncomputable def T5c : Tw := ⟨187, mkS 187 [(1, .hole .nil), (2, .slice 1 0 .nil), (3, .ptr 2 0 .nil), (7, .hole .nil), (8, .slice 5 0 .nil), (10, .hole .nil), (15, .hole .nil), (16, .hole .nil), (100, .hole .nil), (101, .hole .nil), (106, .hole .nil), (107, .hole .nil)], 6, B5⟩
noncomputable def st5a (sure : Bool) (p : Int) (n c k d : Nat) (f : Nat → Mv) (bs : Nat → Int) (many found : Nat) (P : Nat → Nat) (next i : Nat) : Hw := ⟨⟨[.bool sure, I many, I found, I next, I n, I i, I p], [(k, d), (n, n), (n, n), (n, c)]⟩, [mvs n f, u8s k bs, natL n P], []⟩
noncomputable def st5b (sure : Bool) (p : Int) (n c k d : Nat) (f : Nat → Mv) (bs : Nat → Int) (many found : Nat) (P : Nat → Nat) (can : Int) (i : Nat) : Hw := ⟨⟨[.bool sure, I many, I found, I can, I n, I i, I p], [(k, d), (n, n), (n, c)]⟩, [mvs n f, u8s k bs, natL n P], []⟩
noncomputable def st5c (sure : Bool) (p : Int) (n c k d : Nat) (f : Nat → Mv) (bs : Nat → Int) (many found : Nat) (P : Nat → Nat) (can : Int) (i j : Nat) : Hw := ⟨⟨[.bool sure, I many, I found, I can, I i, I n, I i, I n, I j, I p], [(k, d), (n, n), (n, c)]⟩, [mvs n f, u8s k bs, natL n P], []⟩
noncomputable def T5d : Tw := ⟨187, mkS 187 [(7, .hole .nil), (8, .slice 5 0 .nil), (20, .slice 6 0 .nil), (21, .hole .nil), (155, .hole .nil), (156, .hole .nil)], 7, [.dead, .dead, .dead, .dead, .dead, .list 3 .row, .list 3 .row]⟩
noncomputable def R5d : Tw := ⟨187, mkS 187 [(6, .hole .nil)], 7, [.dead, .dead, .dead, .dead, .dead, .dead, .dead]⟩
noncomputable def st5d (n many kk : Nat) (P g : Nat → Nat) (i : Nat) : Hw := ⟨⟨[I many, I kk, I n, I i], [(n, n), (n, n)]⟩, [natL n P, natL n g], []⟩
noncomputable def rt5d (v : Bool) : Hw := ⟨⟨[.bool v], []⟩, [], []⟩
end Go.Ab
/- package horse: can: which move can follow which one, by their numbers. -/
set_option maxRecDepth 100000
namespace Go.Ab
open Go Go.RowKit Go.Proofs
theorem f77 (a b : Nat) (u1 u2 u3 u4 v1 v2 v3 v4 : Int) (o : Nat → Int) (R : ARes → Prop) : (vx.call 77 [.agg ⟨ints 7 o⟩, .agg ⟨[I u1, I u2, I u3, I u4, I a]⟩, .agg ⟨[I v1, I v2, I v3, I v4, I b]⟩] (retK R) ⟨.nil, 0⟩ ((7, .val (.pointer (.some ⟨((0 : Nat)), ((0 : Nat) + a * (1 : Nat)), .none⟩))) :: (0, .val (.int .i64 (o a))) :: (6, .val (.int .i64 (o a / (2 : Int) ^ b))) :: [(1, .split ([]) ([]))])) =
(((((((0 : Int) ≤ (↑a : Int))) ∧ (((↑a : Int) < (↑(7 : Nat) : Int)))) ∧ (((.pointer (.some ⟨((0 : Nat)), ((0 : Nat) + a * (1 : Nat)), .none⟩)) : Value) = (.pointer (.some ⟨((0 : Nat)), ((0 : Nat) + a * (1 : Nat)), .none⟩)))) ∧
((([Value.int .i64 (o (0 : Nat)), Value.int .i64 (o (1 : Nat)), Value.int .i64 (o (2 : Nat)), Value.int .i64 (o (3 : Nat)), Value.int .i64 (o (4 : Nat)), Value.int .i64 (o (5 : Nat)), Value.int .i64 (o (6 : Nat))][(0 : Nat) + a * (1 : Nat)]? = some (.int .i64 (o a)))) ∧
((((((0 : Int) ≤ (↑b : Int))) ∧ (((↑b : Int) ≤ (↑(64 : Nat) : Int)))) ∧ (((.int .i64 (o a / (2 : Int) ^ b)) : Value) = (.int .i64 (o a / (2 : Int) ^ b)))) ∧
(((bits BinOp.and IntKind.i64 (o a / (2 : Int) ^ b) (1 : Int) == (1 : Int)) = true → R (.ret (.bool true))) ∧
((bits BinOp.and IntKind.i64 (o a / (2 : Int) ^ b) (1 : Int) == (1 : Int)) = false → R (.ret (.bool false)))))))) := by kernel_rfl
theorem C77_ok (o : Nat → Int) (u1 u2 u3 u4 : Int) (a : Nat) (v1 v2 v3 v4 : Int) (b : Nat) (ha : a < 7) (hb : b < 7) : ConOK Try.prog 77 (C77 o u1 u2 u3 u4 a v1 v2 v3 v4 b) := by
  refine con_of vx_sound _ (fun x hx => ?_) rfl (fun x _ => rfl) (fun x hx => ?_) rfl (Nat.le_of_ble_eq_true rfl) (by rw [nglob]; exact Nat.zero_le _)
  · cases hx
    have key : ∀ R : ARes → Prop, (∀ v, hasI (o a) b = v → R (.ret (.bool v))) → ∃ hs, vx.call 77 [.agg ⟨ints 7 o⟩, .agg ⟨[I u1, I u2, I u3, I u4, I a]⟩, .agg ⟨[I v1, I v2, I v3, I v4, I b]⟩] (retK R) ⟨.nil, 0⟩ hs := fun R hR => by
      refine ⟨_, (f77 a b u1 u2 u3 u4 v1 v2 v3 v4 o R).mpr ⟨⟨⟨by omega, by omega⟩, rfl⟩, ints_get _ ha, ⟨⟨by omega, by omega⟩, rfl⟩, fun h => hR _ h, fun h => hR _ h⟩⟩
    obtain ⟨hs, h⟩ := key (fun r => r = .ret (.bool (hasI (o a) b))) fun v hv => by rw [hv]
    exact ⟨hs, h⟩
  · cases hx
    intro cs hcs
    cases hcs
end Go.Ab
/- package horse: matching: one job's search. -/
set_option maxRecDepth 100000
namespace Go.Ab
open Go Go.RowKit Go.Proofs
theorem b95n (a i n c : Nat) (u1 u2 u3 u4 : Int) (f : Nat → Mv) (q : Nat → Nat) (js : List Value) (tr : Int) (es es3 : List (Value × Value)) (o : Nat → Int) (R : Nat → AExit → Hw → Prop) : (vx.code none (.l p95) (leafW [T95, R95] R) (T95.inst (st95 o n c js [I u1, I u2, I u3, I u4, I a] tr es i)) ([(0, .split ((1, .val (.pointer (.some ⟨((5 : Nat)), ((0 : Nat) + i * (5 : Nat)), .none⟩))) :: (0, .val (.agg ⟨[(.int .i64 ((f i).at_)), (.int .i64 ((f i).place)), (.int .i64 ((f i).lo)), (.int .i64 ((f i).hi)), (.int .i64 ((↑(q i) : Int)))]⟩)) :: (9, .val (.int .i64 (tr / (2 : Int) ^ (↑(q i) : Int).toNat))) :: [(1, .split ([(6, .tm 0 [])]) ((5, .con (C77 o u1 u2 u3 u4 a (f i).at_ (f i).place (f i).lo (f i).hi (q i))) :: [(0, .split ([(4, .tm 0 [])]) ((8, .val (.int .i64 (IntKind.i64.wrap ((1 : Int) * (2 : Int) ^ (↑(q i) : Int).toNat)))) :: (1, .again) :: (0, .con (C74 tr (oneI (q i)))) :: (3, .val (.tuple ⟨[(.agg ⟨[(.int .i64 0), (.int .i64 0), (.int .i64 0), (.int .i64 0), (.int .i64 0)]⟩), (.bool false)]⟩)) :: (14, .mset es3) :: [(1, .tm 1 [])]))]))]) ([(1, .tm 0 [])]))])) =
((((decide ((↑i : Int) < (↑n : Int))) = true → ((((((0 : Int) ≤ (↑i : Int))) ∧ (((↑i : Int) < (↑n : Int)))) ∧ (((.pointer (.some ⟨((5 : Nat)), ((0 : Nat) + i * (5 : Nat)), .none⟩)) : Value) = (.pointer (.some ⟨((5 : Nat)), ((0 : Nat) + i * (5 : Nat)), .none⟩)))) ∧
(((((0 : Nat) + i * (5 : Nat) + (5 : Nat) ≤ js.length)) ∧ (((.agg ⟨[(.int .i64 ((f i).at_)), (.int .i64 ((f i).place)), (.int .i64 ((f i).lo)), (.int .i64 ((f i).hi)), (.int .i64 ((↑(q i) : Int)))]⟩) : Value) = (.agg ⟨(List.take ((5 : Nat)) (List.drop ((0 : Nat) + i * (5 : Nat)) (js)))⟩))) ∧
((((((0 : Int) ≤ (↑(q i) : Int))) ∧ (((↑(q i) : Int) ≤ (↑(64 : Nat) : Int)))) ∧ (((.int .i64 (tr / (2 : Int) ^ (↑(q i) : Int).toNat)) : Value) = (.int .i64 (tr / (2 : Int) ^ (↑(q i) : Int).toNat)))) ∧
(((bits BinOp.and IntKind.i64 (tr / (2 : Int) ^ (↑(q i) : Int).toNat) (1 : Int) == (1 : Int)) = true → R 0 .normal ⟨⟨[(.int .i64 n), (.int .i64 (IntKind.i64.wrap ((↑i : Int) + (1 : Int)))), (.int .i64 (o (0 : Nat))), (.int .i64 (o (1 : Nat))), (.int .i64 (o (2 : Nat))), (.int .i64 (o (3 : Nat))), (.int .i64 (o (4 : Nat))), (.int .i64 (o (5 : Nat))), (.int .i64 (o (6 : Nat)))], [⟨n, c⟩, ⟨n, c⟩]⟩, [[(.int .i64 tr)], (js), [(.int .i64 u1), (.int .i64 u2), (.int .i64 u3), (.int .i64 u4), (.int .i64 a)]], [(es)]⟩) ∧
((bits BinOp.and IntKind.i64 (tr / (2 : Int) ^ (↑(q i) : Int).toNat) (1 : Int) == (1 : Int)) = false → ((ConOK Try.prog (OfNat.ofNat (77 : Nat)) (C77 o u1 u2 u3 u4 a (f i).at_ (f i).place (f i).lo (f i).hi (q i))) ∧ (Con.pre (C77 o u1 u2 u3 u4 a (f i).at_ (f i).place (f i).lo (f i).hi (q i)) ⟨⟨[(.int .i64 (o (0 : Nat))), (.int .i64 (o (1 : Nat))), (.int .i64 (o (2 : Nat))), (.int .i64 (o (3 : Nat))), (.int .i64 (o (4 : Nat))), (.int .i64 (o (5 : Nat))), (.int .i64 (o (6 : Nat))), (.int .i64 u1), (.int .i64 u2), (.int .i64 u3), (.int .i64 u4), (.int .i64 a), (.int .i64 ((f i).at_)), (.int .i64 ((f i).place)), (.int .i64 ((f i).lo)), (.int .i64 ((f i).hi)), (.int .i64 ((↑(q i) : Int)))], []⟩, []⟩) ∧
(((!hasI (o a) (q i)) = true → R 0 .normal ⟨⟨[(.int .i64 n), (.int .i64 (IntKind.i64.wrap ((↑i : Int) + (1 : Int)))), (.int .i64 (o (0 : Nat))), (.int .i64 (o (1 : Nat))), (.int .i64 (o (2 : Nat))), (.int .i64 (o (3 : Nat))), (.int .i64 (o (4 : Nat))), (.int .i64 (o (5 : Nat))), (.int .i64 (o (6 : Nat)))], [⟨n, c⟩, ⟨n, c⟩]⟩, [[(.int .i64 tr)], (js), [(.int .i64 u1), (.int .i64 u2), (.int .i64 u3), (.int .i64 u4), (.int .i64 a)]], [(es)]⟩) ∧
((!hasI (o a) (q i)) = false → ((((((0 : Int) ≤ (↑(q i) : Int))) ∧ (((↑(q i) : Int) ≤ (↑(64 : Nat) : Int)))) ∧ (((.int .i64 (IntKind.i64.wrap ((1 : Int) * (2 : Int) ^ (↑(q i) : Int).toNat))) : Value) = (.int .i64 (IntKind.i64.wrap ((1 : Int) * (2 : Int) ^ (↑(q i) : Int).toNat))))) ∧
(((((some (.int .i64 tr) : Option Value) = some (.int .i64 tr))) ∧ (True)) ∧
((ConOK Try.prog 74 (C74 tr (oneI (q i)))) ∧ (Con.pre (C74 tr (oneI (q i))) ⟨⟨[], [⟨((2 : Nat)), ((2 : Nat))⟩]⟩, [[(.int .i64 tr), (.int .i64 (IntKind.i64.wrap ((1 : Int) * (2 : Int) ^ (↑(q i) : Int).toNat)))]]⟩) ∧
((LookC Try.prog (OfNat.ofNat (97 : Nat)) (.agg ⟨[(.int .i64 0), (.int .i64 0), (.int .i64 0), (.int .i64 0), (.int .i64 0)]⟩) (es) (.agg ⟨[(.int .i64 ((f i).at_)), (.int .i64 ((f i).place)), (.int .i64 ((f i).lo)), (.int .i64 ((f i).hi)), (.int .i64 ((↑(q i) : Int)))]⟩) true (.tuple ⟨[(.agg ⟨[(.int .i64 0), (.int .i64 0), (.int .i64 0), (.int .i64 0), (.int .i64 0)]⟩), (.bool false)]⟩)) ∧
((SetC Try.prog (OfNat.ofNat (97 : Nat)) (es) (.agg ⟨[(.int .i64 ((f i).at_)), (.int .i64 ((f i).place)), (.int .i64 ((f i).lo)), (.int .i64 ((f i).hi)), (.int .i64 ((↑(q i) : Int)))]⟩) (.agg ⟨[(.int .i64 u1), (.int .i64 u2), (.int .i64 u3), (.int .i64 u4), (.int .i64 a)]⟩) (es3)) ∧
R 1 .ret ⟨⟨[(.bool true)], []⟩, [[(.int .i64 (joinI tr (oneI (q i))))]], [(es3)]⟩)))))))))))))) ∧
((decide ((↑i : Int) < (↑n : Int))) = false → R 0 (.exit ((0 : Nat))) ⟨⟨[(.int .i64 n), (.int .i64 i), (.int .i64 (o (0 : Nat))), (.int .i64 (o (1 : Nat))), (.int .i64 (o (2 : Nat))), (.int .i64 (o (3 : Nat))), (.int .i64 (o (4 : Nat))), (.int .i64 (o (5 : Nat))), (.int .i64 (o (6 : Nat)))], [⟨n, c⟩, ⟨n, c⟩]⟩, [[(.int .i64 tr)], (js), [(.int .i64 u1), (.int .i64 u2), (.int .i64 u3), (.int .i64 u4), (.int .i64 a)]], [(es)]⟩))) := by kernel_rfl
theorem b95t (a i n c : Nat) (u1 u2 u3 u4 v1 v2 v3 v4 : Int) (d : Nat) (f : Nat → Mv) (q : Nat → Nat) (js : List Value) (tr tr2 : Int) (es es2 es3 : List (Value × Value)) (o : Nat → Int) (R : Nat → AExit → Hw → Prop) : (vx.code none (.l p95) (leafW [T95, R95] R) (T95.inst (st95 o n c js [I u1, I u2, I u3, I u4, I a] tr es i)) ([(0, .split ((1, .val (.pointer (.some ⟨((5 : Nat)), ((0 : Nat) + i * (5 : Nat)), .none⟩))) :: (0, .val (.agg ⟨[(.int .i64 ((f i).at_)), (.int .i64 ((f i).place)), (.int .i64 ((f i).lo)), (.int .i64 ((f i).hi)), (.int .i64 ((↑(q i) : Int)))]⟩)) :: (9, .val (.int .i64 (tr / (2 : Int) ^ (↑(q i) : Int).toNat))) :: [(1, .split ([(6, .tm 0 [])]) ((5, .con (C77 o u1 u2 u3 u4 a (f i).at_ (f i).place (f i).lo (f i).hi (q i))) :: [(0, .split ([(4, .tm 0 [])]) ((8, .val (.int .i64 (IntKind.i64.wrap ((1 : Int) * (2 : Int) ^ (↑(q i) : Int).toNat)))) :: (1, .again) :: (0, .con (C74 tr (oneI (q i)))) :: (3, .val (.tuple ⟨[(.agg ⟨[(.int .i64 v1), (.int .i64 v2), (.int .i64 v3), (.int .i64 v4), (.int .i64 d)]⟩), (.bool true)]⟩)) :: (11, .conW (CW95 o n c js v1 v2 v3 v4 d (joinI tr (oneI (q i))) es true tr2 es2)) :: (5, .mset es3) :: [(1, .tm 1 [])]))]))]) ([(1, .tm 0 [])]))])) =
((((decide ((↑i : Int) < (↑n : Int))) = true → ((((((0 : Int) ≤ (↑i : Int))) ∧ (((↑i : Int) < (↑n : Int)))) ∧ (((.pointer (.some ⟨((5 : Nat)), ((0 : Nat) + i * (5 : Nat)), .none⟩)) : Value) = (.pointer (.some ⟨((5 : Nat)), ((0 : Nat) + i * (5 : Nat)), .none⟩)))) ∧
(((((0 : Nat) + i * (5 : Nat) + (5 : Nat) ≤ js.length)) ∧ (((.agg ⟨[(.int .i64 ((f i).at_)), (.int .i64 ((f i).place)), (.int .i64 ((f i).lo)), (.int .i64 ((f i).hi)), (.int .i64 ((↑(q i) : Int)))]⟩) : Value) = (.agg ⟨(List.take ((5 : Nat)) (List.drop ((0 : Nat) + i * (5 : Nat)) (js)))⟩))) ∧
((((((0 : Int) ≤ (↑(q i) : Int))) ∧ (((↑(q i) : Int) ≤ (↑(64 : Nat) : Int)))) ∧ (((.int .i64 (tr / (2 : Int) ^ (↑(q i) : Int).toNat)) : Value) = (.int .i64 (tr / (2 : Int) ^ (↑(q i) : Int).toNat)))) ∧
(((bits BinOp.and IntKind.i64 (tr / (2 : Int) ^ (↑(q i) : Int).toNat) (1 : Int) == (1 : Int)) = true → R 0 .normal ⟨⟨[(.int .i64 n), (.int .i64 (IntKind.i64.wrap ((↑i : Int) + (1 : Int)))), (.int .i64 (o (0 : Nat))), (.int .i64 (o (1 : Nat))), (.int .i64 (o (2 : Nat))), (.int .i64 (o (3 : Nat))), (.int .i64 (o (4 : Nat))), (.int .i64 (o (5 : Nat))), (.int .i64 (o (6 : Nat)))], [⟨n, c⟩, ⟨n, c⟩]⟩, [[(.int .i64 tr)], (js), [(.int .i64 u1), (.int .i64 u2), (.int .i64 u3), (.int .i64 u4), (.int .i64 a)]], [(es)]⟩) ∧
((bits BinOp.and IntKind.i64 (tr / (2 : Int) ^ (↑(q i) : Int).toNat) (1 : Int) == (1 : Int)) = false → ((ConOK Try.prog (OfNat.ofNat (77 : Nat)) (C77 o u1 u2 u3 u4 a (f i).at_ (f i).place (f i).lo (f i).hi (q i))) ∧ (Con.pre (C77 o u1 u2 u3 u4 a (f i).at_ (f i).place (f i).lo (f i).hi (q i)) ⟨⟨[(.int .i64 (o (0 : Nat))), (.int .i64 (o (1 : Nat))), (.int .i64 (o (2 : Nat))), (.int .i64 (o (3 : Nat))), (.int .i64 (o (4 : Nat))), (.int .i64 (o (5 : Nat))), (.int .i64 (o (6 : Nat))), (.int .i64 u1), (.int .i64 u2), (.int .i64 u3), (.int .i64 u4), (.int .i64 a), (.int .i64 ((f i).at_)), (.int .i64 ((f i).place)), (.int .i64 ((f i).lo)), (.int .i64 ((f i).hi)), (.int .i64 ((↑(q i) : Int)))], []⟩, []⟩) ∧
(((!hasI (o a) (q i)) = true → R 0 .normal ⟨⟨[(.int .i64 n), (.int .i64 (IntKind.i64.wrap ((↑i : Int) + (1 : Int)))), (.int .i64 (o (0 : Nat))), (.int .i64 (o (1 : Nat))), (.int .i64 (o (2 : Nat))), (.int .i64 (o (3 : Nat))), (.int .i64 (o (4 : Nat))), (.int .i64 (o (5 : Nat))), (.int .i64 (o (6 : Nat)))], [⟨n, c⟩, ⟨n, c⟩]⟩, [[(.int .i64 tr)], (js), [(.int .i64 u1), (.int .i64 u2), (.int .i64 u3), (.int .i64 u4), (.int .i64 a)]], [(es)]⟩) ∧
((!hasI (o a) (q i)) = false → ((((((0 : Int) ≤ (↑(q i) : Int))) ∧ (((↑(q i) : Int) ≤ (↑(64 : Nat) : Int)))) ∧ (((.int .i64 (IntKind.i64.wrap ((1 : Int) * (2 : Int) ^ (↑(q i) : Int).toNat))) : Value) = (.int .i64 (IntKind.i64.wrap ((1 : Int) * (2 : Int) ^ (↑(q i) : Int).toNat))))) ∧
(((((some (.int .i64 tr) : Option Value) = some (.int .i64 tr))) ∧ (True)) ∧
((ConOK Try.prog 74 (C74 tr (oneI (q i)))) ∧ (Con.pre (C74 tr (oneI (q i))) ⟨⟨[], [⟨((2 : Nat)), ((2 : Nat))⟩]⟩, [[(.int .i64 tr), (.int .i64 (IntKind.i64.wrap ((1 : Int) * (2 : Int) ^ (↑(q i) : Int).toNat)))]]⟩) ∧
((LookC Try.prog (OfNat.ofNat (97 : Nat)) (.agg ⟨[(.int .i64 0), (.int .i64 0), (.int .i64 0), (.int .i64 0), (.int .i64 0)]⟩) (es) (.agg ⟨[(.int .i64 ((f i).at_)), (.int .i64 ((f i).place)), (.int .i64 ((f i).lo)), (.int .i64 ((f i).hi)), (.int .i64 ((↑(q i) : Int)))]⟩) true (.tuple ⟨[(.agg ⟨[(.int .i64 v1), (.int .i64 v2), (.int .i64 v3), (.int .i64 v4), (.int .i64 d)]⟩), (.bool true)]⟩)) ∧
((ConWOK Try.prog (OfNat.ofNat (95 : Nat)) (CW95 o n c js v1 v2 v3 v4 d (joinI tr (oneI (q i))) es true tr2 es2)) ∧ (ConW.pre (CW95 o n c js v1 v2 v3 v4 d (joinI tr (oneI (q i))) es true tr2 es2) ⟨⟨[(.int .i64 v1), (.int .i64 v2), (.int .i64 v3), (.int .i64 v4), (.int .i64 d), (.int .i64 (o (0 : Nat))), (.int .i64 (o (1 : Nat))), (.int .i64 (o (2 : Nat))), (.int .i64 (o (3 : Nat))), (.int .i64 (o (4 : Nat))), (.int .i64 (o (5 : Nat))), (.int .i64 (o (6 : Nat)))], [⟨n, c⟩]⟩, [[(.int .i64 (joinI tr (oneI (q i))))], (js)], [(es)]⟩) ∧
((SetC Try.prog (OfNat.ofNat (97 : Nat)) (es2) (.agg ⟨[(.int .i64 ((f i).at_)), (.int .i64 ((f i).place)), (.int .i64 ((f i).lo)), (.int .i64 ((f i).hi)), (.int .i64 ((↑(q i) : Int)))]⟩) (.agg ⟨[(.int .i64 u1), (.int .i64 u2), (.int .i64 u3), (.int .i64 u4), (.int .i64 a)]⟩) (es3)) ∧
R 1 .ret ⟨⟨[(.bool true)], []⟩, [[(.int .i64 tr2)]], [(es3)]⟩))))))))))))))) ∧
((decide ((↑i : Int) < (↑n : Int))) = false → R 0 (.exit ((0 : Nat))) ⟨⟨[(.int .i64 n), (.int .i64 i), (.int .i64 (o (0 : Nat))), (.int .i64 (o (1 : Nat))), (.int .i64 (o (2 : Nat))), (.int .i64 (o (3 : Nat))), (.int .i64 (o (4 : Nat))), (.int .i64 (o (5 : Nat))), (.int .i64 (o (6 : Nat)))], [⟨n, c⟩, ⟨n, c⟩]⟩, [[(.int .i64 tr)], (js), [(.int .i64 u1), (.int .i64 u2), (.int .i64 u3), (.int .i64 u4), (.int .i64 a)]], [(es)]⟩))) := by kernel_rfl
theorem b95f (a i n c : Nat) (u1 u2 u3 u4 v1 v2 v3 v4 : Int) (d : Nat) (f : Nat → Mv) (q : Nat → Nat) (js : List Value) (tr tr2 : Int) (es es2 es3 : List (Value × Value)) (o : Nat → Int) (R : Nat → AExit → Hw → Prop) : (vx.code none (.l p95) (leafW [T95, R95] R) (T95.inst (st95 o n c js [I u1, I u2, I u3, I u4, I a] tr es i)) ([(0, .split ((1, .val (.pointer (.some ⟨((5 : Nat)), ((0 : Nat) + i * (5 : Nat)), .none⟩))) :: (0, .val (.agg ⟨[(.int .i64 ((f i).at_)), (.int .i64 ((f i).place)), (.int .i64 ((f i).lo)), (.int .i64 ((f i).hi)), (.int .i64 ((↑(q i) : Int)))]⟩)) :: (9, .val (.int .i64 (tr / (2 : Int) ^ (↑(q i) : Int).toNat))) :: [(1, .split ([(6, .tm 0 [])]) ((5, .con (C77 o u1 u2 u3 u4 a (f i).at_ (f i).place (f i).lo (f i).hi (q i))) :: [(0, .split ([(4, .tm 0 [])]) ((8, .val (.int .i64 (IntKind.i64.wrap ((1 : Int) * (2 : Int) ^ (↑(q i) : Int).toNat)))) :: (1, .again) :: (0, .con (C74 tr (oneI (q i)))) :: (3, .val (.tuple ⟨[(.agg ⟨[(.int .i64 v1), (.int .i64 v2), (.int .i64 v3), (.int .i64 v4), (.int .i64 d)]⟩), (.bool true)]⟩)) :: (11, .conW (CW95 o n c js v1 v2 v3 v4 d (joinI tr (oneI (q i))) es false tr2 es2)) :: [(4, .tm 0 [])]))]))]) ([(1, .tm 0 [])]))])) =
((((decide ((↑i : Int) < (↑n : Int))) = true → ((((((0 : Int) ≤ (↑i : Int))) ∧ (((↑i : Int) < (↑n : Int)))) ∧ (((.pointer (.some ⟨((5 : Nat)), ((0 : Nat) + i * (5 : Nat)), .none⟩)) : Value) = (.pointer (.some ⟨((5 : Nat)), ((0 : Nat) + i * (5 : Nat)), .none⟩)))) ∧
(((((0 : Nat) + i * (5 : Nat) + (5 : Nat) ≤ js.length)) ∧ (((.agg ⟨[(.int .i64 ((f i).at_)), (.int .i64 ((f i).place)), (.int .i64 ((f i).lo)), (.int .i64 ((f i).hi)), (.int .i64 ((↑(q i) : Int)))]⟩) : Value) = (.agg ⟨(List.take ((5 : Nat)) (List.drop ((0 : Nat) + i * (5 : Nat)) (js)))⟩))) ∧
((((((0 : Int) ≤ (↑(q i) : Int))) ∧ (((↑(q i) : Int) ≤ (↑(64 : Nat) : Int)))) ∧ (((.int .i64 (tr / (2 : Int) ^ (↑(q i) : Int).toNat)) : Value) = (.int .i64 (tr / (2 : Int) ^ (↑(q i) : Int).toNat)))) ∧
(((bits BinOp.and IntKind.i64 (tr / (2 : Int) ^ (↑(q i) : Int).toNat) (1 : Int) == (1 : Int)) = true → R 0 .normal ⟨⟨[(.int .i64 n), (.int .i64 (IntKind.i64.wrap ((↑i : Int) + (1 : Int)))), (.int .i64 (o (0 : Nat))), (.int .i64 (o (1 : Nat))), (.int .i64 (o (2 : Nat))), (.int .i64 (o (3 : Nat))), (.int .i64 (o (4 : Nat))), (.int .i64 (o (5 : Nat))), (.int .i64 (o (6 : Nat)))], [⟨n, c⟩, ⟨n, c⟩]⟩, [[(.int .i64 tr)], (js), [(.int .i64 u1), (.int .i64 u2), (.int .i64 u3), (.int .i64 u4), (.int .i64 a)]], [(es)]⟩) ∧
((bits BinOp.and IntKind.i64 (tr / (2 : Int) ^ (↑(q i) : Int).toNat) (1 : Int) == (1 : Int)) = false → ((ConOK Try.prog (OfNat.ofNat (77 : Nat)) (C77 o u1 u2 u3 u4 a (f i).at_ (f i).place (f i).lo (f i).hi (q i))) ∧ (Con.pre (C77 o u1 u2 u3 u4 a (f i).at_ (f i).place (f i).lo (f i).hi (q i)) ⟨⟨[(.int .i64 (o (0 : Nat))), (.int .i64 (o (1 : Nat))), (.int .i64 (o (2 : Nat))), (.int .i64 (o (3 : Nat))), (.int .i64 (o (4 : Nat))), (.int .i64 (o (5 : Nat))), (.int .i64 (o (6 : Nat))), (.int .i64 u1), (.int .i64 u2), (.int .i64 u3), (.int .i64 u4), (.int .i64 a), (.int .i64 ((f i).at_)), (.int .i64 ((f i).place)), (.int .i64 ((f i).lo)), (.int .i64 ((f i).hi)), (.int .i64 ((↑(q i) : Int)))], []⟩, []⟩) ∧
(((!hasI (o a) (q i)) = true → R 0 .normal ⟨⟨[(.int .i64 n), (.int .i64 (IntKind.i64.wrap ((↑i : Int) + (1 : Int)))), (.int .i64 (o (0 : Nat))), (.int .i64 (o (1 : Nat))), (.int .i64 (o (2 : Nat))), (.int .i64 (o (3 : Nat))), (.int .i64 (o (4 : Nat))), (.int .i64 (o (5 : Nat))), (.int .i64 (o (6 : Nat)))], [⟨n, c⟩, ⟨n, c⟩]⟩, [[(.int .i64 tr)], (js), [(.int .i64 u1), (.int .i64 u2), (.int .i64 u3), (.int .i64 u4), (.int .i64 a)]], [(es)]⟩) ∧
((!hasI (o a) (q i)) = false → ((((((0 : Int) ≤ (↑(q i) : Int))) ∧ (((↑(q i) : Int) ≤ (↑(64 : Nat) : Int)))) ∧ (((.int .i64 (IntKind.i64.wrap ((1 : Int) * (2 : Int) ^ (↑(q i) : Int).toNat))) : Value) = (.int .i64 (IntKind.i64.wrap ((1 : Int) * (2 : Int) ^ (↑(q i) : Int).toNat))))) ∧
(((((some (.int .i64 tr) : Option Value) = some (.int .i64 tr))) ∧ (True)) ∧
((ConOK Try.prog 74 (C74 tr (oneI (q i)))) ∧ (Con.pre (C74 tr (oneI (q i))) ⟨⟨[], [⟨((2 : Nat)), ((2 : Nat))⟩]⟩, [[(.int .i64 tr), (.int .i64 (IntKind.i64.wrap ((1 : Int) * (2 : Int) ^ (↑(q i) : Int).toNat)))]]⟩) ∧
((LookC Try.prog (OfNat.ofNat (97 : Nat)) (.agg ⟨[(.int .i64 0), (.int .i64 0), (.int .i64 0), (.int .i64 0), (.int .i64 0)]⟩) (es) (.agg ⟨[(.int .i64 ((f i).at_)), (.int .i64 ((f i).place)), (.int .i64 ((f i).lo)), (.int .i64 ((f i).hi)), (.int .i64 ((↑(q i) : Int)))]⟩) true (.tuple ⟨[(.agg ⟨[(.int .i64 v1), (.int .i64 v2), (.int .i64 v3), (.int .i64 v4), (.int .i64 d)]⟩), (.bool true)]⟩)) ∧
((ConWOK Try.prog (OfNat.ofNat (95 : Nat)) (CW95 o n c js v1 v2 v3 v4 d (joinI tr (oneI (q i))) es false tr2 es2)) ∧ (ConW.pre (CW95 o n c js v1 v2 v3 v4 d (joinI tr (oneI (q i))) es false tr2 es2) ⟨⟨[(.int .i64 v1), (.int .i64 v2), (.int .i64 v3), (.int .i64 v4), (.int .i64 d), (.int .i64 (o (0 : Nat))), (.int .i64 (o (1 : Nat))), (.int .i64 (o (2 : Nat))), (.int .i64 (o (3 : Nat))), (.int .i64 (o (4 : Nat))), (.int .i64 (o (5 : Nat))), (.int .i64 (o (6 : Nat)))], [⟨n, c⟩]⟩, [[(.int .i64 (joinI tr (oneI (q i))))], (js)], [(es)]⟩) ∧
R 0 .normal ⟨⟨[(.int .i64 n), (.int .i64 (IntKind.i64.wrap ((↑i : Int) + (1 : Int)))), (.int .i64 (o (0 : Nat))), (.int .i64 (o (1 : Nat))), (.int .i64 (o (2 : Nat))), (.int .i64 (o (3 : Nat))), (.int .i64 (o (4 : Nat))), (.int .i64 (o (5 : Nat))), (.int .i64 (o (6 : Nat)))], [⟨n, c⟩, ⟨n, c⟩]⟩, [[(.int .i64 tr2)], (js), [(.int .i64 u1), (.int .i64 u2), (.int .i64 u3), (.int .i64 u4), (.int .i64 a)]], [(es2)]⟩)))))))))))))) ∧
((decide ((↑i : Int) < (↑n : Int))) = false → R 0 (.exit ((0 : Nat))) ⟨⟨[(.int .i64 n), (.int .i64 i), (.int .i64 (o (0 : Nat))), (.int .i64 (o (1 : Nat))), (.int .i64 (o (2 : Nat))), (.int .i64 (o (3 : Nat))), (.int .i64 (o (4 : Nat))), (.int .i64 (o (5 : Nat))), (.int .i64 (o (6 : Nat)))], [⟨n, c⟩, ⟨n, c⟩]⟩, [[(.int .i64 tr)], (js), [(.int .i64 u1), (.int .i64 u2), (.int .i64 u3), (.int .i64 u4), (.int .i64 a)]], [(es)]⟩))) := by kernel_rfl
noncomputable def encJ (f : Nat → Mv) (q : Nat → Nat) (M : List (Nat × Nat)) : List (Value × Value) := M.map fun e => (jU f q e.1, jU f q e.2)
theorem aEq97' (a1 a2 a3 a4 a5 b1 b2 b3 b4 b5 : Int) : aEq Try.prog 97 (.agg ⟨[I a1, I a2, I a3, I a4, I a5]⟩) (.agg ⟨[I b1, I b2, I b3, I b4, I b5]⟩) = some (a1 == b1 && (a2 == b2 && (a3 == b3 && (a4 == b4 && (a5 == b5 && true))))) := by kernel_rfl
theorem aEqJ {f : Nat → Mv} {q : Nat → Nat} {n : Nat} (hq : ∀ i j, i < n → j < n → q i = q j → i = j) {i j : Nat} (hi : i < n) (hj : j < n) : aEq Try.prog 97 (jU f q i) (jU f q j) = some (decide (i = j)) := by
  refine (aEq97' _ _ _ _ _ _ _ _ _ _).trans ?_
  by_cases h : i = j
  · subst h
    simp
  · have : ¬ ((q i : Nat) : Int) = ((q j : Nat) : Int) := fun e => h (hq i j hi hj (by omega))
    simp [h, this]
def fndN : List (Nat × Nat) → Nat → Nat → Option (Nat × Nat)
  | [], _, _ => none
  | e :: l, h, i => if h = e.1 then some (i, e.2) else fndN l h (i + 1)
theorem findA_J {f : Nat → Mv} {q : Nat → Nat} {n : Nat} (hq : ∀ i j, i < n → j < n → q i = q j → i = j) (M : List (Nat × Nat)) (hM : ∀ e ∈ M, e.1 < n ∧ e.2 < n) {h : Nat} (hh : h < n) (i : Nat) : findA Try.prog 97 (jU f q h) (encJ f q M) i = some ((fndN M h i).map fun x => (x.1, jU f q x.2)) := by
  induction M generalizing i with
  | nil => rfl
  | cons e l ih =>
    simp only [encJ, List.map_cons, findA, fndN, aEqJ hq hh (hM e List.mem_cons_self).1, Option.bind_some]
    by_cases he : h = e.1
    · simp [he]
    · simp only [he, decide_false, cond_false, if_false]
      exact ih (fun e he => hM e (List.mem_cons_of_mem _ he)) (i + 1)
theorem fndN_get (M : List (Nat × Nat)) (h i : Nat) : (fndN M h i).map (·.2) = getN M h := by
  induction M generalizing i with
  | nil => rfl
  | cons e l ih =>
    simp only [fndN, getN]
    split
    · rfl
    · exact ih (i + 1)
theorem fndN_none {M : List (Nat × Nat)} {h i : Nat} (hf : fndN M h i = none) (a : Nat) : setN M h a = M ++ [(h, a)] := by
  induction M generalizing i with
  | nil => rfl
  | cons e l ih =>
    simp only [fndN] at hf
    split at hf
    · cases hf
    · rename_i he
      simp only [setN, if_neg he, ih hf, List.cons_append]
theorem fndN_some {M : List (Nat × Nat)} {h i j b : Nat} (hf : fndN M h i = some (j, b)) (a : Nat) : ∃ d, j = i + d ∧ M[d]? = some (h, b) ∧ setN M h a = M.set d (h, a) := by
  induction M generalizing i with
  | nil => cases hf
  | cons e l ih =>
    simp only [fndN] at hf
    split at hf
    · rename_i he
      cases hf
      exact ⟨0, rfl, by simp [he], by simp [setN, he]⟩
    · rename_i he
      obtain ⟨d, h1, h2, h3⟩ := ih hf
      exact ⟨d + 1, by omega, by simpa using h2, by simp only [setN, if_neg he, h3, List.set_cons_succ]⟩
section
variable {f : Nat → Mv} {q : Nat → Nat} {n : Nat}
theorem lookC_J (hq : ∀ i j, i < n → j < n → q i = q j → i = j) {M : List (Nat × Nat)} (hM : ∀ e ∈ M, e.1 < n ∧ e.2 < n) {h : Nat} (hh : h < n) {z v : Value} {ok : Bool} (hv : v = lookR z ok ((getN M h).map fun a => (0, jU f q a))) : LookC Try.prog 97 z (encJ f q M) (jU f q h) ok v := by
  refine ⟨?_⟩
  rw [findA_J hq M hM hh, Option.bind_some, hv]
  have := fndN_get M h 0
  cases hf : fndN M h 0 with
  | none => rw [hf] at this; rw [← this]; rfl
  | some x => rw [hf] at this; rw [← this]; rfl
theorem flat_J (a : Nat) : flat (jU f q a) = true := rfl
theorem same_J (a : Nat) : Instr.sameBits 10000 (jU f q a) (jU f q a) = true := by
  simp [Instr.sameBits, jU, jobU, I]
theorem setC_J (hq : ∀ i j, i < n → j < n → q i = q j → i = j) {M : List (Nat × Nat)} (hM : ∀ e ∈ M, e.1 < n ∧ e.2 < n) {h : Nat} (hh : h < n) (a : Nat) : SetC Try.prog 97 (encJ f q M) (jU f q h) (jU f q a) (encJ f q (setN M h a)) := by
  refine ⟨?_⟩
  rw [findA_J hq M hM hh, Option.bind_some]
  cases hf : fndN M h 0 with
  | none =>
    simp only [Option.map_none, fndN_none hf a, encJ, List.map_append, List.map_cons, List.map_nil]
  | some x =>
    obtain ⟨j, b⟩ := x
    obtain ⟨d, h1, h2, h3⟩ := fndN_some hf a
    have hj : j = d := by omega
    subst hj
    have h4 : (encJ f q M)[j]? = some (jU f q h, jU f q b) := by simp only [encJ, List.getElem?_map, h2, Option.map_some]
    simp only [Option.map_some, h4, same_J, h3, and_true]
    rw [if_pos ⟨rfl, rfl⟩]
    simp only [encJ, List.map_set]
theorem encJ_cl (M : List (Nat × Nat)) : ∀ e ∈ encJ f q M, cl 50 e.1 = true ∧ cl 50 e.2 = true := by
  intro e hm
  simp only [encJ, List.mem_map] at hm
  obtain ⟨x, _, rfl⟩ := hm
  exact ⟨rfl, rfl⟩
end
theorem jobsU_len (m : Nat) (f : Nat → Mv) (q : Nat → Nat) : (jobsU m f q).length = m * 5 := flatC_len fun i _ => rfl
theorem jobsU_part {n i : Nat} (f : Nat → Mv) (q : Nat → Nat) (h : i < n) : ((jobsU n f q).drop (0 + i * 5)).take 5 = jobU f q i := by
  rw [Nat.zero_add]; exact flatC_part (k := 5) (fun i _ => rfl) h
theorem jobU_at (f : Nat → Mv) (q : Nat → Nat) (i : Nat) : ∀ v ∈ jobU f q i, atomic v = true := by
  intro v hv
  simp only [jobU, List.mem_cons, List.not_mem_nil, or_false] at hv
  rcases hv with rfl | rfl | rfl | rfl | rfl <;> rfl
theorem jobsU_at (n : Nat) (f : Nat → Mv) (q : Nat → Nat) : ∀ v ∈ jobsU n f q, atomic v = true := flatC_atomic fun i _ v hv => jobU_at f q i v hv
theorem joinT (T j : Nat) (hT : T < 128) (hj : j < 7) : joinI (T : Int) (oneI j) = ((T ||| 2 ^ j : Nat) : Int) := by
  have hp : 2 ^ j < 2 ^ 7 := Nat.pow_lt_pow_right (by omega) hj
  rw [one_nat j (by omega), joinI]
  have e0 : bits .or .i64 0 (T : Int) = (T : Int) := by
    have := or_nat 0 T (by decide) (by omega)
    simpa using this
  rw [e0, or_nat _ _ (by omega) (by omega)]
end Go.Ab
/- package horse: matching: one job's search, its contract. -/
set_option maxRecDepth 100000
namespace Go.Ab
open Go Go.RowKit Go.Proofs
theorem f95t (a n c : Nat) (u1 u2 u3 u4 : Int) (js : List Value) (tr tr2 : Int) (es es2 : List (Value × Value)) (o : Nat → Int) (R : ARes → List WB → Prop) : (vx.call 95 [.agg ⟨[I u1, I u2, I u3, I u4, I a]⟩, pN 0, pN 1, pN 2, pN 3, pN 4] (retW bs95 R) (m95 o n c js tr es) ((6, .loopW T95 AExit.ret R95 fun x => { hs := { vs := [Value.bool true], ns := [] }, ls := [[I tr2]], es := [es2] }) :: [])) =
(((ClW ⟨⟨[(.int .i64 n), (.int .i64 0), (.int .i64 (o (0 : Nat))), (.int .i64 (o (1 : Nat))), (.int .i64 (o (2 : Nat))), (.int .i64 (o (3 : Nat))), (.int .i64 (o (4 : Nat))), (.int .i64 (o (5 : Nat))), (.int .i64 (o (6 : Nat)))], [⟨n, c⟩, ⟨n, c⟩]⟩, [[(.int .i64 tr)], (js), [(.int .i64 u1), (.int .i64 u2), (.int .i64 u3), (.int .i64 u4), (.int .i64 a)]], [(es)]⟩) ∧ (LoopOW Try.prog .none p95 (T95) ⟨⟨[(.int .i64 n), (.int .i64 0), (.int .i64 (o (0 : Nat))), (.int .i64 (o (1 : Nat))), (.int .i64 (o (2 : Nat))), (.int .i64 (o (3 : Nat))), (.int .i64 (o (4 : Nat))), (.int .i64 (o (5 : Nat))), (.int .i64 (o (6 : Nat)))], [⟨n, c⟩, ⟨n, c⟩]⟩, [[(.int .i64 tr)], (js), [(.int .i64 u1), (.int .i64 u2), (.int .i64 u3), (.int .i64 u4), (.int .i64 a)]], [(es)]⟩ .ret (R95) ⟨⟨[(.bool true)], []⟩, [[(.int .i64 tr2)]], [(es2)]⟩) ∧
R (.ret (.bool true)) [(.lst [(.int .i64 tr2)]), (.mp (es2))])) := by kernel_rfl
theorem f95f (a n c : Nat) (u1 u2 u3 u4 : Int) (js : List Value) (tr tr2 : Int) (es es2 : List (Value × Value)) (o : Nat → Int) (R : ARes → List WB → Prop) : (vx.call 95 [.agg ⟨[I u1, I u2, I u3, I u4, I a]⟩, pN 0, pN 1, pN 2, pN 3, pN 4] (retW bs95 R) (m95 o n c js tr es) ((6, .loopW T95 (AExit.exit (0 : Nat)) T95 fun x => st95 o n c js [I u1, I u2, I u3, I u4, I (↑a : Int)] tr2 es2 n) :: [])) =
(((ClW ⟨⟨[(.int .i64 n), (.int .i64 0), (.int .i64 (o (0 : Nat))), (.int .i64 (o (1 : Nat))), (.int .i64 (o (2 : Nat))), (.int .i64 (o (3 : Nat))), (.int .i64 (o (4 : Nat))), (.int .i64 (o (5 : Nat))), (.int .i64 (o (6 : Nat)))], [⟨n, c⟩, ⟨n, c⟩]⟩, [[(.int .i64 tr)], (js), [(.int .i64 u1), (.int .i64 u2), (.int .i64 u3), (.int .i64 u4), (.int .i64 a)]], [(es)]⟩) ∧ (LoopOW Try.prog .none p95 (T95) ⟨⟨[(.int .i64 n), (.int .i64 0), (.int .i64 (o (0 : Nat))), (.int .i64 (o (1 : Nat))), (.int .i64 (o (2 : Nat))), (.int .i64 (o (3 : Nat))), (.int .i64 (o (4 : Nat))), (.int .i64 (o (5 : Nat))), (.int .i64 (o (6 : Nat)))], [⟨n, c⟩, ⟨n, c⟩]⟩, [[(.int .i64 tr)], (js), [(.int .i64 u1), (.int .i64 u2), (.int .i64 u3), (.int .i64 u4), (.int .i64 a)]], [(es)]⟩ (.exit ((0 : Nat))) (T95) ⟨⟨[(.int .i64 n), (.int .i64 n), (.int .i64 (o (0 : Nat))), (.int .i64 (o (1 : Nat))), (.int .i64 (o (2 : Nat))), (.int .i64 (o (3 : Nat))), (.int .i64 (o (4 : Nat))), (.int .i64 (o (5 : Nat))), (.int .i64 (o (6 : Nat)))], [⟨n, c⟩, ⟨n, c⟩]⟩, [[(.int .i64 tr2)], (js), [(.int .i64 u1), (.int .i64 u2), (.int .i64 u3), (.int .i64 u4), (.int .i64 a)]], [(es2)]⟩) ∧
R (.ret (.bool false)) [(.lst [(.int .i64 tr2)]), (.mp (es2))])) := by kernel_rfl
section
variable (o : Nat → Int) (n c : Nat) (f : Nat → Mv) (q : Nat → Nat)
def canO (i j : Nat) : Bool := hasI (o (q i)) (q j)
noncomputable def stM (a i : Nat) (σ : Ms) : Hw := st95 o n c (jobsU n f q) (jobU f q a) σ.T (encJ f q σ.M) i
noncomputable def outM (a i : Nat) (x : Bool × Ms) : AExit × Nat × Hw := match x with
  | (true, σ) => (.ret, 1, ⟨⟨[.bool true], []⟩, [[I (σ.T : Nat)]], [encJ f q σ.M]⟩)
  | (false, σ) => (.exit 0, 0, stM o n c f q a i σ)
noncomputable def C95 (a : Nat) (σ : Ms) (r : Bool × Ms) : ConW := CW95 o n c (jobsU n f q) (f a).at_ (f a).place (f a).lo (f a).hi (q a) σ.T (encJ f q σ.M) r.1 r.2.T (encJ f q r.2.M)
variable {o n c f q}
theorem clM (a i : Nat) (σ : Ms) : ClW (stM o n c f q a i σ) := by
  refine ⟨fun cs hcs v hv => ?_, fun es hes e he => ?_⟩
  · simp only [stM, st95, List.mem_cons, List.not_mem_nil, or_false] at hcs
    rcases hcs with rfl | rfl | rfl
    · simp only [List.mem_cons, List.not_mem_nil, or_false] at hv; subst hv; rfl
    · exact jobsU_at n f q v hv
    · exact jobU_at f q a v hv
  · simp only [stM, st95, List.mem_cons, List.not_mem_nil, or_false] at hes
    subst hes
    exact encJ_cl σ.M e he
theorem clMR (T : Nat) (M : List (Nat × Nat)) : ClW ⟨⟨[.bool true], []⟩, [[I (T : Nat)]], [encJ f q M]⟩ := by
  refine ⟨fun cs hcs v hv => ?_, fun es hes e he => ?_⟩
  · simp only [List.mem_cons, List.not_mem_nil, or_false] at hcs
    subst hcs
    simp only [List.mem_cons, List.not_mem_nil, or_false] at hv; subst hv; rfl
  · simp only [List.mem_cons, List.not_mem_nil, or_false] at hes
    subst hes
    exact encJ_cl M e he
theorem round95 (hn : n ≤ 7) (hq : ∀ i j, i < n → j < n → q i = q j → i = j) (hq7 : ∀ i, i < n → q i < 7) {k a i : Nat} {σ : Ms} (ha : a < n) (hσ : MsOK n σ) (hu : unt q n σ < k + 1)
    (ih : ∀ a σ, a < n → MsOK n σ → unt q n σ < k → ConWOK Try.prog 95 (C95 o n c f q a σ (matchF (canO o q) q n k a σ)))
    {R : Nat → AExit → Hw → Prop}
    (h1 : i < n → ∀ σ', MsOK n σ' → unt q n σ' ≤ unt q n σ → goF (canO o q) q (matchF (canO o q) q n k) a (n - i) i σ = goF (canO o q) q (matchF (canO o q) q n k) a (n - (i + 1)) (i + 1) σ' → R 0 .normal (stM o n c f q a (i + 1) σ'))
    (h2 : i < n → ∀ σ', goF (canO o q) q (matchF (canO o q) q n k) a (n - i) i σ = (true, σ') → R 1 .ret ⟨⟨[.bool true], []⟩, [[I (σ'.T : Nat)]], [encJ f q σ'.M]⟩)
    (h3 : ¬ i < n → R 0 (.exit 0) (stM o n c f q a i σ)) :
    ∃ hs, vx.code none (.l p95) (leafW [T95, R95] R) (T95.inst (stM o n c f q a i σ)) hs := by
  by_cases hi : i < n
  · have hw : IntKind.i64.wrap ((i : Int) + 1) = ((i + 1 : Nat) : Int) := wrapI (by omega) (by omega)
    have e1 : n - i = (n - (i + 1)) + 1 := by omega
    have hT : hasI (σ.T : Int) (q i) = σ.T.testBit (q i) := hasI_mask _ _ (by have := hσ.T; omega)
    have stp : goF (canO o q) q (matchF (canO o q) q n k) a (n - i) i σ = goF (canO o q) q (matchF (canO o q) q n k) a ((n - (i + 1)) + 1) i σ := by rw [e1]
    have hlen : 0 + i * 5 + 5 ≤ (jobsU n f q).length := by rw [jobsU_len]; have := flatC_bound (k := 5) hi; omega
    have hpart : (Value.agg ⟨[I (f i).at_, I (f i).place, I (f i).lo, I (f i).hi, I (q i : Nat)]⟩) = .agg ⟨((jobsU n f q).drop (0 + i * 5)).take 5⟩ := by rw [jobsU_part f q hi]; rfl
    have hqi := hq7 i hi
    have hqa := hq7 a ha
    have h77 := C77_ok o (f a).at_ (f a).place (f a).lo (f a).hi (q a) (f i).at_ (f i).place (f i).lo (f i).hi (q i) hqa hqi
    have skip : (σ.T.testBit (q i) || !canO o q a i) = true → R 0 .normal (stM o n c f q a (i + 1) σ) := fun hc => h1 hi σ hσ (Nat.le_refl _) (by rw [stp, goF_skip hc])
    have L1 : hasI (σ.T : Int) (q i) = true → R 0 .normal (stM o n c f q a (i + 1) σ) := fun h => skip (by rw [← hT, h]; rfl)
    have L2 : (!hasI (o (q a)) (q i)) = true → R 0 .normal (stM o n c f q a (i + 1) σ) := fun h => skip (by
      have : (!canO o q a i) = true := h
      rw [this, Bool.or_true])
    have hj := joinT σ.T (q i) hσ.T hqi
    have go : hasI (σ.T : Int) (q i) = false → (!hasI (o (q a)) (q i)) = false → (σ.T.testBit (q i) || !(canO o q a i)) = false := fun h1 h2 => by
      rw [← hT, h1]; exact h2
    cases hg : getN σ.M i with
    | none =>
      refine ⟨_, (b95n (q a) i n c (f a).at_ (f a).place (f a).lo (f a).hi f q (jobsU n f q) σ.T (encJ f q σ.M) (encJ f q (setN σ.M i a)) o R).mpr ⟨fun _ => ?_, fun h => absurd (by omega) (of_decide_eq_false h)⟩⟩
      refine ⟨⟨⟨by omega, by omega⟩, rfl⟩, ⟨hlen, hpart⟩, ⟨⟨by omega, by omega⟩, rfl⟩, fun h => ?_, fun hA => ⟨h77, rfl, fun h => ?_, fun hB => ?_⟩⟩
      · rw [hw]; exact L1 h
      · rw [hw]; exact L2 h
      · refine ⟨⟨⟨by omega, by omega⟩, rfl⟩, ⟨rfl, trivial⟩, C74_ok _ _, rfl, lookC_J hq hσ.keys hi (by rw [hg]; rfl), setC_J hq hσ.keys hi a, ?_⟩
        have := h2 hi (putN (markN q σ i) i a) (by rw [stp, goF_none (go hA hB) hg])
        simp only [putN, markN] at this
        rw [hj]
        exact this
    | some b =>
      have hb := hσ.get hg
      have hmk := hσ.mark hq7 hi
      have hlt : hasI (σ.T : Int) (q i) = false → unt q n (markN q σ i) < k := fun hA => by
        have := unt_mark (q := q) (n := n) hi (σ := σ) (by rw [← hT]; exact hA)
        omega
      have hS := (matchF_steps (can := canO o q) hq7 k).ok b (markN q σ i) hb hmk
      have hMo := (matchF_steps (can := canO o q) hq7 k).mono b (markN q σ i)
      have hC := ih b (markN q σ i) hb hmk
      generalize hr : matchF (canO o q) q n k b (markN q σ i) = r at hS hC hMo
      obtain ⟨rb, σ2⟩ := r
      simp only [C95, markN] at hC
      cases rb with
      | true =>
        refine ⟨_, (b95t (q a) i n c (f a).at_ (f a).place (f a).lo (f a).hi (f b).at_ (f b).place (f b).lo (f b).hi (q b) f q (jobsU n f q) σ.T σ2.T (encJ f q σ.M) (encJ f q σ2.M) (encJ f q (setN σ2.M i a)) o R).mpr ⟨fun _ => ?_, fun h => absurd (by omega) (of_decide_eq_false h)⟩⟩
        refine ⟨⟨⟨by omega, by omega⟩, rfl⟩, ⟨hlen, hpart⟩, ⟨⟨by omega, by omega⟩, rfl⟩, fun h => ?_, fun hA => ⟨h77, rfl, fun h => ?_, fun hB => ?_⟩⟩
        · rw [hw]; exact L1 h
        · rw [hw]; exact L2 h
        · refine ⟨⟨⟨by omega, by omega⟩, rfl⟩, ⟨rfl, trivial⟩, C74_ok _ _, rfl, lookC_J hq hσ.keys hi (by rw [hg]; rfl), by rw [hj]; exact hC (hlt hA), rfl, setC_J hq hS.keys hi a, ?_⟩
          exact h2 hi (putN σ2 i a) (by rw [stp, goF_true (go hA hB) hg hr])
      | false =>
        refine ⟨_, (b95f (q a) i n c (f a).at_ (f a).place (f a).lo (f a).hi (f b).at_ (f b).place (f b).lo (f b).hi (q b) f q (jobsU n f q) σ.T σ2.T (encJ f q σ.M) (encJ f q σ2.M) [] o R).mpr ⟨fun _ => ?_, fun h => absurd (by omega) (of_decide_eq_false h)⟩⟩
        refine ⟨⟨⟨by omega, by omega⟩, rfl⟩, ⟨hlen, hpart⟩, ⟨⟨by omega, by omega⟩, rfl⟩, fun h => ?_, fun hA => ⟨h77, rfl, fun h => ?_, fun hB => ?_⟩⟩
        · rw [hw]; exact L1 h
        · rw [hw]; exact L2 h
        · refine ⟨⟨⟨by omega, by omega⟩, rfl⟩, ⟨rfl, trivial⟩, C74_ok _ _, rfl, lookC_J hq hσ.keys hi (by rw [hg]; rfl), by rw [hj]; exact hC (hlt hA), rfl, ?_⟩
          rw [hw]
          exact h1 hi σ2 hS (unt_mono fun j hj => hMo j (mark_mono σ i j hj)) (by rw [stp, goF_false (go hA hB) hg hr])
  · refine ⟨_, (b95n (q a) i n c (f a).at_ (f a).place (f a).lo (f a).hi f q (jobsU n f q) σ.T (encJ f q σ.M) [] o R).mpr ⟨fun h => absurd (of_decide_eq_true h) (by omega), fun _ => h3 hi⟩⟩
theorem outM_next {a i : Nat} {σ : Ms} (x : Bool × Ms) (hx : x.1 = true) : outM o n c f q a i x = (.ret, 1, ⟨⟨[.bool true], []⟩, [[I (x.2.T : Nat)]], [encJ f q x.2.M]⟩) := by
  obtain ⟨b, σ⟩ := x
  cases hx
  rfl
theorem loop95 (hn : n ≤ 7) (hq : ∀ i j, i < n → j < n → q i = q j → i = j) (hq7 : ∀ i, i < n → q i < 7) {k a : Nat} {σ : Ms} (ha : a < n) (hσ : MsOK n σ) (hu : unt q n σ < k + 1)
    (ih : ∀ a σ, a < n → MsOK n σ → unt q n σ < k → ConWOK Try.prog 95 (C95 o n c f q a σ (matchF (canO o q) q n k a σ)))
    {T' : Tw} (hT' : [T95, R95][(outM o n c f q a n (matchF (canO o q) q n (k + 1) a σ)).2.1]? = some T') :
    LoopOW Try.prog none p95 T95 (stM o n c f q a 0 σ) (outM o n c f q a n (matchF (canO o q) q n (k + 1) a σ)).1 T' (outM o n c f q a n (matchF (canO o q) q n (k + 1) a σ)).2.2 := by
  refine loop_vcW (Ts := [T95, R95]) (k := 8) (X := Nat × Ms) (inv := fun x => x.1 ≤ n ∧ MsOK n x.2 ∧ unt q n x.2 < k + 1) (μ := fun x => n - x.1) (st := fun x => (0, stM o n c f q a x.1 x.2))
    (out := fun x => outM o n c f q a n (goF (canO o q) q (matchF (canO o q) q n k) a (n - x.1) x.1 x.2)) rfl vx_sound ?_ (by rw [nglob]; omega) (fun x hx => ?_) (x := (0, σ)) ⟨Nat.zero_le n, hσ, hu⟩ rfl (Nat.le_of_ble_eq_true rfl) (by decide) hT'
  · intro T hT
    simp only [List.mem_cons, List.not_mem_nil, or_false] at hT
    rcases hT with rfl | rfl <;> rfl
  · obtain ⟨i, σ⟩ := x
    obtain ⟨hi, hσ, hu⟩ := hx
    obtain ⟨hs, hr⟩ := round95 (o := o) (c := c) (f := f) (i := i) hn hq hq7 ha hσ hu ih (R := RoundW (fun x : Nat × Ms => x.1 ≤ n ∧ MsOK n x.2 ∧ unt q n x.2 < k + 1) (fun x => n - x.1) (fun x => (0, stM o n c f q a x.1 x.2)) (fun x => outM o n c f q a n (goF (canO o q) q (matchF (canO o q) q n k) a (n - x.1) x.1 x.2)) (i, σ))
      (fun hlt σ' h1 h2 h3 => ⟨⟨clM a _ _, trivial⟩, .inl ⟨rfl, (i + 1, σ'), ⟨hlt, h1, Nat.lt_of_le_of_lt h2 hu⟩, by show n - (i + 1) < n - i; omega, rfl, by show outM o n c f q a n (goF (canO o q) q (matchF (canO o q) q n k) a (n - (i + 1)) (i + 1) σ') = outM o n c f q a n (goF (canO o q) q (matchF (canO o q) q n k) a (n - i) i σ); rw [h3]⟩⟩)
      (fun hlt σ' h1 => ⟨⟨clMR _ _, trivial⟩, .inr ⟨by simp, by show outM o n c f q a n (goF (canO o q) q (matchF (canO o q) q n k) a (n - i) i σ) = _; rw [h1]; rfl⟩⟩)
      (fun hge => ⟨⟨clM a _ _, trivial⟩, .inr ⟨by simp, by
        have e : i = n := by have h9 : i ≤ n := hi; omega
        subst e
        show outM o i c f q a i (goF (canO o q) q (matchF (canO o q) q i k) a (i - i) i σ) = _
        rw [Nat.sub_self]
        rfl⟩⟩)
    exact ⟨T95, hs, rfl, hr⟩
theorem C95_ok (hn : n ≤ 7) (hq : ∀ i j, i < n → j < n → q i = q j → i = j) (hq7 : ∀ i, i < n → q i < 7) (k : Nat) : ∀ a σ, a < n → MsOK n σ → unt q n σ < k → ConWOK Try.prog 95 (C95 o n c f q a σ (matchF (canO o q) q n k a σ)) := by
  induction k with
  | zero => intro a σ _ _ h; omega
  | succ k ih =>
    intro a σ ha hσ hu
    have hl := fun T' => loop95 (T' := T') (o := o) (c := c) (f := f) hn hq hq7 ha hσ hu ih
    refine conW_of vx_sound (callable 95 _ _ rfl rfl) (fun x hx => ?_) (fun x _ => ⟨rfl, fun b hb => ?_⟩) (fun x hx => ?_) (Nat.le_of_ble_eq_true rfl) (by rw [nglob]; exact Nat.zero_le _)
    · cases hx
      generalize matchF (canO o q) q n (k + 1) a σ = r at hl
      obtain ⟨b, σ'⟩ := r
      cases b with
      | true => exact ⟨_, (f95t (q a) n c (f a).at_ (f a).place (f a).lo (f a).hi (jobsU n f q) σ.T σ'.T (encJ f q σ.M) (encJ f q σ'.M) o _).mpr ⟨clM a 0 σ, hl R95 rfl, rfl, rfl⟩⟩
      | false => exact ⟨_, (f95f (q a) n c (f a).at_ (f a).place (f a).lo (f a).hi (jobsU n f q) σ.T σ'.T (encJ f q σ.M) (encJ f q σ'.M) o _).mpr ⟨clM a 0 σ, hl T95 rfl, rfl, rfl⟩⟩
    · simp only [C95, CW95, List.mem_cons, List.not_mem_nil, or_false] at hb
      rcases hb with rfl | rfl
      · intro v hv
        simp only [List.mem_cons, List.not_mem_nil, or_false] at hv
        subst hv; rfl
      · exact encJ_cl _
    · cases hx
      refine ⟨fun cs hcs v hv => ?_, fun es hes e he => ?_⟩
      · simp only [List.mem_cons, List.not_mem_nil, or_false] at hcs
        rcases hcs with rfl | rfl
        · simp only [List.mem_cons, List.not_mem_nil, or_false] at hv; subst hv; rfl
        · exact jobsU_at n f q v hv
      · simp only [List.mem_cons, List.not_mem_nil, or_false] at hes
        subst hes
        exact encJ_cl σ.M e he
end
end Go.Ab
/- package horse: matching: how few horses are enough. -/
set_option maxRecDepth 100000
namespace Go.Ab
open Go Go.RowKit Go.Proofs
theorem b83t (j n c : Nat) (f : Nat → Mv) (q : Nat → Nat) (js : List Value) (many tr tr2 : Int) (es es2 : List (Value × Value)) (o : Nat → Int) (R : Nat → AExit → Hw → Prop) : (vx.code none (.l p83) (leafW [T83] R) (T83.inst (st83 o n c js many tr es j)) ([(0, .split ((1, .val (.pointer (.some ⟨((0 : Nat)), ((0 : Nat) + j * (5 : Nat)), .none⟩))) :: (0, .val (.agg ⟨[(.int .i64 ((f j).at_)), (.int .i64 ((f j).place)), (.int .i64 ((f j).lo)), (.int .i64 ((f j).hi)), (.int .i64 ((↑(q j) : Int)))]⟩)) :: (5, .conW (CW95 o n c js (f j).at_ (f j).place (f j).lo (f j).hi (q j) (0 : Int) es true tr2 es2)) :: [(4, .tm 0 [])]) ([(1, .tm 0 [])]))])) =
((((decide ((↑j : Int) < (↑n : Int))) = true → ((((((0 : Int) ≤ (↑j : Int))) ∧ (((↑j : Int) < (↑n : Int)))) ∧ (((.pointer (.some ⟨((0 : Nat)), ((0 : Nat) + j * (5 : Nat)), .none⟩)) : Value) = (.pointer (.some ⟨((0 : Nat)), ((0 : Nat) + j * (5 : Nat)), .none⟩)))) ∧
(((((0 : Nat) + j * (5 : Nat) + (5 : Nat) ≤ js.length)) ∧ (((.agg ⟨[(.int .i64 ((f j).at_)), (.int .i64 ((f j).place)), (.int .i64 ((f j).lo)), (.int .i64 ((f j).hi)), (.int .i64 ((↑(q j) : Int)))]⟩) : Value) = (.agg ⟨(List.take ((5 : Nat)) (List.drop ((0 : Nat) + j * (5 : Nat)) (js)))⟩))) ∧
((ConWOK Try.prog (OfNat.ofNat (95 : Nat)) (CW95 o n c js (f j).at_ (f j).place (f j).lo (f j).hi (q j) (0 : Int) es true tr2 es2)) ∧ (ConW.pre (CW95 o n c js (f j).at_ (f j).place (f j).lo (f j).hi (q j) (0 : Int) es true tr2 es2) ⟨⟨[(.int .i64 ((f j).at_)), (.int .i64 ((f j).place)), (.int .i64 ((f j).lo)), (.int .i64 ((f j).hi)), (.int .i64 ((↑(q j) : Int))), (.int .i64 (o (0 : Nat))), (.int .i64 (o (1 : Nat))), (.int .i64 (o (2 : Nat))), (.int .i64 (o (3 : Nat))), (.int .i64 (o (4 : Nat))), (.int .i64 (o (5 : Nat))), (.int .i64 (o (6 : Nat)))], [⟨n, c⟩]⟩, [[(.int .i64 0)], (js)], [(es)]⟩) ∧
R 0 .normal ⟨⟨[(.int .i64 many), (.int .i64 n), (.int .i64 (IntKind.i64.wrap ((↑j : Int) + (1 : Int)))), (.int .i64 (o (0 : Nat))), (.int .i64 (o (1 : Nat))), (.int .i64 (o (2 : Nat))), (.int .i64 (o (3 : Nat))), (.int .i64 (o (4 : Nat))), (.int .i64 (o (5 : Nat))), (.int .i64 (o (6 : Nat)))], [⟨n, c⟩, ⟨n, c⟩]⟩, [(js), [(.int .i64 tr2)]], [(es2)]⟩)))) ∧
((decide ((↑j : Int) < (↑n : Int))) = false → R 0 (.exit ((0 : Nat))) ⟨⟨[(.int .i64 many), (.int .i64 n), (.int .i64 j), (.int .i64 (o (0 : Nat))), (.int .i64 (o (1 : Nat))), (.int .i64 (o (2 : Nat))), (.int .i64 (o (3 : Nat))), (.int .i64 (o (4 : Nat))), (.int .i64 (o (5 : Nat))), (.int .i64 (o (6 : Nat)))], [⟨n, c⟩, ⟨n, c⟩]⟩, [(js), [(.int .i64 tr)]], [(es)]⟩))) := by kernel_rfl
theorem b83f (j n c : Nat) (f : Nat → Mv) (q : Nat → Nat) (js : List Value) (many tr tr2 : Int) (es es2 : List (Value × Value)) (o : Nat → Int) (R : Nat → AExit → Hw → Prop) : (vx.code none (.l p83) (leafW [T83] R) (T83.inst (st83 o n c js many tr es j)) ([(0, .split ((1, .val (.pointer (.some ⟨((0 : Nat)), ((0 : Nat) + j * (5 : Nat)), .none⟩))) :: (0, .val (.agg ⟨[(.int .i64 ((f j).at_)), (.int .i64 ((f j).place)), (.int .i64 ((f j).lo)), (.int .i64 ((f j).hi)), (.int .i64 ((↑(q j) : Int)))]⟩)) :: (5, .conW (CW95 o n c js (f j).at_ (f j).place (f j).lo (f j).hi (q j) (0 : Int) es false tr2 es2)) :: [(7, .tm 0 [])]) ([(1, .tm 0 [])]))])) =
((((decide ((↑j : Int) < (↑n : Int))) = true → ((((((0 : Int) ≤ (↑j : Int))) ∧ (((↑j : Int) < (↑n : Int)))) ∧ (((.pointer (.some ⟨((0 : Nat)), ((0 : Nat) + j * (5 : Nat)), .none⟩)) : Value) = (.pointer (.some ⟨((0 : Nat)), ((0 : Nat) + j * (5 : Nat)), .none⟩)))) ∧
(((((0 : Nat) + j * (5 : Nat) + (5 : Nat) ≤ js.length)) ∧ (((.agg ⟨[(.int .i64 ((f j).at_)), (.int .i64 ((f j).place)), (.int .i64 ((f j).lo)), (.int .i64 ((f j).hi)), (.int .i64 ((↑(q j) : Int)))]⟩) : Value) = (.agg ⟨(List.take ((5 : Nat)) (List.drop ((0 : Nat) + j * (5 : Nat)) (js)))⟩))) ∧
((ConWOK Try.prog (OfNat.ofNat (95 : Nat)) (CW95 o n c js (f j).at_ (f j).place (f j).lo (f j).hi (q j) (0 : Int) es false tr2 es2)) ∧ (ConW.pre (CW95 o n c js (f j).at_ (f j).place (f j).lo (f j).hi (q j) (0 : Int) es false tr2 es2) ⟨⟨[(.int .i64 ((f j).at_)), (.int .i64 ((f j).place)), (.int .i64 ((f j).lo)), (.int .i64 ((f j).hi)), (.int .i64 ((↑(q j) : Int))), (.int .i64 (o (0 : Nat))), (.int .i64 (o (1 : Nat))), (.int .i64 (o (2 : Nat))), (.int .i64 (o (3 : Nat))), (.int .i64 (o (4 : Nat))), (.int .i64 (o (5 : Nat))), (.int .i64 (o (6 : Nat)))], [⟨n, c⟩]⟩, [[(.int .i64 0)], (js)], [(es)]⟩) ∧
R 0 .normal ⟨⟨[(.int .i64 (IntKind.i64.wrap (many + (1 : Int)))), (.int .i64 n), (.int .i64 (IntKind.i64.wrap ((↑j : Int) + (1 : Int)))), (.int .i64 (o (0 : Nat))), (.int .i64 (o (1 : Nat))), (.int .i64 (o (2 : Nat))), (.int .i64 (o (3 : Nat))), (.int .i64 (o (4 : Nat))), (.int .i64 (o (5 : Nat))), (.int .i64 (o (6 : Nat)))], [⟨n, c⟩, ⟨n, c⟩]⟩, [(js), [(.int .i64 tr2)]], [(es2)]⟩)))) ∧
((decide ((↑j : Int) < (↑n : Int))) = false → R 0 (.exit ((0 : Nat))) ⟨⟨[(.int .i64 many), (.int .i64 n), (.int .i64 j), (.int .i64 (o (0 : Nat))), (.int .i64 (o (1 : Nat))), (.int .i64 (o (2 : Nat))), (.int .i64 (o (3 : Nat))), (.int .i64 (o (4 : Nat))), (.int .i64 (o (5 : Nat))), (.int .i64 (o (6 : Nat)))], [⟨n, c⟩, ⟨n, c⟩]⟩, [(js), [(.int .i64 tr)]], [(es)]⟩))) := by kernel_rfl
theorem f83 (n c : Nat) (js : List Value) (many tr2 : Int) (es2 : List (Value × Value)) (o : Nat → Int) (R : ARes → Prop) : (vx.call 83 [.slice (some ⟨0, 0, none⟩) n c, canV o] (retK R) (m83 js) ((15, .loopW T83 (AExit.exit (0 : Nat)) T83 fun x => st83 o n c js many tr2 es2 n) :: [])) =
(((ClW ⟨⟨[(.int .i64 0), (.int .i64 n), (.int .i64 0), (.int .i64 (o (0 : Nat))), (.int .i64 (o (1 : Nat))), (.int .i64 (o (2 : Nat))), (.int .i64 (o (3 : Nat))), (.int .i64 (o (4 : Nat))), (.int .i64 (o (5 : Nat))), (.int .i64 (o (6 : Nat)))], [⟨n, c⟩, ⟨n, c⟩]⟩, [(js), [(.int .i64 0)]], [[]]⟩) ∧ (LoopOW Try.prog .none p83 (T83) ⟨⟨[(.int .i64 0), (.int .i64 n), (.int .i64 0), (.int .i64 (o (0 : Nat))), (.int .i64 (o (1 : Nat))), (.int .i64 (o (2 : Nat))), (.int .i64 (o (3 : Nat))), (.int .i64 (o (4 : Nat))), (.int .i64 (o (5 : Nat))), (.int .i64 (o (6 : Nat)))], [⟨n, c⟩, ⟨n, c⟩]⟩, [(js), [(.int .i64 0)]], [[]]⟩ (.exit ((0 : Nat))) (T83) ⟨⟨[(.int .i64 many), (.int .i64 n), (.int .i64 n), (.int .i64 (o (0 : Nat))), (.int .i64 (o (1 : Nat))), (.int .i64 (o (2 : Nat))), (.int .i64 (o (3 : Nat))), (.int .i64 (o (4 : Nat))), (.int .i64 (o (5 : Nat))), (.int .i64 (o (6 : Nat)))], [⟨n, c⟩, ⟨n, c⟩]⟩, [(js), [(.int .i64 tr2)]], [(es2)]⟩) ∧
R (.ret (.int .i64 many)))) := by kernel_rfl
theorem b83z (R : Nat → AExit → Hw → Prop) : (vx.code none (.l p83) (leafW [T83z] R) (T83z.inst ⟨⟨[I 0, I 0, I 0], []⟩, [], []⟩) ([(2, .tm 0 [])])) =
(R 0 (.exit ((0 : Nat))) ⟨⟨[(.int .i64 0), (.int .i64 0), (.int .i64 0)], []⟩, [], []⟩) := by kernel_rfl
theorem f83z (o : Nat → Int) (R : ARes → Prop) : (vx.call 83 [.slice none 0 0, canV o] (retK R) ⟨.nil, 0⟩ ((15, .loopW T83z (AExit.exit (0 : Nat)) T83z fun x => { hs := { vs := [I (0 : Int), I (0 : Int), I (0 : Int)], ns := [] }, ls := [], es := [] }) :: [])) =
(((ClW ⟨⟨[(.int .i64 0), (.int .i64 ((↑(0 : Nat) : Int))), (.int .i64 0)], []⟩, [], []⟩) ∧ (LoopOW Try.prog .none p83 (T83z) ⟨⟨[(.int .i64 0), (.int .i64 ((↑(0 : Nat) : Int))), (.int .i64 0)], []⟩, [], []⟩ (.exit ((0 : Nat))) (T83z) ⟨⟨[(.int .i64 0), (.int .i64 0), (.int .i64 0)], []⟩, [], []⟩) ∧
R (.ret (.int .i64 0)))) := by kernel_rfl
section
variable (o : Nat → Int) (n c : Nat) (f : Nat → Mv) (q : Nat → Nat)
noncomputable def stF (j : Nat) : Hw := st83 o n c (jobsU n f q) ((fewS (canO o q) q n j).2 : Nat) ((fewS (canO o q) q n j).1.T : Nat) (encJ f q (fewS (canO o q) q n j).1.M) j
noncomputable def C83 : Con where
  A := .slice 0 0 CanT
  bs := [.list 97 .ro]
  pre x := x = ⟨⟨ints 7 o, [(n, c)]⟩, [jobsU n f q]⟩
  res _ := .ret (I (fewN (canO o q) q n : Nat))
noncomputable def C83z : Con where
  A := .val (.slice none 0 0) CanT
  bs := []
  pre x := x = ⟨⟨ints 7 o, []⟩, []⟩
  res _ := .ret (I 0)
variable {o n c f q}
theorem clF (j : Nat) : ClW (stF o n c f q j) := by
  refine ⟨fun cs hcs v hv => ?_, fun es hes e he => ?_⟩
  · simp only [stF, st83, List.mem_cons, List.not_mem_nil, or_false] at hcs
    rcases hcs with rfl | rfl
    · exact jobsU_at n f q v hv
    · simp only [List.mem_cons, List.not_mem_nil, or_false] at hv; subst hv; rfl
  · simp only [stF, st83, List.mem_cons, List.not_mem_nil, or_false] at hes
    subst hes
    exact encJ_cl _ e he
theorem loop83 (hn : n ≤ 7) (hq : ∀ i j, i < n → j < n → q i = q j → i = j) (hq7 : ∀ i, i < n → q i < 7) : LoopOW Try.prog none p83 T83 (stF o n c f q 0) (.exit 0) T83 (stF o n c f q n) := by
  refine loop_forW (Ts := [T83]) (k := 7) (n := n) (e := .exit 0) (st := fun j => (0, stF o n c f q j)) rfl vx_sound ?_ (by rw [nglob]; omega) ⟨by simp, trivial⟩ (fun j _ => clF j) (fun j hj R hR => ?_) (fun R hR => ?_) rfl (Nat.le_of_ble_eq_true rfl) (by decide) rfl
  · intro T hT; simp only [List.mem_singleton] at hT; subst hT; rfl
  · have hw : IntKind.i64.wrap ((j : Int) + 1) = ((j + 1 : Nat) : Int) := wrapI (by omega) (by omega)
    obtain ⟨k1, k2⟩ := fewS_ok (can := canO o q) hq7 j (by omega)
    have hlen : 0 + j * 5 + 5 ≤ (jobsU n f q).length := by rw [jobsU_len]; have := flatC_bound (k := 5) hj; omega
    have hpart : (Value.agg ⟨[I (f j).at_, I (f j).place, I (f j).lo, I (f j).hi, I (q j : Nat)]⟩) = .agg ⟨((jobsU n f q).drop (0 + j * 5)).take 5⟩ := by rw [jobsU_part f q hj]; rfl
    have hC := C95_ok (o := o) (c := c) (f := f) hn hq hq7 8 j ⟨0, (fewS (canO o q) q n j).1.M⟩ hj ⟨Nat.zero_lt_succ _, k1.keys⟩ (by have := unt_le (q := q) (n := n) ⟨0, (fewS (canO o q) q n j).1.M⟩; omega)
    have hw2 : IntKind.i64.wrap (((fewS (canO o q) q n j).2 : Int) + 1) = (((fewS (canO o q) q n j).2 + 1 : Nat) : Int) := wrapI (by omega) (by omega)
    simp only [C95] at hC
    have hR2 : R 0 .normal (stF o n c f q (j + 1)) := hR
    simp only [stF, fewS] at hR2
    refine ⟨T83, ?_⟩
    generalize matchF (canO o q) q n 8 j ⟨0, (fewS (canO o q) q n j).1.M⟩ = r at hC hR2
    obtain ⟨b, σ'⟩ := r
    cases b with
    | true =>
      simp only [if_true] at hR2
      refine ⟨_, rfl, (b83t j n c f q (jobsU n f q) _ _ σ'.T (encJ f q (fewS (canO o q) q n j).1.M) (encJ f q σ'.M) o R).mpr ⟨fun _ => ⟨⟨⟨by omega, by omega⟩, rfl⟩, ⟨hlen, hpart⟩, hC, rfl, ?_⟩, fun h => absurd (by omega) (of_decide_eq_false h)⟩⟩
      rw [hw]
      exact hR2
    | false =>
      simp only [Bool.false_eq_true, if_false] at hR2
      refine ⟨_, rfl, (b83f j n c f q (jobsU n f q) _ _ σ'.T (encJ f q (fewS (canO o q) q n j).1.M) (encJ f q σ'.M) o R).mpr ⟨fun _ => ⟨⟨⟨by omega, by omega⟩, rfl⟩, ⟨hlen, hpart⟩, hC, rfl, ?_⟩, fun h => absurd (by omega) (of_decide_eq_false h)⟩⟩
      rw [hw, hw2]
      exact hR2
  · exact ⟨T83, _, rfl, (b83t n n c f q (jobsU n f q) _ _ 0 (encJ f q (fewS (canO o q) q n n).1.M) [] o R).mpr ⟨fun h => absurd (of_decide_eq_true h) (by omega), fun _ => hR⟩⟩
theorem C83_ok (hn : n ≤ 7) (hq : ∀ i j, i < n → j < n → q i = q j → i = j) (hq7 : ∀ i, i < n → q i < 7) : ConOK Try.prog 83 (C83 o n c f q) := by
  refine con_of vx_sound _ (fun x hx => ?_) rfl (fun x _ => rfl) (fun x hx => ?_) rfl (Nat.le_of_ble_eq_true rfl) (by rw [nglob]; exact Nat.zero_le _)
  · cases hx
    exact ⟨_, (f83 n c (jobsU n f q) _ _ (encJ f q (fewS (canO o q) q n n).1.M) o _).mpr ⟨clF 0, loop83 hn hq hq7, rfl⟩⟩
  · cases hx
    intro cs hcs v hv
    simp only [List.mem_singleton] at hcs
    subst hcs
    exact jobsU_at n f q v hv
theorem loop83z : LoopOW Try.prog none p83 T83z ⟨⟨[I 0, I 0, I 0], []⟩, [], []⟩ (.exit 0) T83z ⟨⟨[I 0, I 0, I 0], []⟩, [], []⟩ := by
  refine loop_forW (Ts := [T83z]) (k := 6) (e := .exit 0) (n := 0) (st := fun _ => (0, ⟨⟨[I 0, I 0, I 0], []⟩, [], []⟩)) rfl vx_sound ?_ (by rw [nglob]; omega) ⟨by simp, trivial⟩ (fun j _ => ⟨fun cs h => (by cases h), fun cs h => (by cases h)⟩) (fun j hj R hR => (by omega)) (fun R hR => ?_) rfl (Nat.le_of_ble_eq_true rfl) (by decide) rfl
  · intro T hT; simp only [List.mem_singleton] at hT; subst hT; rfl
  · exact ⟨T83z, _, rfl, (b83z R).mpr hR⟩
theorem C83z_ok : ConOK Try.prog 83 (C83z o) := by
  refine con_of vx_sound _ (fun x hx => ?_) rfl (fun x _ => rfl) (fun x hx => ?_) rfl (Nat.le_of_ble_eq_true rfl) (by rw [nglob]; exact Nat.zero_le _)
  · cases hx
    exact ⟨_, (f83z o _).mpr ⟨⟨fun cs h => (by cases h), fun cs h => (by cases h)⟩, loop83z, rfl⟩⟩
  · cases hx
    intro cs hcs
    cases hcs
end
end Go.Ab
/- package horse: whether a horse can do one more move. -/
set_option maxRecDepth 100000
namespace Go.Ab
open Go Go.RowKit Go.Proofs
theorem f72 (a b : Nat) (o : Nat → Int) (R : ARes → Prop) : (vx.call 72 [.agg ⟨ints 7 o⟩, I a, I b] (retK R) ⟨.nil, 0⟩ ((4, .val (.pointer (.some ⟨((0 : Nat)), ((0 : Nat) + a * (1 : Nat)), .none⟩))) :: (0, .val (.int .i64 (o a))) :: (5, .val (.int .i64 (o a / (2 : Int) ^ b))) :: [(1, .split ([]) ((3, .val (.pointer (.some ⟨((0 : Nat)), ((0 : Nat) + b * (1 : Nat)), .none⟩))) :: (0, .val (.int .i64 (o b))) :: (5, .val (.int .i64 (o b / (2 : Int) ^ a))) :: [(1, .split ([]) ([]))]))])) =
(((((((0 : Int) ≤ (↑a : Int))) ∧ (((↑a : Int) < (↑(7 : Nat) : Int)))) ∧ (((.pointer (.some ⟨((0 : Nat)), ((0 : Nat) + a * (1 : Nat)), .none⟩)) : Value) = (.pointer (.some ⟨((0 : Nat)), ((0 : Nat) + a * (1 : Nat)), .none⟩)))) ∧
((([Value.int .i64 (o (0 : Nat)), Value.int .i64 (o (1 : Nat)), Value.int .i64 (o (2 : Nat)), Value.int .i64 (o (3 : Nat)), Value.int .i64 (o (4 : Nat)), Value.int .i64 (o (5 : Nat)), Value.int .i64 (o (6 : Nat))][(0 : Nat) + a * (1 : Nat)]? = some (.int .i64 (o a)))) ∧
((((((0 : Int) ≤ (↑b : Int))) ∧ (((↑b : Int) ≤ (↑(64 : Nat) : Int)))) ∧ (((.int .i64 (o a / (2 : Int) ^ b)) : Value) = (.int .i64 (o a / (2 : Int) ^ b)))) ∧
(((bits BinOp.and IntKind.i64 (o a / (2 : Int) ^ b) (1 : Int) == (1 : Int)) = true → R (.ret (.bool true))) ∧
((bits BinOp.and IntKind.i64 (o a / (2 : Int) ^ b) (1 : Int) == (1 : Int)) = false → ((((((0 : Int) ≤ (↑b : Int))) ∧ (((↑b : Int) < (↑(7 : Nat) : Int)))) ∧ (((.pointer (.some ⟨((0 : Nat)), ((0 : Nat) + b * (1 : Nat)), .none⟩)) : Value) = (.pointer (.some ⟨((0 : Nat)), ((0 : Nat) + b * (1 : Nat)), .none⟩)))) ∧
((([Value.int .i64 (o (0 : Nat)), Value.int .i64 (o (1 : Nat)), Value.int .i64 (o (2 : Nat)), Value.int .i64 (o (3 : Nat)), Value.int .i64 (o (4 : Nat)), Value.int .i64 (o (5 : Nat)), Value.int .i64 (o (6 : Nat))][(0 : Nat) + b * (1 : Nat)]? = some (.int .i64 (o b)))) ∧
((((((0 : Int) ≤ (↑a : Int))) ∧ (((↑a : Int) ≤ (↑(64 : Nat) : Int)))) ∧ (((.int .i64 (o b / (2 : Int) ^ a)) : Value) = (.int .i64 (o b / (2 : Int) ^ a)))) ∧
(((bits BinOp.and IntKind.i64 (o b / (2 : Int) ^ a) (1 : Int) == (1 : Int)) = true → R (.ret (.bool true))) ∧
((bits BinOp.and IntKind.i64 (o b / (2 : Int) ^ a) (1 : Int) == (1 : Int)) = false → R (.ret (.bool false))))))))))))) := by kernel_rfl
theorem b97 (n m i : Nat) (D : Int) (o : Nat → Int) (R : Nat → AExit → Hw → Prop) : (vx.code none (.l p97) (leafW [T97, R97] R) (T97.inst (st97 o n D m i)) ([(0, .split ((9, .val (.int .i64 (D / (2 : Int) ^ i))) :: [(1, .split ((5, .con (C72 o i m)) :: [(0, .split ([(3, .tm 1 [])]) ([(4, .tm 0 [])]))]) ([(6, .tm 0 [])]))]) ([(1, .tm 0 [])]))])) =
((((decide ((↑i : Int) < (↑n : Int))) = true → ((((((0 : Int) ≤ (↑i : Int))) ∧ (((↑i : Int) ≤ (↑(64 : Nat) : Int)))) ∧ (((.int .i64 (D / (2 : Int) ^ i)) : Value) = (.int .i64 (D / (2 : Int) ^ i)))) ∧
(((bits BinOp.and IntKind.i64 (D / (2 : Int) ^ i) (1 : Int) == (1 : Int)) = true → ((ConOK Try.prog 72 (C72 o i m)) ∧ (Con.pre (C72 o i m) ⟨⟨[(.int .i64 (o (0 : Nat))), (.int .i64 (o (1 : Nat))), (.int .i64 (o (2 : Nat))), (.int .i64 (o (3 : Nat))), (.int .i64 (o (4 : Nat))), (.int .i64 (o (5 : Nat))), (.int .i64 (o (6 : Nat))), (.int .i64 i), (.int .i64 m)], []⟩, []⟩) ∧
(((!linkB o i m) = true → R 1 .ret ⟨⟨[(.bool false)], []⟩, [], []⟩) ∧
((!linkB o i m) = false → R 0 .normal ⟨⟨[(.int .i64 D), (.int .i64 m), (.int .i64 n), (.int .i64 (IntKind.i64.wrap ((↑i : Int) + (1 : Int)))), (.int .i64 (o (0 : Nat))), (.int .i64 (o (1 : Nat))), (.int .i64 (o (2 : Nat))), (.int .i64 (o (3 : Nat))), (.int .i64 (o (4 : Nat))), (.int .i64 (o (5 : Nat))), (.int .i64 (o (6 : Nat)))], []⟩, [], []⟩)))) ∧
((bits BinOp.and IntKind.i64 (D / (2 : Int) ^ i) (1 : Int) == (1 : Int)) = false → R 0 .normal ⟨⟨[(.int .i64 D), (.int .i64 m), (.int .i64 n), (.int .i64 (IntKind.i64.wrap ((↑i : Int) + (1 : Int)))), (.int .i64 (o (0 : Nat))), (.int .i64 (o (1 : Nat))), (.int .i64 (o (2 : Nat))), (.int .i64 (o (3 : Nat))), (.int .i64 (o (4 : Nat))), (.int .i64 (o (5 : Nat))), (.int .i64 (o (6 : Nat)))], []⟩, [], []⟩)))) ∧
((decide ((↑i : Int) < (↑n : Int))) = false → R 0 (.exit ((0 : Nat))) ⟨⟨[(.int .i64 D), (.int .i64 m), (.int .i64 n), (.int .i64 i), (.int .i64 (o (0 : Nat))), (.int .i64 (o (1 : Nat))), (.int .i64 (o (2 : Nat))), (.int .i64 (o (3 : Nat))), (.int .i64 (o (4 : Nat))), (.int .i64 (o (5 : Nat))), (.int .i64 (o (6 : Nat)))], []⟩, [], []⟩))) := by kernel_rfl
theorem f97t (p : Int) (n c m : Nat) (D : Int) (o : Nat → Int) (R : ARes → Prop) : (vx.call 97 [hV p n c, .agg ⟨ints 7 o⟩, I D, I m] (retK R) ⟨fillX [.dead] 0 .nil, 1⟩ ((9, .loopW T97 (AExit.exit (0 : Nat)) T97 fun x => st97 o n D m n) :: [])) =
(((ClW ⟨⟨[(.int .i64 D), (.int .i64 m), (.int .i64 n), (.int .i64 0), (.int .i64 (o (0 : Nat))), (.int .i64 (o (1 : Nat))), (.int .i64 (o (2 : Nat))), (.int .i64 (o (3 : Nat))), (.int .i64 (o (4 : Nat))), (.int .i64 (o (5 : Nat))), (.int .i64 (o (6 : Nat)))], []⟩, [], []⟩) ∧ (LoopOW Try.prog .none p97 (T97) ⟨⟨[(.int .i64 D), (.int .i64 m), (.int .i64 n), (.int .i64 0), (.int .i64 (o (0 : Nat))), (.int .i64 (o (1 : Nat))), (.int .i64 (o (2 : Nat))), (.int .i64 (o (3 : Nat))), (.int .i64 (o (4 : Nat))), (.int .i64 (o (5 : Nat))), (.int .i64 (o (6 : Nat)))], []⟩, [], []⟩ (.exit ((0 : Nat))) (T97) ⟨⟨[(.int .i64 D), (.int .i64 m), (.int .i64 n), (.int .i64 n), (.int .i64 (o (0 : Nat))), (.int .i64 (o (1 : Nat))), (.int .i64 (o (2 : Nat))), (.int .i64 (o (3 : Nat))), (.int .i64 (o (4 : Nat))), (.int .i64 (o (5 : Nat))), (.int .i64 (o (6 : Nat)))], []⟩, [], []⟩) ∧
R (.ret (.bool true)))) := by kernel_rfl
theorem f97f (p : Int) (n c m : Nat) (D : Int) (o : Nat → Int) (R : ARes → Prop) : (vx.call 97 [hV p n c, .agg ⟨ints 7 o⟩, I D, I m] (retK R) ⟨fillX [.dead] 0 .nil, 1⟩ ((9, .loopW T97 AExit.ret R97 fun x => { hs := { vs := [Value.bool false], ns := [] }, ls := [], es := [] }) :: [])) =
(((ClW ⟨⟨[(.int .i64 D), (.int .i64 m), (.int .i64 n), (.int .i64 0), (.int .i64 (o (0 : Nat))), (.int .i64 (o (1 : Nat))), (.int .i64 (o (2 : Nat))), (.int .i64 (o (3 : Nat))), (.int .i64 (o (4 : Nat))), (.int .i64 (o (5 : Nat))), (.int .i64 (o (6 : Nat)))], []⟩, [], []⟩) ∧ (LoopOW Try.prog .none p97 (T97) ⟨⟨[(.int .i64 D), (.int .i64 m), (.int .i64 n), (.int .i64 0), (.int .i64 (o (0 : Nat))), (.int .i64 (o (1 : Nat))), (.int .i64 (o (2 : Nat))), (.int .i64 (o (3 : Nat))), (.int .i64 (o (4 : Nat))), (.int .i64 (o (5 : Nat))), (.int .i64 (o (6 : Nat)))], []⟩, [], []⟩ .ret (R97) ⟨⟨[(.bool false)], []⟩, [], []⟩) ∧
R (.ret (.bool false)))) := by kernel_rfl
theorem C72_ok (o : Nat → Int) (a b : Nat) (ha : a < 7) (hb : b < 7) : ConOK Try.prog 72 (C72 o a b) := by
  refine con_of vx_sound _ (fun x hx => ?_) rfl (fun x _ => rfl) (fun x hx => ?_) rfl (Nat.le_of_ble_eq_true rfl) (by rw [nglob]; exact Nat.zero_le _)
  · cases hx
    have key : ∀ R : ARes → Prop, (∀ v, linkB o a b = v → R (.ret (.bool v))) → ∃ hs, vx.call 72 [.agg ⟨ints 7 o⟩, I a, I b] (retK R) ⟨.nil, 0⟩ hs := fun R hR => by
      refine ⟨_, (f72 a b o R).mpr ⟨⟨⟨by omega, by omega⟩, rfl⟩, ints_get _ ha, ⟨⟨by omega, by omega⟩, rfl⟩, fun h => hR _ ?_, fun h => ⟨⟨⟨by omega, by omega⟩, rfl⟩, ints_get _ hb, ⟨⟨by omega, by omega⟩, rfl⟩, fun h2 => hR _ ?_, fun h2 => hR _ ?_⟩⟩⟩
      · have h : hasI (o a) b = true := h
        simp only [linkB, h, Bool.true_or]
      · have h : hasI (o a) b = false := h
        have h2 : hasI (o b) a = true := h2
        simp only [linkB, h, h2, Bool.false_or]
      · have h : hasI (o a) b = false := h
        have h2 : hasI (o b) a = false := h2
        simp only [linkB, h, h2, Bool.false_or]
    obtain ⟨hs, h⟩ := key (fun r => r = .ret (.bool (linkB o a b))) fun v hv => by rw [hv]
    exact ⟨hs, h⟩
  · cases hx
    intro cs hcs
    cases hcs
section
variable {o : Nat → Int} {n c : Nat} {p : Int}
theorem cl97 (D : Int) (m i : Nat) : ClW (st97 o n D m i) := ⟨fun cs h => (by cases h), fun cs h => (by cases h)⟩
noncomputable def ex97 (o : Nat → Int) (D : Int) (m i : Nat) : Option (AExit × Nat × Hw) := if hasI D i && !linkB o i m then some (.ret, 1, ⟨⟨[.bool false], []⟩, [], []⟩) else none
theorem loop97 (D : Int) (m : Nat) (hn : n ≤ 7) (hm : m < 7) {T1 : Tw} (h1 : [T97, R97][(runX (ex97 o D m) (.exit 0, 0, st97 o n D m n) n 0).2.1]? = some T1) :
    LoopOW Try.prog none p97 T97 (st97 o n D m 0) (runX (ex97 o D m) (.exit 0, 0, st97 o n D m n) n 0).1 T1 (runX (ex97 o D m) (.exit 0, 0, st97 o n D m n) n 0).2.2 := by
  refine loop_untilW (Ts := [T97, R97]) (k := 3) (n := n) (st := fun i => (0, st97 o n D m i)) (e := .exit 0) (ex := ex97 o D m) rfl vx_sound ?_ (by rw [nglob]; omega) ⟨by simp, trivial⟩ (fun i _ => cl97 D m i) (fun i x hi hx => ?_) (fun i hi R h1 h2 => ?_) (fun R hR => ?_) (Nat.zero_le n) rfl (Nat.le_of_ble_eq_true rfl) (by decide) h1
  · intro T hT
    simp only [List.mem_cons, List.not_mem_nil, or_false] at hT
    rcases hT with rfl | rfl <;> rfl
  · unfold ex97 at hx
    split at hx
    · cases hx
      exact ⟨by simp, trivial, fun cs h => (by cases h), fun cs h => (by cases h)⟩
    · cases hx
  · have hw : IntKind.i64.wrap ((i : Int) + 1) = ((i + 1 : Nat) : Int) := wrapI (by omega) (by omega)
    refine ⟨T97, _, rfl, (b97 n m i D o R).mpr ⟨fun _ => ⟨⟨⟨by omega, by omega⟩, rfl⟩, fun hA => ⟨C72_ok o i m (by omega) hm, rfl, fun hB => ?_, fun hB => ?_⟩, fun hA => ?_⟩, fun h => absurd (by omega) (of_decide_eq_false h)⟩⟩
    · have hA : hasI D i = true := hA
      exact h2 (.ret, 1, _) (by simp only [ex97, hA, hB, Bool.true_and, if_true])
    · have hA : hasI D i = true := hA
      rw [hw]
      exact h1 (by simp only [ex97, hA, hB, Bool.true_and, Bool.false_eq_true, if_false])
    · have hA : hasI D i = false := hA
      rw [hw]
      exact h1 (by simp only [ex97, hA, Bool.false_and, Bool.false_eq_true, if_false])
  · exact ⟨T97, _, rfl, (b97 n m n D o R).mpr ⟨fun h => absurd (of_decide_eq_true h) (by omega), fun _ => hR⟩⟩
theorem run97 (D : Int) (m : Nat) (fin : AExit × Nat × Hw) (r : Nat) : ∀ i, runX (ex97 o D m) fin r i = if allFrom (fun k => !(hasI D k && !linkB o k m)) r i then fin else (.ret, 1, ⟨⟨[.bool false], []⟩, [], []⟩) := by
  induction r with
  | zero => intro i; rfl
  | succ r ih =>
    intro i
    simp only [runX, ex97, allFrom]
    by_cases h : (hasI D i && !linkB o i m) = true
    · rw [if_pos h]
      simp only [h, Bool.not_true, Bool.false_and, Bool.false_eq_true, if_false]
    · rw [if_neg h]
      have h2 : (hasI D i && !linkB o i m) = false := by simpa using h
      simp only [h2, Bool.not_false, Bool.true_and]
      exact ih (i + 1)
theorem C97_ok (D : Int) (m : Nat) (hn : n ≤ 7) (hm : m < 7) : ConOK Try.prog 97 (C97 p n c o D m) := by
  refine con_of vx_sound _ (fun x hx => ?_) rfl (fun x _ => rfl) (fun x hx => ?_) rfl (Nat.le_of_ble_eq_true rfl) (by rw [nglob]; exact Nat.zero_le _)
  · cases hx
    have hl := fun T1 => loop97 (o := o) (T1 := T1) D m hn hm
    rw [run97] at hl
    show ∃ hs, vx.call 97 [hV p n c, .agg ⟨ints 7 o⟩, I D, I m] (retK fun r => r = .ret (.bool (fitsF o n D m))) ⟨fillX [.dead] 0 .nil, 1⟩ hs
    unfold fitsF
    cases hb : allFrom (fun k => !(hasI D k && !linkB o k m)) n 0 with
    | true =>
      rw [hb] at hl
      exact ⟨_, (f97t p n c m D o _).mpr ⟨cl97 D m 0, hl T97 rfl, rfl⟩⟩
    | false =>
      rw [hb] at hl
      exact ⟨_, (f97f p n c m D o _).mpr ⟨cl97 D m 0, hl R97 rfl, rfl⟩⟩
  · cases hx
    intro cs hcs
    cases hcs
end
end Go.Ab
/- package horse: the first right plan: one move. -/
set_option maxRecDepth 100000
namespace Go.Ab
open Go Go.RowKit Go.Proofs
theorem b96t (p : Int) (n c many m h : Nat) (o D P : Nat → Int) (Dl Pl Dl2 Pl2 Dl3 Pl3 : List Value) (R : Nat → AExit → Hw → Prop) : (vx.code none (.l p96) (leafW [T96, R96] R) (T96.inst (st96 p n c many o m Dl Pl h)) ([(0, .split ((4, .val (.pointer (.some ⟨((2 : Nat)), ((0 : Nat) + h * (1 : Nat)), .none⟩))) :: (0, .val (.int .i64 (D h))) :: (5, .con (C97 p n c o (D h) m)) :: [(0, .split ([(3, .tm 0 [])]) ((3, .val (.pointer (.some ⟨((4 : Nat)), ((0 : Nat) + m * (1 : Nat)), .none⟩))) :: (0, .put Pl2) :: (6, .val (.int .i64 (IntKind.i64.wrap ((1 : Int) * (2 : Int) ^ m)))) :: (2, .con (C74 (D h) (oneI m))) :: (0, .val (.pointer (.some ⟨((2 : Nat)), ((0 : Nat) + h * (1 : Nat)), .none⟩))) :: (0, .put Dl2) :: (3, .conW (CW96 p n c many o (IntKind.i64.wrap ((↑m : Int) + (1 : Int))) Dl2 Pl2 true Dl3 Pl3)) :: [(2, .tm 1 [])]))]) ([(1, .tm 0 [])]))])) =
((((decide ((↑h : Int) < (↑many : Int))) = true → ((((((0 : Int) ≤ (↑h : Int))) ∧ (((↑h : Int) < (↑(7 : Nat) : Int)))) ∧ (((.pointer (.some ⟨((2 : Nat)), ((0 : Nat) + h * (1 : Nat)), .none⟩)) : Value) = (.pointer (.some ⟨((2 : Nat)), ((0 : Nat) + h * (1 : Nat)), .none⟩)))) ∧
(((Dl[(0 : Nat) + h * (1 : Nat)]? = some (.int .i64 (D h)))) ∧
((ConOK Try.prog 97 (C97 p n c o (D h) m)) ∧ (Con.pre (C97 p n c o (D h) m) ⟨⟨[(.int .i64 p), (.int .i64 (o (0 : Nat))), (.int .i64 (o (1 : Nat))), (.int .i64 (o (2 : Nat))), (.int .i64 (o (3 : Nat))), (.int .i64 (o (4 : Nat))), (.int .i64 (o (5 : Nat))), (.int .i64 (o (6 : Nat))), (.int .i64 (D h)), (.int .i64 m)], [⟨n, c⟩]⟩, []⟩) ∧
(((!fitsF o n (D h) m) = true → R 0 .normal ⟨⟨[(.int .i64 m), (.int .i64 many), (.int .i64 (IntKind.i64.wrap ((↑h : Int) + (1 : Int)))), (.int .i64 p), (.int .i64 many), (.int .i64 (o (0 : Nat))), (.int .i64 (o (1 : Nat))), (.int .i64 (o (2 : Nat))), (.int .i64 (o (3 : Nat))), (.int .i64 (o (4 : Nat))), (.int .i64 (o (5 : Nat))), (.int .i64 (o (6 : Nat)))], [⟨n, c⟩]⟩, [(Dl), (Pl)], []⟩) ∧
((!fitsF o n (D h) m) = false → ((((((0 : Int) ≤ (↑m : Int))) ∧ (((↑m : Int) < (↑(7 : Nat) : Int)))) ∧ (((.pointer (.some ⟨((4 : Nat)), ((0 : Nat) + m * (1 : Nat)), .none⟩)) : Value) = (.pointer (.some ⟨((4 : Nat)), ((0 : Nat) + m * (1 : Nat)), .none⟩)))) ∧
(((((0 : Nat) + m * (1 : Nat) + (1 : Nat) ≤ Pl.length)) ∧ ((List.take ((0 : Nat) + m * (1 : Nat)) Pl ++ [Value.int .i64 (↑h : Int)] ++ List.drop ((0 : Nat) + m * (1 : Nat) + (1 : Nat)) Pl = Pl2))) ∧
((((((0 : Int) ≤ (↑m : Int))) ∧ (((↑m : Int) ≤ (↑(64 : Nat) : Int)))) ∧ (((.int .i64 (IntKind.i64.wrap ((1 : Int) * (2 : Int) ^ m))) : Value) = (.int .i64 (IntKind.i64.wrap ((1 : Int) * (2 : Int) ^ m))))) ∧
((ConOK Try.prog 74 (C74 (D h) (oneI m))) ∧ (Con.pre (C74 (D h) (oneI m)) ⟨⟨[], [⟨((2 : Nat)), ((2 : Nat))⟩]⟩, [[(.int .i64 (D h)), (.int .i64 (IntKind.i64.wrap ((1 : Int) * (2 : Int) ^ m)))]]⟩) ∧
((((((0 : Int) ≤ (↑h : Int))) ∧ (((↑h : Int) < (↑(7 : Nat) : Int)))) ∧ (((.pointer (.some ⟨((2 : Nat)), ((0 : Nat) + h * (1 : Nat)), .none⟩)) : Value) = (.pointer (.some ⟨((2 : Nat)), ((0 : Nat) + h * (1 : Nat)), .none⟩)))) ∧
(((((0 : Nat) + h * (1 : Nat) + (1 : Nat) ≤ Dl.length)) ∧ ((List.take ((0 : Nat) + h * (1 : Nat)) Dl ++ [Value.int .i64 (joinI (D h) (oneI m))] ++ List.drop ((0 : Nat) + h * (1 : Nat) + (1 : Nat)) Dl = Dl2))) ∧
((ConWOK Try.prog (OfNat.ofNat (96 : Nat)) (CW96 p n c many o (IntKind.i64.wrap ((↑m : Int) + (1 : Int))) Dl2 Pl2 true Dl3 Pl3)) ∧ (ConW.pre (CW96 p n c many o (IntKind.i64.wrap ((↑m : Int) + (1 : Int))) Dl2 Pl2 true Dl3 Pl3) ⟨⟨[(.int .i64 (IntKind.i64.wrap ((↑m : Int) + (1 : Int)))), (.int .i64 p), (.int .i64 many), (.int .i64 (o (0 : Nat))), (.int .i64 (o (1 : Nat))), (.int .i64 (o (2 : Nat))), (.int .i64 (o (3 : Nat))), (.int .i64 (o (4 : Nat))), (.int .i64 (o (5 : Nat))), (.int .i64 (o (6 : Nat)))], [⟨n, c⟩]⟩, [(Dl2), (Pl2)], []⟩) ∧
R 1 .ret ⟨⟨[(.bool true)], []⟩, [(Dl3), (Pl3)], []⟩))))))))))))) ∧
((decide ((↑h : Int) < (↑many : Int))) = false → R 0 (.exit ((0 : Nat))) ⟨⟨[(.int .i64 m), (.int .i64 many), (.int .i64 h), (.int .i64 p), (.int .i64 many), (.int .i64 (o (0 : Nat))), (.int .i64 (o (1 : Nat))), (.int .i64 (o (2 : Nat))), (.int .i64 (o (3 : Nat))), (.int .i64 (o (4 : Nat))), (.int .i64 (o (5 : Nat))), (.int .i64 (o (6 : Nat)))], [⟨n, c⟩]⟩, [(Dl), (Pl)], []⟩))) := by kernel_rfl
theorem b96f (p : Int) (n c many m h : Nat) (o D P : Nat → Int) (Dl Pl Dl2 Pl2 Dl3 Pl3 Dl4 : List Value) (R : Nat → AExit → Hw → Prop) : (vx.code none (.l p96) (leafW [T96, R96] R) (T96.inst (st96 p n c many o m Dl Pl h)) ([(0, .split ((4, .val (.pointer (.some ⟨((2 : Nat)), ((0 : Nat) + h * (1 : Nat)), .none⟩))) :: (0, .val (.int .i64 (D h))) :: (5, .con (C97 p n c o (D h) m)) :: [(0, .split ([(3, .tm 0 [])]) ((3, .val (.pointer (.some ⟨((4 : Nat)), ((0 : Nat) + m * (1 : Nat)), .none⟩))) :: (0, .put Pl2) :: (6, .val (.int .i64 (IntKind.i64.wrap ((1 : Int) * (2 : Int) ^ m)))) :: (2, .con (C74 (D h) (oneI m))) :: (0, .val (.pointer (.some ⟨((2 : Nat)), ((0 : Nat) + h * (1 : Nat)), .none⟩))) :: (0, .put Dl2) :: (3, .conW (CW96 p n c many o (IntKind.i64.wrap ((↑m : Int) + (1 : Int))) Dl2 Pl2 false Dl3 Pl3)) :: (3, .val (.pointer (.some ⟨((2 : Nat)), ((0 : Nat) + h * (1 : Nat)), .none⟩))) :: (0, .put Dl4) :: [(2, .tm 0 [])]))]) ([(1, .tm 0 [])]))])) =
((((decide ((↑h : Int) < (↑many : Int))) = true → ((((((0 : Int) ≤ (↑h : Int))) ∧ (((↑h : Int) < (↑(7 : Nat) : Int)))) ∧ (((.pointer (.some ⟨((2 : Nat)), ((0 : Nat) + h * (1 : Nat)), .none⟩)) : Value) = (.pointer (.some ⟨((2 : Nat)), ((0 : Nat) + h * (1 : Nat)), .none⟩)))) ∧
(((Dl[(0 : Nat) + h * (1 : Nat)]? = some (.int .i64 (D h)))) ∧
((ConOK Try.prog 97 (C97 p n c o (D h) m)) ∧ (Con.pre (C97 p n c o (D h) m) ⟨⟨[(.int .i64 p), (.int .i64 (o (0 : Nat))), (.int .i64 (o (1 : Nat))), (.int .i64 (o (2 : Nat))), (.int .i64 (o (3 : Nat))), (.int .i64 (o (4 : Nat))), (.int .i64 (o (5 : Nat))), (.int .i64 (o (6 : Nat))), (.int .i64 (D h)), (.int .i64 m)], [⟨n, c⟩]⟩, []⟩) ∧
(((!fitsF o n (D h) m) = true → R 0 .normal ⟨⟨[(.int .i64 m), (.int .i64 many), (.int .i64 (IntKind.i64.wrap ((↑h : Int) + (1 : Int)))), (.int .i64 p), (.int .i64 many), (.int .i64 (o (0 : Nat))), (.int .i64 (o (1 : Nat))), (.int .i64 (o (2 : Nat))), (.int .i64 (o (3 : Nat))), (.int .i64 (o (4 : Nat))), (.int .i64 (o (5 : Nat))), (.int .i64 (o (6 : Nat)))], [⟨n, c⟩]⟩, [(Dl), (Pl)], []⟩) ∧
((!fitsF o n (D h) m) = false → ((((((0 : Int) ≤ (↑m : Int))) ∧ (((↑m : Int) < (↑(7 : Nat) : Int)))) ∧ (((.pointer (.some ⟨((4 : Nat)), ((0 : Nat) + m * (1 : Nat)), .none⟩)) : Value) = (.pointer (.some ⟨((4 : Nat)), ((0 : Nat) + m * (1 : Nat)), .none⟩)))) ∧
(((((0 : Nat) + m * (1 : Nat) + (1 : Nat) ≤ Pl.length)) ∧ ((List.take ((0 : Nat) + m * (1 : Nat)) Pl ++ [Value.int .i64 (↑h : Int)] ++ List.drop ((0 : Nat) + m * (1 : Nat) + (1 : Nat)) Pl = Pl2))) ∧
((((((0 : Int) ≤ (↑m : Int))) ∧ (((↑m : Int) ≤ (↑(64 : Nat) : Int)))) ∧ (((.int .i64 (IntKind.i64.wrap ((1 : Int) * (2 : Int) ^ m))) : Value) = (.int .i64 (IntKind.i64.wrap ((1 : Int) * (2 : Int) ^ m))))) ∧
((ConOK Try.prog 74 (C74 (D h) (oneI m))) ∧ (Con.pre (C74 (D h) (oneI m)) ⟨⟨[], [⟨((2 : Nat)), ((2 : Nat))⟩]⟩, [[(.int .i64 (D h)), (.int .i64 (IntKind.i64.wrap ((1 : Int) * (2 : Int) ^ m)))]]⟩) ∧
((((((0 : Int) ≤ (↑h : Int))) ∧ (((↑h : Int) < (↑(7 : Nat) : Int)))) ∧ (((.pointer (.some ⟨((2 : Nat)), ((0 : Nat) + h * (1 : Nat)), .none⟩)) : Value) = (.pointer (.some ⟨((2 : Nat)), ((0 : Nat) + h * (1 : Nat)), .none⟩)))) ∧
(((((0 : Nat) + h * (1 : Nat) + (1 : Nat) ≤ Dl.length)) ∧ ((List.take ((0 : Nat) + h * (1 : Nat)) Dl ++ [Value.int .i64 (joinI (D h) (oneI m))] ++ List.drop ((0 : Nat) + h * (1 : Nat) + (1 : Nat)) Dl = Dl2))) ∧
((ConWOK Try.prog (OfNat.ofNat (96 : Nat)) (CW96 p n c many o (IntKind.i64.wrap ((↑m : Int) + (1 : Int))) Dl2 Pl2 false Dl3 Pl3)) ∧ (ConW.pre (CW96 p n c many o (IntKind.i64.wrap ((↑m : Int) + (1 : Int))) Dl2 Pl2 false Dl3 Pl3) ⟨⟨[(.int .i64 (IntKind.i64.wrap ((↑m : Int) + (1 : Int)))), (.int .i64 p), (.int .i64 many), (.int .i64 (o (0 : Nat))), (.int .i64 (o (1 : Nat))), (.int .i64 (o (2 : Nat))), (.int .i64 (o (3 : Nat))), (.int .i64 (o (4 : Nat))), (.int .i64 (o (5 : Nat))), (.int .i64 (o (6 : Nat)))], [⟨n, c⟩]⟩, [(Dl2), (Pl2)], []⟩) ∧
((((((0 : Int) ≤ (↑h : Int))) ∧ (((↑h : Int) < (↑(7 : Nat) : Int)))) ∧ (((.pointer (.some ⟨((2 : Nat)), ((0 : Nat) + h * (1 : Nat)), .none⟩)) : Value) = (.pointer (.some ⟨((2 : Nat)), ((0 : Nat) + h * (1 : Nat)), .none⟩)))) ∧
(((((0 : Nat) + h * (1 : Nat) + (1 : Nat) ≤ Dl3.length)) ∧ ((List.take ((0 : Nat) + h * (1 : Nat)) Dl3 ++ [Value.int .i64 (D h)] ++ List.drop ((0 : Nat) + h * (1 : Nat) + (1 : Nat)) Dl3 = Dl4))) ∧
R 0 .normal ⟨⟨[(.int .i64 m), (.int .i64 many), (.int .i64 (IntKind.i64.wrap ((↑h : Int) + (1 : Int)))), (.int .i64 p), (.int .i64 many), (.int .i64 (o (0 : Nat))), (.int .i64 (o (1 : Nat))), (.int .i64 (o (2 : Nat))), (.int .i64 (o (3 : Nat))), (.int .i64 (o (4 : Nat))), (.int .i64 (o (5 : Nat))), (.int .i64 (o (6 : Nat)))], [⟨n, c⟩]⟩, [(Dl4), (Pl3)], []⟩))))))))))))))) ∧
((decide ((↑h : Int) < (↑many : Int))) = false → R 0 (.exit ((0 : Nat))) ⟨⟨[(.int .i64 m), (.int .i64 many), (.int .i64 h), (.int .i64 p), (.int .i64 many), (.int .i64 (o (0 : Nat))), (.int .i64 (o (1 : Nat))), (.int .i64 (o (2 : Nat))), (.int .i64 (o (3 : Nat))), (.int .i64 (o (4 : Nat))), (.int .i64 (o (5 : Nat))), (.int .i64 (o (6 : Nat)))], [⟨n, c⟩]⟩, [(Dl), (Pl)], []⟩))) := by kernel_rfl
theorem f96t (p : Int) (n c many m : Nat) (o : Nat → Int) (Dl Pl Dl2 Pl2 : List Value) (R : ARes → List WB → Prop) : (vx.call 96 [I m, pN 0, pN 1, pN 2, pN 3, pN 4, pN 5] (retW bs96 R) (m96 p n c many o Dl Pl) ([(7, .split ([]) ((3, .loopW T96 AExit.ret R96 fun x => { hs := { vs := [Value.bool true], ns := [] }, ls := [Dl2, Pl2], es := [] }) :: []))])) =
(((((↑m : Int) == (↑n : Int)) = true → R (.ret (.bool true)) [(.lst (Dl)), (.lst (Pl))]) ∧
(((↑m : Int) == (↑n : Int)) = false → ((ClW ⟨⟨[(.int .i64 m), (.int .i64 many), (.int .i64 0), (.int .i64 p), (.int .i64 many), (.int .i64 (o (0 : Nat))), (.int .i64 (o (1 : Nat))), (.int .i64 (o (2 : Nat))), (.int .i64 (o (3 : Nat))), (.int .i64 (o (4 : Nat))), (.int .i64 (o (5 : Nat))), (.int .i64 (o (6 : Nat)))], [⟨n, c⟩]⟩, [(Dl), (Pl)], []⟩) ∧ (LoopOW Try.prog .none p96 (T96) ⟨⟨[(.int .i64 m), (.int .i64 many), (.int .i64 0), (.int .i64 p), (.int .i64 many), (.int .i64 (o (0 : Nat))), (.int .i64 (o (1 : Nat))), (.int .i64 (o (2 : Nat))), (.int .i64 (o (3 : Nat))), (.int .i64 (o (4 : Nat))), (.int .i64 (o (5 : Nat))), (.int .i64 (o (6 : Nat)))], [⟨n, c⟩]⟩, [(Dl), (Pl)], []⟩ .ret (R96) ⟨⟨[(.bool true)], []⟩, [(Dl2), (Pl2)], []⟩) ∧
R (.ret (.bool true)) [(.lst (Dl2)), (.lst (Pl2))])))) := by kernel_rfl
theorem f96f (p : Int) (n c many m : Nat) (o : Nat → Int) (Dl Pl Dl2 Pl2 : List Value) (R : ARes → List WB → Prop) : (vx.call 96 [I m, pN 0, pN 1, pN 2, pN 3, pN 4, pN 5] (retW bs96 R) (m96 p n c many o Dl Pl) ([(7, .split ([]) ((3, .loopW T96 (AExit.exit (0 : Nat)) T96 fun x => st96 p n c many o m Dl2 Pl2 many) :: []))])) =
(((((↑m : Int) == (↑n : Int)) = true → R (.ret (.bool true)) [(.lst (Dl)), (.lst (Pl))]) ∧
(((↑m : Int) == (↑n : Int)) = false → ((ClW ⟨⟨[(.int .i64 m), (.int .i64 many), (.int .i64 0), (.int .i64 p), (.int .i64 many), (.int .i64 (o (0 : Nat))), (.int .i64 (o (1 : Nat))), (.int .i64 (o (2 : Nat))), (.int .i64 (o (3 : Nat))), (.int .i64 (o (4 : Nat))), (.int .i64 (o (5 : Nat))), (.int .i64 (o (6 : Nat)))], [⟨n, c⟩]⟩, [(Dl), (Pl)], []⟩) ∧ (LoopOW Try.prog .none p96 (T96) ⟨⟨[(.int .i64 m), (.int .i64 many), (.int .i64 0), (.int .i64 p), (.int .i64 many), (.int .i64 (o (0 : Nat))), (.int .i64 (o (1 : Nat))), (.int .i64 (o (2 : Nat))), (.int .i64 (o (3 : Nat))), (.int .i64 (o (4 : Nat))), (.int .i64 (o (5 : Nat))), (.int .i64 (o (6 : Nat)))], [⟨n, c⟩]⟩, [(Dl), (Pl)], []⟩ (.exit ((0 : Nat))) (T96) ⟨⟨[(.int .i64 m), (.int .i64 many), (.int .i64 many), (.int .i64 p), (.int .i64 many), (.int .i64 (o (0 : Nat))), (.int .i64 (o (1 : Nat))), (.int .i64 (o (2 : Nat))), (.int .i64 (o (3 : Nat))), (.int .i64 (o (4 : Nat))), (.int .i64 (o (5 : Nat))), (.int .i64 (o (6 : Nat)))], [⟨n, c⟩]⟩, [(Dl2), (Pl2)], []⟩) ∧
R (.ret (.bool false)) [(.lst (Dl2)), (.lst (Pl2))])))) := by kernel_rfl
section
variable (p : Int) (o : Nat → Int) (n c many : Nat)
noncomputable def nats (g : Nat → Nat) : List Value := ints 7 fun i => (g i : Int)
def fitsN (D m : Nat) : Bool := fitsF o n (D : Int) m
noncomputable def stG (m h : Nat) (σ : Gs) : Hw := st96 p n c many o m (nats σ.D) (nats σ.P) h
noncomputable def outG (m h : Nat) (x : Bool × Gs) : AExit × Nat × Hw := match x with
  | (true, σ) => (.ret, 1, ⟨⟨[.bool true], []⟩, [nats σ.D, nats σ.P], []⟩)
  | (false, σ) => (.exit 0, 0, stG p o n c many m h σ)
noncomputable def C96 (m : Nat) (σ : Gs) (r : Bool × Gs) : ConW := CW96 p n c many o m (nats σ.D) (nats σ.P) r.1 (nats r.2.D) (nats r.2.P)
variable {p o n c many}
theorem nats_at (g : Nat → Nat) : ∀ v ∈ nats g, atomic v = true := ints_atoms 7 (fun i => (g i : Int)) _ List.mem_cons_self
theorem nats_get (g : Nat → Nat) {i : Nat} (h : i < 7) : (nats g)[0 + i * 1]? = some (I (g i : Nat)) := ints_get _ h
theorem nats_len (g : Nat → Nat) : (nats g).length = 7 := ints_len 7 _
theorem nats_put (g : Nat → Nat) {i : Nat} (v : Nat) (h : i < 7) : (nats g).take (0 + i * 1) ++ [I (v : Nat)] ++ (nats g).drop (0 + i * 1 + 1) = nats (updN g i v) := by
  unfold nats
  rw [ints_put _ _ h]
  congr 1
  funext k
  simp only [updF, updN]
  split <;> rfl
theorem clG (m h : Nat) (σ : Gs) : ClW (stG p o n c many m h σ) := by
  refine ⟨fun cs hcs v hv => ?_, fun es hes => (by cases hes)⟩
  simp only [stG, st96, List.mem_cons, List.not_mem_nil, or_false] at hcs
  rcases hcs with rfl | rfl <;> exact nats_at _ v hv
theorem clGR (D P : Nat → Nat) : ClW ⟨⟨[.bool true], []⟩, [nats D, nats P], []⟩ := by
  refine ⟨fun cs hcs v hv => ?_, fun es hes => (by cases hes)⟩
  simp only [List.mem_cons, List.not_mem_nil, or_false] at hcs
  rcases hcs with rfl | rfl <;> exact nats_at _ v hv
theorem round96 (hn : n ≤ 7) (hmany : many ≤ 7) {k m h : Nat} {σ : Gs} (hm : m < n) (hσ : GsOK σ)
    (ih : ∀ σ, GsOK σ → ConWOK Try.prog 96 (C96 p o n c many (m + 1) σ (giveF (fitsN o n) n many k (m + 1) σ)))
    {R : Nat → AExit → Hw → Prop}
    (h1 : h < many → ∀ σ', GsOK σ' → giveH (fitsN o n) (giveF (fitsN o n) n many k (m + 1)) m (many - h) h σ = giveH (fitsN o n) (giveF (fitsN o n) n many k (m + 1)) m (many - (h + 1)) (h + 1) σ' → R 0 .normal (stG p o n c many m (h + 1) σ'))
    (h2 : h < many → ∀ σ', giveH (fitsN o n) (giveF (fitsN o n) n many k (m + 1)) m (many - h) h σ = (true, σ') → R 1 .ret ⟨⟨[.bool true], []⟩, [nats σ'.D, nats σ'.P], []⟩)
    (h3 : ¬ h < many → R 0 (.exit 0) (stG p o n c many m h σ)) :
    ∃ hs, vx.code none (.l p96) (leafW [T96, R96] R) (T96.inst (stG p o n c many m h σ)) hs := by
  by_cases hh : h < many
  · have hw : IntKind.i64.wrap ((h : Int) + 1) = ((h + 1 : Nat) : Int) := wrapI (by omega) (by omega)
    have hwm : IntKind.i64.wrap ((m : Int) + 1) = ((m + 1 : Nat) : Int) := wrapI (by omega) (by omega)
    have e1 : many - h = (many - (h + 1)) + 1 := by omega
    have hj := joinT (σ.D h) m (hσ h) (by omega)
    have h97 := C97_ok (p := p) (c := c) (o := o) (n := n) (σ.D h : Nat) m hn (by omega)
    rw [e1] at h1 h2
    have L1 : (!fitsF o n (σ.D h : Nat) m) = true → R 0 .normal (stG p o n c many m (h + 1) σ) := fun hf => h1 hh σ hσ (giveH_skip (by
      show fitsF o n (σ.D h : Nat) m = false
      cases hx : fitsF o n (σ.D h : Nat) m with
      | false => rfl
      | true => rw [hx] at hf; cases hf))
    have fitT : (!fitsF o n (σ.D h : Nat) m) = false → fitsN o n (σ.D h) m = true := fun hf => by
      show fitsF o n (σ.D h : Nat) m = true
      cases hx : fitsF o n (σ.D h : Nat) m with
      | true => rfl
      | false => rw [hx] at hf; cases hf
    have hadd : GsOK ⟨updN σ.D h (σ.D h ||| 2 ^ m), updN σ.P m h⟩ := hσ.add (by omega) _
    have hC := ih _ hadd
    have hS := giveF_ok (fits := fitsN o n) (many := many) hn k (m + 1) ⟨updN σ.D h (σ.D h ||| 2 ^ m), updN σ.P m h⟩ (by omega) hadd
    generalize hr : giveF (fitsN o n) n many k (m + 1) ⟨updN σ.D h (σ.D h ||| 2 ^ m), updN σ.P m h⟩ = r at hC hS
    obtain ⟨rb, σ'⟩ := r
    have hPl : List.take (0 + m * 1) (nats σ.P) ++ [I (h : Nat)] ++ List.drop (0 + m * 1 + 1) (nats σ.P) = nats (updN σ.P m h) := nats_put _ _ (by omega)
    have hDl : List.take (0 + h * 1) (nats σ.D) ++ [I (joinI (σ.D h : Nat) (oneI m))] ++ List.drop (0 + h * 1 + 1) (nats σ.D) = nats (updN σ.D h (σ.D h ||| 2 ^ m)) := by
      rw [hj]; exact nats_put _ _ (by omega)
    simp only [C96] at hC
    rw [← hwm] at hC
    cases rb with
    | true =>
      refine ⟨_, (b96t p n c many m h o (fun i => (σ.D i : Int)) (fun i => (σ.P i : Int)) (nats σ.D) (nats σ.P) (nats (updN σ.D h (σ.D h ||| 2 ^ m))) (nats (updN σ.P m h)) (nats σ'.D) (nats σ'.P) R).mpr ⟨fun _ => ?_, fun h => absurd (by omega) (of_decide_eq_false h)⟩⟩
      refine ⟨⟨⟨by omega, by omega⟩, rfl⟩, nats_get _ (by omega), h97, rfl, fun hf => ?_, fun hf => ?_⟩
      · rw [hw]; exact L1 hf
      · exact ⟨⟨⟨by omega, by omega⟩, rfl⟩, ⟨by rw [nats_len]; omega, hPl⟩, ⟨⟨by omega, by omega⟩, rfl⟩, C74_ok _ _, rfl, ⟨⟨by omega, by omega⟩, rfl⟩, ⟨by rw [nats_len]; omega, hDl⟩, hC, rfl, h2 hh σ' (giveH_true (fitT hf) hr)⟩
    | false =>
      have hDl4 : List.take (0 + h * 1) (nats σ'.D) ++ [I (σ.D h : Nat)] ++ List.drop (0 + h * 1 + 1) (nats σ'.D) = nats (updN σ'.D h (σ.D h)) := nats_put _ _ (by omega)
      refine ⟨_, (b96f p n c many m h o (fun i => (σ.D i : Int)) (fun i => (σ.P i : Int)) (nats σ.D) (nats σ.P) (nats (updN σ.D h (σ.D h ||| 2 ^ m))) (nats (updN σ.P m h)) (nats σ'.D) (nats σ'.P) (nats (updN σ'.D h (σ.D h))) R).mpr ⟨fun _ => ?_, fun h => absurd (by omega) (of_decide_eq_false h)⟩⟩
      refine ⟨⟨⟨by omega, by omega⟩, rfl⟩, nats_get _ (by omega), h97, rfl, fun hf => ?_, fun hf => ?_⟩
      · rw [hw]; exact L1 hf
      · refine ⟨⟨⟨by omega, by omega⟩, rfl⟩, ⟨by rw [nats_len]; omega, hPl⟩, ⟨⟨by omega, by omega⟩, rfl⟩, C74_ok _ _, rfl, ⟨⟨by omega, by omega⟩, rfl⟩, ⟨by rw [nats_len]; omega, hDl⟩, hC, rfl, ⟨⟨by omega, by omega⟩, rfl⟩, ⟨by rw [nats_len]; omega, hDl4⟩, ?_⟩
        rw [hw]
        exact h1 hh _ (hS.upd (hσ h) _) (giveH_false (fitT hf) hr)
  · refine ⟨_, (b96t p n c many m h o (fun i => (σ.D i : Int)) (fun i => (σ.P i : Int)) (nats σ.D) (nats σ.P) [] [] [] [] R).mpr ⟨fun h => absurd (of_decide_eq_true h) (by omega), fun _ => h3 hh⟩⟩
theorem loop96 (hn : n ≤ 7) (hmany : many ≤ 7) {k m : Nat} {σ : Gs} (hm : m < n) (hσ : GsOK σ)
    (ih : ∀ σ, GsOK σ → ConWOK Try.prog 96 (C96 p o n c many (m + 1) σ (giveF (fitsN o n) n many k (m + 1) σ)))
    {T' : Tw} (hT' : [T96, R96][(outG p o n c many m many (giveH (fitsN o n) (giveF (fitsN o n) n many k (m + 1)) m many 0 σ)).2.1]? = some T') :
    LoopOW Try.prog none p96 T96 (stG p o n c many m 0 σ) (outG p o n c many m many (giveH (fitsN o n) (giveF (fitsN o n) n many k (m + 1)) m many 0 σ)).1 T' (outG p o n c many m many (giveH (fitsN o n) (giveF (fitsN o n) n many k (m + 1)) m many 0 σ)).2.2 := by
  refine loop_vcW (Ts := [T96, R96]) (k := 7) (X := Nat × Gs) (inv := fun x => x.1 ≤ many ∧ GsOK x.2) (μ := fun x => many - x.1) (st := fun x => (0, stG p o n c many m x.1 x.2))
    (out := fun x => outG p o n c many m many (giveH (fitsN o n) (giveF (fitsN o n) n many k (m + 1)) m (many - x.1) x.1 x.2)) rfl vx_sound ?_ (by rw [nglob]; omega) (fun x hx => ?_) (x := (0, σ)) ⟨Nat.zero_le many, hσ⟩ rfl (Nat.le_of_ble_eq_true rfl) (by decide) hT'
  · intro T hT
    simp only [List.mem_cons, List.not_mem_nil, or_false] at hT
    rcases hT with rfl | rfl <;> rfl
  · obtain ⟨h, σ⟩ := x
    obtain ⟨hh, hσ⟩ := hx
    obtain ⟨hs, hr⟩ := round96 (h := h) hn hmany hm hσ ih (R := RoundW (fun x : Nat × Gs => x.1 ≤ many ∧ GsOK x.2) (fun x => many - x.1) (fun x => (0, stG p o n c many m x.1 x.2)) (fun x => outG p o n c many m many (giveH (fitsN o n) (giveF (fitsN o n) n many k (m + 1)) m (many - x.1) x.1 x.2)) (h, σ))
      (fun hlt σ' q1 q2 => ⟨⟨clG m _ _, trivial⟩, .inl ⟨rfl, (h + 1, σ'), ⟨hlt, q1⟩, by show many - (h + 1) < many - h; omega, rfl, by show outG p o n c many m many (giveH (fitsN o n) (giveF (fitsN o n) n many k (m + 1)) m (many - (h + 1)) (h + 1) σ') = outG p o n c many m many (giveH (fitsN o n) (giveF (fitsN o n) n many k (m + 1)) m (many - h) h σ); rw [q2]⟩⟩)
      (fun hlt σ' q1 => ⟨⟨clGR _ _, trivial⟩, .inr ⟨by simp, by show outG p o n c many m many (giveH (fitsN o n) (giveF (fitsN o n) n many k (m + 1)) m (many - h) h σ) = _; rw [q1]; rfl⟩⟩)
      (fun hge => ⟨⟨clG m _ _, trivial⟩, .inr ⟨by simp, by
        have e : h = many := by have h9 : h ≤ many := hh; omega
        subst e
        show outG p o n c h m h (giveH (fitsN o n) (giveF (fitsN o n) n h k (m + 1)) m (h - h) h σ) = _
        rw [Nat.sub_self]
        rfl⟩⟩)
    exact ⟨T96, hs, rfl, hr⟩
theorem C96_ok (hn : n ≤ 7) (hmany : many ≤ 7) (k : Nat) : ∀ m σ, m ≤ n → n - m < k → GsOK σ → ConWOK Try.prog 96 (C96 p o n c many m σ (giveF (fitsN o n) n many k m σ)) := by
  induction k with
  | zero => intro m σ _ h; omega
  | succ k ih =>
    intro m σ hm hk hσ
    refine conW_of vx_sound (callable 96 _ _ rfl rfl) (fun x hx => ?_) (fun x _ => ⟨rfl, fun b hb => ?_⟩) (fun x hx => ?_) (Nat.le_of_ble_eq_true rfl) (by rw [nglob]; exact Nat.zero_le _)
    · cases hx
      by_cases he : m = n
      · have hg : giveF (fitsN o n) n many (k + 1) m σ = (true, σ) := by simp only [giveF, if_pos he]
        rw [hg]
        refine ⟨_, (f96t p n c many m o (nats σ.D) (nats σ.P) [] [] _).mpr ⟨fun _ => ⟨rfl, rfl⟩, fun h => absurd h (by simp [he])⟩⟩
      · have hg : giveF (fitsN o n) n many (k + 1) m σ = giveH (fitsN o n) (giveF (fitsN o n) n many k (m + 1)) m many 0 σ := by simp only [giveF, if_neg he]
        have hne : ¬ ((m : Int) == (n : Int)) = true := by simp; omega
        have hl := fun T' => loop96 (T' := T') (p := p) (c := c) hn hmany (k := k) (m := m) (σ := σ) (by omega) hσ (fun σ hσ => ih (m + 1) σ (by omega) (by omega) hσ)
        rw [hg]
        generalize giveH (fitsN o n) (giveF (fitsN o n) n many k (m + 1)) m many 0 σ = r at hl
        obtain ⟨b, σ'⟩ := r
        cases b with
        | true => exact ⟨_, (f96t p n c many m o (nats σ.D) (nats σ.P) (nats σ'.D) (nats σ'.P) _).mpr ⟨fun h => absurd h hne, fun _ => ⟨clG m 0 σ, hl R96 rfl, rfl, rfl⟩⟩⟩
        | false => exact ⟨_, (f96f p n c many m o (nats σ.D) (nats σ.P) (nats σ'.D) (nats σ'.P) _).mpr ⟨fun h => absurd h hne, fun _ => ⟨clG m 0 σ, hl T96 rfl, rfl, rfl⟩⟩⟩
    · simp only [C96, CW96, List.mem_cons, List.not_mem_nil, or_false] at hb
      rcases hb with rfl | rfl <;> exact nats_at _
    · cases hx
      exact ⟨fun cs hcs v hv => by
        simp only [List.mem_cons, List.not_mem_nil, or_false] at hcs
        rcases hcs with rfl | rfl <;> exact nats_at _ v hv, fun es hes => by cases hes⟩
end
end Go.Ab
