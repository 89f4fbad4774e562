/- what the law calls: examples, contracts by what they return. -/
import Derived.Test.YtamfplmmfbbabaaUV
import Derived.Test.YtamfplmmfbbabaaUW
import Derived.Test.YtamfplmmfbbabaaUT
import Derived.Test.YtamfplmmfbbabaaUR
import Init
import Derived.Test.YtamfplmmfbbabaaUA
set_option maxRecDepth 100000
namespace Go.Ab
open Go Go.RowKit Go.Proofs
noncomputable def C12 : Con where
  A := .nil
  bs := []
  pre x := x = ⟨⟨[], []⟩, []⟩
  res _ := .ret (.bool true)
theorem C12_ok : ConOK Try.prog 12 C12 where
  calls := aw_ok.calls
  says x hp := by cases hp; exact aw_ok.says.mono fun r H hr => hr
  closed _ _ := rfl
  atoms x hp := by cases hp; intro cs hcs; cases hcs
  ro := rfl
  small := Nat.zero_le _
  glob := by rw [nglob]; exact Nat.zero_le _
end Go.Ab
set_option maxRecDepth 100000
namespace Go.Ab
open Go Go.RowKit Go.Proofs
theorem wrapsI (n : Int) (h0 : 0 ≤ n) (h1 : n < 2 ^ 62) : IntKind.i64.wrap n = n := wrapI (by omega) (by omega)
theorem or_nat (a b : Nat) (ha : a < 2 ^ 62) (hb : b < 2 ^ 62) : bits .or .i64 (a : Int) (b : Int) = ((a ||| b : Nat) : Int) := (bits_nat .i64 62 (by decide) wrapsI a b ha hb).2
theorem and_nat (a b : Nat) (ha : a < 2 ^ 62) (hb : b < 2 ^ 62) : bits .and .i64 (a : Int) (b : Int) = ((a &&& b : Nat) : Int) := (bits_nat .i64 62 (by decide) wrapsI a b ha hb).1
def maskN (b : Nat → Bool) : Nat → Nat
  | 0 => 0
  | j + 1 => if b j then maskN b j ||| 2 ^ j else maskN b j
theorem maskN_lt (b : Nat → Bool) (j : Nat) : maskN b j < 2 ^ j := by
  induction j with
  | zero => simp [maskN]
  | succ j ih =>
    have h2 : 2 ^ (j + 1) = 2 ^ j + 2 ^ j := by rw [Nat.pow_succ]; omega
    simp only [maskN]
    split
    · exact Nat.or_lt_two_pow (by omega) (by omega)
    · omega
theorem maskN_bit (b : Nat → Bool) (j k : Nat) : (maskN b j).testBit k = (decide (k < j) && b k) := by
  induction j with
  | zero => simp [maskN]
  | succ j ih =>
    simp only [maskN]
    by_cases hk : k = j
    · subst hk
      cases hb : b k with
      | true => simp [hb, Nat.testBit_or, Nat.testBit_two_pow_self]
      | false => simp [hb, ih]
    · have hne : j ≠ k := fun h => hk h.symm
      have e : decide (k < j + 1) = decide (k < j) := by
        by_cases h : k < j
        · simp [h]; omega
        · simp [h]; omega
      rw [e]
      split
      · rw [Nat.testBit_or, ih, Nat.testBit_two_pow_of_ne hne, Bool.or_false]
      · exact ih
theorem one_nat (j : Nat) (h : j ≤ 61) : oneI j = ((2 ^ j : Nat) : Int) := by
  have h1 : 2 ^ j ≤ 2 ^ 61 := Nat.pow_le_pow_right (by omega) h
  have h2 : (2 : Nat) ^ 61 < 2 ^ 62 := by decide
  have e : (1 : Int) * 2 ^ j = ((2 ^ j : Nat) : Int) := by simp
  rw [oneI, e]
  have h3 : (2 : Nat) ^ 61 = 2305843009213693952 := by decide
  rw [h3] at h1
  generalize 2 ^ j = z at h1
  exact wrapI (by omega) (by omega)
theorem rowI_mask (b : Nat → Bool) (j : Nat) (h : j ≤ 61) : rowI b 0 j = (maskN b j : Int) := by
  induction j with
  | zero => rfl
  | succ j ih =>
    have hm := maskN_lt b j
    have hp : 2 ^ j ≤ 2 ^ 61 := Nat.pow_le_pow_right (by omega) (by omega)
    have h2 : (2 : Nat) ^ 61 < 2 ^ 62 := by decide
    simp only [rowI, maskN]
    split
    · rw [ih (by omega), one_nat j (by omega), joinI]
      have e0 : bits .or .i64 0 (maskN b j : Int) = (maskN b j : Int) := by
        have := or_nat 0 (maskN b j) (by decide) (by omega)
        simpa using this
      rw [e0, or_nat _ _ (by omega) (by omega)]
    · exact ih (by omega)
theorem hasI_mask (m j : Nat) (hm : m < 2 ^ 62) : hasI (m : Int) j = m.testBit j := by
  have e : (m : Int) / 2 ^ j = ((m / 2 ^ j : Nat) : Int) := by simp
  have hd : m / 2 ^ j < 2 ^ 62 := Nat.lt_of_le_of_lt (Nat.div_le_self _ _) hm
  simp only [hasI, e]
  have h1 := and_nat (m / 2 ^ j) 1 hd (by decide)
  rw [show ((1 : Nat) : Int) = 1 from rfl] at h1
  rw [h1, Nat.testBit_eq_decide_div_mod_eq, Nat.and_one_is_mod]
  have hmod : m / 2 ^ j % 2 = 0 ∨ m / 2 ^ j % 2 = 1 := by omega
  rcases hmod with h | h <;> simp [h]
theorem hasI_row (b : Nat → Bool) {n j : Nat} (hn : n ≤ 7) (hj : j < n) : hasI (rowI b 0 n) j = b j := by
  have h1 := maskN_lt b n
  have h2 : 2 ^ n ≤ 2 ^ 7 := Nat.pow_le_pow_right (by omega) hn
  have h3 : (2 : Nat) ^ 7 < 2 ^ 62 := by decide
  rw [rowI_mask b n (by omega), hasI_mask _ _ (by omega), maskN_bit]
  simp [hj]
theorem hasI_ord (sure : Bool) (p : Int) {n : Nat} (f : Nat → Mv) {i j : Nat} (hn : n ≤ 7) (hi : i < n) (hj : j < n) : hasI (ordF sure p n f n i) j = canB sure p f i j := by
  simp only [ordF, if_pos hi]
  exact hasI_row _ hn hj
end Go.Ab
set_option maxRecDepth 100000
namespace Go.Ab
open Go Go.RowKit Go.Proofs
def swp (τ : Nat → Nat) (a b : Nat) : Nat → Nat := fun k => if k = a then τ b else if k = b then τ a else τ k
def sink (A : Nat → Int) : Nat → (Nat → Nat) → (Nat → Nat)
  | 0, τ => τ
  | j + 1, τ => if A (τ (j + 1)) < A (τ j) then sink A j (swp τ (j + 1) j) else τ
def srt (A : Nat → Int) : Nat → Nat → Nat
  | 0 => fun k => k
  | i + 1 => sink A i (srt A i)
def Lx (A : Nat → Int) (x y : Nat) : Prop := A x < A y ∨ (A x = A y ∧ x < y)
theorem Lx.trans {A : Nat → Int} {x y z : Nat} (h : Lx A x y) (g : Lx A y z) : Lx A x z := by
  unfold Lx at *; omega
theorem Lx.irrefl {A : Nat → Int} {x : Nat} (h : Lx A x x) : False := by
  unfold Lx at h; omega
structure Srt (A : Nat → Int) (i : Nat) (τ : Nat → Nat) : Prop where
  out : ∀ k, i ≤ k → τ k = k
  lt : ∀ k, k < i → τ k < i
  all : ∀ m, m < i → ∃ k, k < i ∧ τ k = m
  srt : ∀ a b, a < b → b < i → Lx A (τ a) (τ b)
theorem Srt.inj {A : Nat → Int} {i : Nat} {τ : Nat → Nat} (h : Srt A i τ) {a b : Nat} (ha : a < i) (hb : b < i) (he : τ a = τ b) : a = b := by
  rcases Nat.lt_trichotomy a b with h1 | h1 | h1
  · have := h.srt a b h1 hb; rw [he] at this; exact this.irrefl.elim
  · exact h1
  · have := h.srt b a h1 ha; rw [he] at this; exact this.irrefl.elim
end Go.Ab
set_option maxRecDepth 100000
namespace Go.Ab
open Go Go.RowKit Go.Proofs
theorem allFrom_iff (b : Nat → Bool) : ∀ (r m : Nat), allFrom b r m = true → ∀ i, m ≤ i → i < m + r → b i = true := by
  intro r
  induction r with
  | zero => intro m _ i h1 h2; omega
  | succ r ih =>
    intro m h i h1 h2
    simp only [allFrom, Bool.and_eq_true] at h
    by_cases e : i = m
    · subst e; exact h.1
    · exact ih (m + 1) h.2 i (by omega) (by omega)
structure MvOK (m : Mv) : Prop where
  at0 : 0 ≤ m.at_
  at1 : m.at_ ≤ 200
  pl0 : 0 ≤ m.place
  pl1 : m.place ≤ 30
  lo1 : 1 ≤ m.lo
  lohi : m.lo ≤ m.hi
  hi1 : m.hi ≤ 20
theorem okMv_iff {m : Mv} (h : okMv m = true) : MvOK m := by
  simp only [okMv, Bool.and_eq_true, decide_eq_true_eq, Bool.not_eq_true', decide_eq_false_iff_not] at h
  obtain ⟨h1, h2, h3, h4, h5, h6, h7⟩ := h
  exact ⟨h1, h2, h3, h4, by omega, by omega, by omega⟩
structure HOK (p : Int) (n : Nat) (f : Nat → Mv) : Prop where
  p0 : 0 ≤ p
  p3 : p ≤ 3
  n7 : n ≤ 7
  mv : ∀ i, i < n → MvOK (f i)
theorem okH_iff {p : Int} {n : Nat} {f : Nat → Mv} (h : okH p n f = true) : HOK p n f := by
  simp only [okH, Bool.and_eq_true, decide_eq_true_eq, Bool.not_eq_true', decide_eq_false_iff_not] at h
  obtain ⟨h1, h2, h3, h4⟩ := h
  exact ⟨h1, h2, by omega, fun i hi => okMv_iff (allFrom_iff _ n 0 h4 i (by omega) (by omega))⟩
def distI (a b : Mv) : Int := if b.place - a.place > a.place - b.place then b.place - a.place else a.place - b.place
theorem distI_bounds {a b : Mv} (ha : MvOK a) (hb : MvOK b) : 0 ≤ distI a b ∧ distI a b ≤ 30 := by
  have := ha.pl0; have := ha.pl1; have := hb.pl0; have := hb.pl1
  simp only [distI]; split <;> omega
theorem mul_bounds {p x : Int} (h0 : 0 ≤ p) (h3 : p ≤ 3) (hx : 0 ≤ x) (hx3 : x ≤ 30) : 0 ≤ p * x ∧ p * x ≤ 90 := by
  have : p = 0 ∨ p = 1 ∨ p = 2 ∨ p = 3 := by omega
  rcases this with rfl | rfl | rfl | rfl <;> omega
theorem canB_eq {p : Int} {n : Nat} {f : Nat → Mv} (h : HOK p n f) (sure : Bool) {i j : Nat} (hi : i < n) (hj : j < n) : canB sure p f i j = decide ((f i).at_ + cond sure (f i).hi (f i).lo + p * distI (f i) (f j) ≤ (f j).at_) := by
  have ha := h.mv i hi
  have hb := h.mv j hj
  have a1 := ha.at0; have a2 := ha.at1; have a3 := ha.pl0; have a4 := ha.pl1; have a5 := ha.lo1; have a6 := ha.lohi; have a7 := ha.hi1
  have b1 := hb.at0; have b2 := hb.at1; have b3 := hb.pl0; have b4 := hb.pl1
  have hL : 1 ≤ cond sure (f i).hi (f i).lo ∧ cond sure (f i).hi (f i).lo ≤ 20 := by cases sure <;> simp only [cond_true, cond_false] <;> omega
  have e1 : IntKind.i64.wrap ((f j).place - (f i).place) = (f j).place - (f i).place := wrapI (by omega) (by omega)
  have e2 : IntKind.i64.wrap ((f i).place - (f j).place) = (f i).place - (f j).place := wrapI (by omega) (by omega)
  have hd := distI_bounds ha hb
  have hm := mul_bounds h.p0 h.p3 hd.1 hd.2
  simp only [canB, canW, doneW, e1, e2]
  rw [show (if (f j).place - (f i).place > (f i).place - (f j).place then (f j).place - (f i).place else (f i).place - (f j).place) = distI (f i) (f j) from rfl]
  generalize cond sure (f i).hi (f i).lo = L at hL
  generalize p * distI (f i) (f j) = w at hm
  rw [wrapI (x := w) (by omega) (by omega), wrapI (x := (f i).at_ + L) (by omega) (by omega), wrapI (x := (f i).at_ + L + w) (by omega) (by omega)]
end Go.Ab
set_option maxRecDepth 100000
namespace Go.Ab
open Go Go.RowKit Go.Proofs
section
variable {α : Type}
def getA : List (Int × α) → Int → Option α
  | [], _ => none
  | e :: l, h => if h = e.1 then some e.2 else getA l h
def setA : List (Int × α) → Int → α → List (Int × α)
  | [], h, a => [(h, a)]
  | e :: l, h, a => if h = e.1 then (h, a) :: l else e :: setA l h a
theorem get_set (M : List (Int × α)) (h h' : Int) (a : α) : getA (setA M h a) h' = if h' = h then some a else getA M h' := by
  induction M with
  | nil => simp only [setA, getA]
  | cons e l ih =>
    simp only [setA]
    split
    · rename_i he
      subst he
      simp only [getA]
      split <;> rfl
    · rename_i he
      simp only [getA, ih]
      by_cases h1 : h' = e.1
      · subst h1
        rw [if_pos rfl, if_neg (fun hh => he hh.symm), if_pos rfl]
      · rw [if_neg h1]
        split
        · rfl
        · rfl
end
theorem flatC_congr {n : Nat} {g g' : Nat → List Value} (h : ∀ i, i < n → g i = g' i) : flatC n g = flatC n g' := by
  induction n with
  | zero => rfl
  | succ n ih => rw [flatC_succ, flatC_succ, ih (fun i hi => h i (by omega)), h n (by omega)]
theorem flatC_set {n k : Nat} {g : Nat → List Value} (hk : ∀ i, i < n → (g i).length = k) {i : Nat} (hi : i < n) {v : List Value} (hv : v.length = k) :
    (flatC n g).take (i * k) ++ v ++ (flatC n g).drop (i * k + k) = flatC n fun x => if x = i then v else g x := by
  induction n with
  | zero => omega
  | succ n ih =>
    have hl := flatC_len (n := n) (g := g) (k := k) fun i hi => hk i (by omega)
    rw [flatC_succ, flatC_succ]
    by_cases h : i = n
    · subst h
      rw [if_pos rfl, List.take_append_of_le_length (by omega), List.take_of_length_le (by omega), List.drop_append, List.drop_eq_nil_of_le (by omega), List.nil_append, hl, List.drop_eq_nil_of_le (by rw [hk i (by omega)]; omega), List.append_nil]
      congr 1
      exact flatC_congr fun x hx => by rw [if_neg (by omega)]
    · have h2 := ih (fun i hi => hk i (by omega)) (by omega)
      have h3 := flatC_bound (n := n) (k := k) (i := i) (by omega)
      rw [if_neg (fun e => h e.symm), List.take_append_of_le_length (by omega), List.drop_append_of_le_length (by omega), ← List.append_assoc, h2]
theorem ints_put {n i : Nat} (o : Nat → Int) (v : Int) (hi : i < n) : (ints n o).take (0 + i * 1) ++ [I v] ++ (ints n o).drop (0 + i * 1 + 1) = ints n (updF o i v) := by
  have h := flatC_set (n := n) (k := 1) (g := fun i => [I (o i)]) (fun _ _ => rfl) hi (v := [I v]) rfl
  rw [Nat.zero_add]
  refine (show _ = _ from h).trans ?_
  refine flatC_congr fun x _ => ?_
  simp only [updF]
  split <;> rfl
end Go.Ab
namespace Go.Ab
open Go Go.RowKit
variable [TT] [PR]
section
variable {P : Program} {ro : Option Nat} {N : Nat} {V : Vx}
theorem loop_forW (htt : TT.tt = true) (hV : VSound P N V) {p : Loc} {Ts : List Tw} {k n : Nat} {st : Nat → Nat × Hw} {e : AExit} (hk : ∀ T ∈ Ts, T.k = k) (hg : P.globals.size ≤ k) (he : e ≠ .normal ∧ exitOK e) (hcl : ∀ i, i ≤ n → ClW (st i).2)
    (round : ∀ i, i < n → ∀ R : Nat → AExit → Hw → Prop, R (st (i + 1)).1 .normal (st (i + 1)).2 → ∃ T hs, Ts[(st i).1]? = some T ∧ V.code ro (.l p) (leafW Ts R) (T.inst (st i).2) hs)
    (last : ∀ R : Nat → AExit → Hw → Prop, R (st n).1 e (st n).2 → ∃ T hs, Ts[(st n).1]? = some T ∧ V.code ro (.l p) (leafW Ts R) (T.inst (st n).2) hs)
    {T0 T1 : Tw} (h0 : Ts[(st 0).1]? = some T0) (h0k : T0.blocks.length ≤ k) (hs0 : k ≤ 1000000) (h1 : Ts[(st n).1]? = some T1) : LoopOW P ro p T0 (st 0).2 e T1 (st n).2 := by
  refine loop_vcW htt hV (Ts := Ts) (k := k) (X := Nat) (inv := fun i => i ≤ n) (μ := fun i => n - i) (st := st) (out := fun _ => (e, (st n).1, (st n).2)) hk hg (fun i hi => ?_) (Nat.zero_le n) (x := 0) h0 h0k hs0 h1
  by_cases h : i = n
  · subst h
    exact last _ ⟨⟨hcl i (Nat.le_refl i), he.2⟩, .inr ⟨he.1, rfl⟩⟩
  · exact round i (by omega) _ ⟨⟨hcl (i + 1) (by omega), trivial⟩, .inl ⟨rfl, i + 1, by omega, by show n - (i + 1) < n - i; omega, rfl, rfl⟩⟩
def runX (ex : Nat → Option (AExit × Nat × Hw)) (fin : AExit × Nat × Hw) : Nat → Nat → AExit × Nat × Hw
  | 0, _ => fin
  | r + 1, i => match ex i with | some o => o | none => runX ex fin r (i + 1)
theorem loop_untilW (htt : TT.tt = true) (hV : VSound P N V) {p : Loc} {Ts : List Tw} {k n : Nat} {st : Nat → Nat × Hw} {e : AExit} {ex : Nat → Option (AExit × Nat × Hw)} (hk : ∀ T ∈ Ts, T.k = k) (hg : P.globals.size ≤ k) (he : e ≠ .normal ∧ exitOK e) (hcl : ∀ i, i ≤ n → ClW (st i).2)
    (hex : ∀ i o, i < n → ex i = some o → o.1 ≠ .normal ∧ exitOK o.1 ∧ ClW o.2.2)
    (round : ∀ i, i < n → ∀ R : Nat → AExit → Hw → Prop, (ex i = none → R (st (i + 1)).1 .normal (st (i + 1)).2) → (∀ o, ex i = some o → R o.2.1 o.1 o.2.2) → ∃ T hs, Ts[(st i).1]? = some T ∧ V.code ro (.l p) (leafW Ts R) (T.inst (st i).2) hs)
    (last : ∀ R : Nat → AExit → Hw → Prop, R (st n).1 e (st n).2 → ∃ T hs, Ts[(st n).1]? = some T ∧ V.code ro (.l p) (leafW Ts R) (T.inst (st n).2) hs)
    {s : Nat} (hsn : s ≤ n) {T0 T1 : Tw} (h0 : Ts[(st s).1]? = some T0) (h0k : T0.blocks.length ≤ k) (hs0 : k ≤ 1000000) (h1 : Ts[(runX ex (e, (st n).1, (st n).2) (n - s) s).2.1]? = some T1) :
    LoopOW P ro p T0 (st s).2 (runX ex (e, (st n).1, (st n).2) (n - s) s).1 T1 (runX ex (e, (st n).1, (st n).2) (n - s) s).2.2 := by
  refine loop_vcW htt hV (Ts := Ts) (k := k) (X := Nat) (inv := fun i => i ≤ n) (μ := fun i => n - i) (st := st) (out := fun i => runX ex (e, (st n).1, (st n).2) (n - i) i) hk hg (fun i hi => ?_) hsn (x := s) h0 h0k hs0 h1
  have step : i < n → runX ex (e, (st n).1, (st n).2) (n - i) i = match ex i with | some o => o | none => runX ex (e, (st n).1, (st n).2) (n - (i + 1)) (i + 1) := fun h => by
    have e1 : n - i = (n - (i + 1)) + 1 := by omega
    rw [e1]; rfl
  by_cases h : i = n
  · subst h
    refine last _ ⟨⟨hcl i (Nat.le_refl i), he.2⟩, .inr ⟨he.1, ?_⟩⟩
    simp only [Nat.sub_self, runX]
  · refine round i (by omega) _ (fun hx => ⟨⟨hcl (i + 1) (by omega), trivial⟩, .inl ⟨rfl, i + 1, by omega, by show n - (i + 1) < n - i; omega, rfl, ?_⟩⟩) (fun o hx => ⟨⟨(hex i o (by omega) hx).2.2, (hex i o (by omega) hx).2.1⟩, .inr ⟨(hex i o (by omega) hx).1, ?_⟩⟩)
    · have h2 := step (by omega)
      rw [hx] at h2
      exact h2.symm
    · have h2 := step (by omega)
      rw [hx] at h2
      exact h2
end
end Go.Ab
namespace Go.Ab
open Go Go.RowKit
variable [TT] [PR] {P : Program}
end Go.Ab
namespace Go.Ab
open Go Go.RowKit
noncomputable def getW : List TBc → Nat → Tr XB → Option (List WB)
  | [], _, _ => some []
  | .wlist e k :: l, j, t => (t.get j).bind fun b => (cellsX b).bind fun x => cond (Nat.beq e x.2.1 && kEq k x.2.2) ((getW l (Nat.succ j) t).bind fun r => some (.lst x.1 :: r)) none
  | .wmap :: l, j, t => (t.get j).bind fun b => (mapX b).bind fun es => (getW l (Nat.succ j) t).bind fun r => some (.mp es :: r)
  | _ :: l, j, t => getW l (Nat.succ j) t
noncomputable def retW (bs : List TBc) (R : ARes → List WB → Prop) : ARes → Mem → HS → Prop := fun r m _ =>
  match getW bs 0 m.h with
  | some ws => R r ws
  | none => False
noncomputable def rowT3 (N : Nat) (e : TypeId) : Tm := ⟨1, [some (.tuple (.hole (.slice N 0 (.hole .nil))) .nil)], N, List.replicate N .dead ++ [.list e .row]⟩
variable [TT] [PR] {P : Program}
theorem getW_sound (l : List TBc) : ∀ {i : Nat} {t : Tr XB} {ws : List WB}, getW l i t = some ws → ∀ p ∈ putG l i ws, t.get p.1 = some p.2 := by
  have _ := TT.tt
  have _ := PR.prog
  induction l with
  | nil => intro i t ws _ p hp; cases hp
  | cons o l ih =>
    intro i t ws h p hp
    cases o with
    | dead => exact ih h p hp
    | rlist e => exact ih h p hp
    | rcells T e => exact ih h p hp
    | wlist e k =>
      simp only [getW] at h
      obtain ⟨b, eb, h⟩ := bindSome h
      obtain ⟨y, ey, h⟩ := bindSome h
      obtain ⟨hc, h⟩ := condSome h
      obtain ⟨r, er, h⟩ := bindSome h
      cases h
      simp only [Bool.and_eq_true] at hc
      simp only [putG, List.head?_cons, List.tail_cons, List.mem_cons] at hp
      rcases hp with rfl | hp
      · rw [eb, cellsX_eq ey, Nat.eq_of_beq_eq_true hc.1, kEq_eq2 hc.2]; rfl
      · exact ih er p hp
    | wmap =>
      simp only [getW] at h
      obtain ⟨b, eb, h⟩ := bindSome h
      obtain ⟨y, ey, h⟩ := bindSome h
      obtain ⟨r, er, h⟩ := bindSome h
      cases h
      have hb : b = .map y := by unfold mapX at ey; split at ey <;> cases ey; rfl
      simp only [putG, List.head?_cons, List.tail_cons, List.mem_cons] at hp
      rcases hp with rfl | hp
      · rw [eb, hb]; rfl
      · exact ih er p hp
theorem conW_of {N : Nat} {V : Vx} (hV : VSound P N V) {f : FuncId} {C : ConW} (hcall : Callable P f) (h : ∀ x, C.pre x → ∃ hs, V.call f (C.args x) (retW C.bs fun r ws => r = C.res x ∧ ws = C.out x) (C.mem x) hs)
    (hc : ∀ x, C.pre x → clR 50 (C.res x) = true ∧ ∀ b ∈ C.out x, b.ok) (ha : ∀ x, C.pre x → ClW x) (hs : C.bs.length ≤ 1000000) (hg : P.globals.size ≤ C.bs.length) : ConWOK P f C where
  calls := hcall
  says x hp := by
    obtain ⟨hs, hv⟩ := h x hp
    refine (hV.call hv).2.mono ?_
    rintro r H ⟨m, hs', hk, rfl⟩
    unfold retW at hk
    split at hk
    · rename_i ws hw
      obtain ⟨rfl, rfl⟩ := hk
      exact ⟨rfl, fun p hp => Mem.get_H (getW_sound _ hw p hp)⟩
    · exact hk.elim
  closed := hc
  atoms := ha
  small := hs
  glob := hg
theorem conRow3_of {N : Nat} {V : Vx} (htt : TT.tt = true) (hV : VSound P N V) {f : FuncId} {C : ConN} {e : TypeId} {cells : List Value} {n : Nat} {y0 z : Int} (x0 : Hx) (hx0 : ∀ x, C.pre x ↔ x = x0) (hone : C.one = false) (hres : C.res x0 = [.cv (.int .i64 y0), .sl 0 n, .cv (.int .i64 z)]) (hnews : C.news x0 = [(cells, e)])
    (h : ∃ hs, V.call f (C.con.args x0) (retN (rowT3 C.bs.length e) fun y => y = ⟨⟨[.int .i64 y0, .int .i64 z], [(n, n)]⟩, [cells]⟩) (C.con.mem x0) hs) (ha : Atoms x0.ls) (hat : ∀ v ∈ cells, atomic v = true)
    (hr : allRo C.bs = true) (hs : C.bs.length ≤ 100000) (hg : P.globals.size ≤ C.bs.length) : ConNOK P f C where
  calls := by obtain ⟨hs, hv⟩ := h; exact (hV.call hv).1
  says x hp := by
    cases (hx0 x).1 hp
    obtain ⟨hs', hv⟩ := h
    have hlen : (rowT3 C.bs.length e).blocks.length = C.bs.length + 1 := by simp [rowT3]
    have hval : ((rowT3 C.bs.length e).inst ⟨⟨[.int .i64 y0, .int .i64 z], [(n, n)]⟩, [cells]⟩).a.f 0 = some (.tuple ⟨[.int .i64 y0, .slice (some ⟨C.bs.length, 0, none⟩) n n, .int .i64 z]⟩) := rfl
    refine (retN_says htt hV (T := rowT3 C.bs.length e) rfl (by exact hg) (fun j hj => ?_) (fun cs hcs => by simp only [List.mem_singleton] at hcs; subst hcs; exact hat) hv hval).mono ?_
    · have hj' : C.bs.length ≤ j := hj
      have := Con.mem_H (C := C.con) (x := x0) (by show C.bs.length ≤ _; omega) j
      rw [this, List.getElem?_eq_none (by rw [instB_len]; exact hj')]
      rfl
    · rintro r H' ⟨rfl, rfl⟩
      refine ⟨?_, fun t cs e' ht => ?_⟩
      · rw [hone, hres]; rfl
      · rw [hnews] at ht
        match t, ht with
        | 0, ht =>
          simp only [List.getElem?_cons_zero, Option.some.injEq, Prod.mk.injEq] at ht
          obtain ⟨rfl, rfl⟩ := ht
          rw [Nat.add_zero, Tm.inst_H (by rw [hlen]; omega)]
          have key : ∀ (k : Nat) (h : Hx), (instB (List.replicate k .dead ++ [.list e .row]) h).1[k]? = some (.cells (h.ls.headD []) e .row) := by
            intro k
            induction k with
            | zero => intro h; rfl
            | succ k ih => intro h; exact ih h
          show Option.map XB.a ((instB (List.replicate C.bs.length .dead ++ [.list e .row]) _).1[C.bs.length]?) = _
          rw [key]
          rfl
  closed x hp := by cases (hx0 x).1 hp; rw [hres, hnews]; exact ⟨rfl, fun h => (by rw [hone] at h; cases h)⟩
  atoms x hp := by
    cases (hx0 x).1 hp
    refine ⟨ha, fun y hy => ?_⟩
    rw [hnews] at hy
    simp only [List.mem_singleton] at hy
    subst hy
    exact hat
  ro := hr
  small := by omega
  glob := hg
end Go.Ab
namespace Go.Ab
structure Ms where
  T : Nat
  M : List (Nat × Nat)
def getN : List (Nat × Nat) → Nat → Option Nat
  | [], _ => none
  | e :: l, h => if h = e.1 then some e.2 else getN l h
def setN : List (Nat × Nat) → Nat → Nat → List (Nat × Nat)
  | [], h, a => [(h, a)]
  | e :: l, h, a => if h = e.1 then (h, a) :: l else e :: setN l h a
theorem getN_set (M : List (Nat × Nat)) (h h' a : Nat) : getN (setN M h a) h' = if h' = h then some a else getN M h' := by
  induction M with
  | nil => simp only [setN, getN]
  | cons e l ih =>
    simp only [setN]
    split
    · rename_i he
      subst he
      simp only [getN]
      split <;> rfl
    · rename_i he
      simp only [getN, ih]
      by_cases h1 : h' = e.1
      · subst h1
        rw [if_pos rfl, if_neg (fun hh => he hh.symm), if_pos rfl]
      · rw [if_neg h1]
        split
        · rfl
        · rfl
theorem mem_setN {M : List (Nat × Nat)} {h a : Nat} {e : Nat × Nat} (he : e ∈ setN M h a) : e = (h, a) ∨ e ∈ M := by
  induction M with
  | nil => simp only [setN, List.mem_singleton] at he; exact .inl he
  | cons x l ih =>
    simp only [setN] at he
    split at he
    · rcases List.mem_cons.1 he with rfl | he
      · exact .inl rfl
      · exact .inr (List.mem_cons_of_mem _ he)
    · rcases List.mem_cons.1 he with rfl | he
      · exact .inr List.mem_cons_self
      · exact (ih he).imp id (List.mem_cons_of_mem _)
theorem getN_mem {M : List (Nat × Nat)} {h a : Nat} (he : getN M h = some a) : (h, a) ∈ M := by
  induction M with
  | nil => cases he
  | cons x l ih =>
    simp only [getN] at he
    split at he
    · rename_i h1
      cases he
      subst h1
      exact List.mem_cons_self
    · exact List.mem_cons_of_mem _ (ih he)
section
variable (can : Nat → Nat → Bool) (q : Nat → Nat) (n : Nat)
def markN (σ : Ms) (s : Nat) : Ms := ⟨σ.T ||| 2 ^ q s, σ.M⟩
def putN (σ : Ms) (s a : Nat) : Ms := ⟨σ.T, setN σ.M s a⟩
def goF (rec : Nat → Ms → Bool × Ms) (a : Nat) : Nat → Nat → Ms → Bool × Ms
  | 0, _, σ => (false, σ)
  | r + 1, s, σ =>
    if σ.T.testBit (q s) || !(can a s) then goF rec a r (s + 1) σ
    else match getN σ.M s with
      | none => (true, putN (markN q σ s) s a)
      | some b => match rec b (markN q σ s) with
        | (true, σ2) => (true, putN σ2 s a)
        | (false, σ2) => goF rec a r (s + 1) σ2
def matchF : Nat → Nat → Ms → Bool × Ms
  | 0 => fun _ σ => (false, σ)
  | k + 1 => fun a σ => goF can q (matchF k) a n 0 σ
def unt (σ : Ms) : Nat := ((List.range n).filter fun s => !σ.T.testBit (q s)).length
structure MsOK (σ : Ms) : Prop where
  T : σ.T < 128
  keys : ∀ e ∈ σ.M, e.1 < n ∧ e.2 < n
variable {can q n}
theorem MsOK.mark (hq : ∀ s, s < n → q s < 7) {σ : Ms} (h : MsOK n σ) {s : Nat} (hs : s < n) : MsOK n (markN q σ s) := by
  refine ⟨?_, h.keys⟩
  have h1 : 2 ^ q s < 2 ^ 7 := Nat.pow_lt_pow_right (by omega) (hq s hs)
  exact Nat.or_lt_two_pow (n := 7) h.T h1
theorem MsOK.put {σ : Ms} (h : MsOK n σ) {s a : Nat} (hs : s < n) (ha : a < n) : MsOK n (putN σ s a) := by
  refine ⟨h.T, fun e he => ?_⟩
  rcases mem_setN he with rfl | he
  · exact ⟨hs, ha⟩
  · exact h.keys e he
theorem MsOK.get {σ : Ms} (h : MsOK n σ) {s b : Nat} (hg : getN σ.M s = some b) : b < n := (h.keys _ (getN_mem hg)).2
structure Steps (can : Nat → Nat → Bool) (q : Nat → Nat) (n : Nat) (rec : Nat → Ms → Bool × Ms) : Prop where
  ok : ∀ a σ, a < n → MsOK n σ → MsOK n (rec a σ).2
  mono : ∀ a σ j, σ.T.testBit j = true → (rec a σ).2.T.testBit j = true
theorem mark_mono (σ : Ms) (s j : Nat) (h : σ.T.testBit j = true) : (markN q σ s).T.testBit j = true := by
  simp only [markN, Nat.testBit_or, h, Bool.true_or]
theorem mark_self (σ : Ms) (s : Nat) : (markN q σ s).T.testBit (q s) = true := by
  simp only [markN, Nat.testBit_or, Nat.testBit_two_pow_self, Bool.or_true]
theorem goF_steps (hq : ∀ s, s < n → q s < 7) {rec : Nat → Ms → Bool × Ms} (h : Steps can q n rec) (a r : Nat) : ∀ s σ, (a < n → s + r ≤ n → MsOK n σ → MsOK n (goF can q rec a r s σ).2) ∧ ∀ j, σ.T.testBit j = true → (goF can q rec a r s σ).2.T.testBit j = true := by
  induction r with
  | zero => intro s σ; exact ⟨fun _ _ h => h, fun _ h => h⟩
  | succ r ih =>
    intro s σ
    simp only [goF]
    split
    · exact ⟨fun ha hs hσ => (ih (s + 1) σ).1 ha (by omega) hσ, (ih (s + 1) σ).2⟩
    · split
      · exact ⟨fun ha hs hσ => (hσ.mark hq (by omega)).put (by omega) ha, fun j hj => mark_mono σ s j hj⟩
      · rename_i b hb
        split
        · rename_i σ2 h2
          refine ⟨fun ha hs hσ => ?_, fun j hj => ?_⟩
          · have := h.ok b (markN q σ s) (hσ.get hb) (hσ.mark hq (by omega))
            rw [h2] at this
            exact this.put (by omega) ha
          · have := h.mono b (markN q σ s) j (mark_mono σ s j hj)
            rw [h2] at this
            exact this
        · rename_i σ2 h2
          refine ⟨fun ha hs hσ => ?_, fun j hj => ?_⟩
          · have := h.ok b (markN q σ s) (hσ.get hb) (hσ.mark hq (by omega))
            rw [h2] at this
            exact (ih (s + 1) σ2).1 ha (by omega) this
          · have := h.mono b (markN q σ s) j (mark_mono σ s j hj)
            rw [h2] at this
            exact (ih (s + 1) σ2).2 j this
theorem matchF_steps (hq : ∀ s, s < n → q s < 7) (k : Nat) : Steps can q n (matchF can q n k) := by
  induction k with
  | zero => exact ⟨fun _ _ _ h => h, fun _ _ _ h => h⟩
  | succ k ih => exact ⟨fun a σ ha hσ => (goF_steps hq ih a n 0 σ).1 ha (by omega) hσ, fun a σ => (goF_steps hq ih a n 0 σ).2⟩
theorem unt_mono {σ σ' : Ms} (h : ∀ j, σ.T.testBit j = true → σ'.T.testBit j = true) : unt q n σ' ≤ unt q n σ := by
  unfold unt
  induction n with
  | zero => simp
  | succ m ih =>
    simp only [List.range_succ, List.filter_append, List.length_append]
    have : ([m].filter fun s => !σ'.T.testBit (q s)).length ≤ ([m].filter fun s => !σ.T.testBit (q s)).length := by
      cases h1 : σ.T.testBit (q m) with
      | true => simp [h1, h _ h1]
      | false => cases h2 : σ'.T.testBit (q m) <;> simp [h1, h2]
    omega
theorem unt_mark {σ : Ms} {s : Nat} (hs : s < n) (h : σ.T.testBit (q s) = false) : unt q n (markN q σ s) < unt q n σ := by
  unfold unt
  induction n with
  | zero => omega
  | succ m ih =>
    simp only [List.range_succ, List.filter_append, List.length_append]
    have h1 : ∀ j, σ.T.testBit j = true → (markN q σ s).T.testBit j = true := fun j hj => mark_mono σ s j hj
    by_cases e : s = m
    · subst e
      have h2 := unt_mono (q := q) (n := s) h1
      unfold unt at h2
      simp only [List.filter_cons, h, mark_self, Bool.not_true, Bool.false_eq_true, if_false, Bool.not_false, if_true, List.filter_nil, List.length_cons, List.length_nil]
      omega
    · have h3 := ih (by omega)
      have : ([m].filter fun t => !(markN q σ s).T.testBit (q t)).length ≤ ([m].filter fun t => !σ.T.testBit (q t)).length := by
        cases h4 : σ.T.testBit (q m) with
        | true => simp [h4, h1 _ h4]
        | false => cases h5 : (markN q σ s).T.testBit (q m) <;> simp [h4, h5]
      omega
theorem goF_skip {rec : Nat → Ms → Bool × Ms} {a r s : Nat} {σ : Ms} (h : (σ.T.testBit (q s) || !(can a s)) = true) : goF can q rec a (r + 1) s σ = goF can q rec a r (s + 1) σ := by
  simp only [goF, h, if_true]
theorem goF_none {rec : Nat → Ms → Bool × Ms} {a r s : Nat} {σ : Ms} (h : (σ.T.testBit (q s) || !(can a s)) = false) (hg : getN σ.M s = none) : goF can q rec a (r + 1) s σ = (true, putN (markN q σ s) s a) := by
  simp only [goF, h, Bool.false_eq_true, if_false, hg]
theorem goF_true {rec : Nat → Ms → Bool × Ms} {a r s b : Nat} {σ σ2 : Ms} (h : (σ.T.testBit (q s) || !(can a s)) = false) (hg : getN σ.M s = some b) (hr : rec b (markN q σ s) = (true, σ2)) : goF can q rec a (r + 1) s σ = (true, putN σ2 s a) := by
  simp only [goF, h, Bool.false_eq_true, if_false, hg, hr]
theorem goF_false {rec : Nat → Ms → Bool × Ms} {a r s b : Nat} {σ σ2 : Ms} (h : (σ.T.testBit (q s) || !(can a s)) = false) (hg : getN σ.M s = some b) (hr : rec b (markN q σ s) = (false, σ2)) : goF can q rec a (r + 1) s σ = goF can q rec a r (s + 1) σ2 := by
  simp only [goF, h, Bool.false_eq_true, if_false, hg, hr]
theorem unt_le (σ : Ms) : unt q n σ ≤ n := by
  unfold unt
  have := List.length_filter_le (fun s => !σ.T.testBit (q s)) (List.range n)
  rwa [List.length_range] at this
variable (can q n) in
def fewS : Nat → Ms × Nat
  | 0 => (⟨0, []⟩, 0)
  | j + 1 => ((matchF can q n 8 j ⟨0, (fewS j).1.M⟩).2, if (matchF can q n 8 j ⟨0, (fewS j).1.M⟩).1 = true then (fewS j).2 else (fewS j).2 + 1)
variable (can q n) in
def fewN : Nat := (fewS can q n n).2
theorem fewS_ok (hq : ∀ s, s < n → q s < 7) (j : Nat) (hj : j ≤ n) : MsOK n (fewS can q n j).1 ∧ (fewS can q n j).2 ≤ j := by
  induction j with
  | zero => exact ⟨⟨by simp [fewS], fun e he => by simp [fewS] at he⟩, Nat.le_refl _⟩
  | succ j ih =>
    obtain ⟨h1, h2⟩ := ih (by omega)
    refine ⟨(matchF_steps hq 8).ok j ⟨0, (fewS can q n j).1.M⟩ (by omega) ⟨Nat.zero_lt_succ _, h1.keys⟩, ?_⟩
    simp only [fewS]
    split <;> omega
end
end Go.Ab
set_option maxRecDepth 100000
namespace Go.Ab
open Go Go.RowKit Go.Proofs
noncomputable def jobU (f : Nat → Mv) (q : Nat → Nat) (k : Nat) : List Value := [I (f k).at_, I (f k).place, I (f k).lo, I (f k).hi, I (q k : Nat)]
noncomputable def jobsU (m : Nat) (f : Nat → Mv) (q : Nat → Nat) : List Value := flatC m (jobU f q)
noncomputable def jU (f : Nat → Mv) (q : Nat → Nat) (k : Nat) : Value := .agg ⟨jobU f q k⟩
def pN (j : Nat) : Value := .pointer (some ⟨j, 0, none⟩)
def T5h (l : TL) : TL := .agg (.hole (.hole (.hole (.hole (.hole .nil))))) l
def T7h (l : TL) : TL := .agg (.hole (.hole (.hole (.hole (.hole (.hole (.hole .nil))))))) l
noncomputable def canV (o : Nat → Int) : Value := .func (.func 77) ⟨[.agg ⟨ints 7 o⟩]⟩ ⟨[]⟩
noncomputable def capV : Value := .func (.func 95) ⟨[]⟩ ⟨[pN 0, pN 1, pN 2, pN 3, pN 4]⟩
noncomputable def m95 (o : Nat → Int) (n c : Nat) (js : List Value) (tr : Int) (es : List (Value × Value)) : Mem :=
  ⟨fillX [.cells [.slice (some ⟨5, 0, none⟩) n c] 93 .ro, .cells [I tr] 83 .var, .cells [canV o] 124 .ro, .cells [.map (some 6)] 144 .ro, .cells [capV] 145 .ro, .cells js 97 .ro, .map es] 0 .nil, 7⟩
def P5n : TL := .ptr 0 0 (.ptr 1 0 (.ptr 2 0 (.ptr 3 0 (.ptr 4 0 .nil))))
def CanT : TL := .func 77 (T7h .nil) .nil .nil
def CapT : TL := .func 95 .nil P5n .nil
def bs95 : List TBc := [.rcells (.slice 5 0 .nil) 93, .wlist 83 .var, .rcells CanT 124, .rcells (.map 6 .nil) 144, .rcells CapT 145, .rlist 97, .wmap]
noncomputable def CW95 (o : Nat → Int) (n c : Nat) (js : List Value) (u1 u2 u3 u4 : Int) (a : Nat) (tr : Int) (es : List (Value × Value)) (b : Bool) (tr2 : Int) (es2 : List (Value × Value)) : ConW where
  A := T5h P5n
  bs := bs95
  pre x := x = ⟨⟨[I u1, I u2, I u3, I u4, I a] ++ ints 7 o, [(n, c)]⟩, [[I tr], js], [es]⟩
  out _ := [.lst [I tr2], .mp es2]
  res _ := .ret (.bool b)
noncomputable def C77 (o : Nat → Int) (u1 u2 u3 u4 : Int) (a : Nat) (v1 v2 v3 v4 : Int) (b : Nat) : Con where
  A := T7h (T5h (T5h .nil))
  bs := []
  pre x := x = ⟨⟨ints 7 o ++ [I u1, I u2, I u3, I u4, I a] ++ [I v1, I v2, I v3, I v4, I b], []⟩, []⟩
  res _ := .ret (.bool (hasI (o a) b))
def p95 : Loc := .l (.r (.l (.r (.top 95))))
noncomputable def T95 : Tw := ⟨52, mkS 52 [(2, .ptr 1 0 .nil), (3, .ptr 2 0 .nil), (4, .ptr 3 0 .nil), (5, .ptr 4 0 .nil), (6, .ptr 7 0 .nil), (12, .slice 5 0 .nil), (13, .hole .nil), (14, .hole .nil)], 8,
  [.cells (.slice 5 0 .nil) 93 .ro, .list 83 .var, .cells CanT 124 .ro, .cells (.map 6 .nil) 144 .ro, .cells CapT 145 .ro, .list 97 .ro, .map, .list 97 .var]⟩
noncomputable def R95 : Tw := ⟨52, mkS 52 [(7, .hole .nil)], 8, [.dead, .list 83 .var, .dead, .dead, .dead, .dead, .map, .dead]⟩
noncomputable def st95 (o : Nat → Int) (n c : Nat) (js : List Value) (u : List Value) (tr : Int) (es : List (Value × Value)) (i : Nat) : Hw := ⟨⟨[I n, I i] ++ ints 7 o, [(n, c), (n, c)]⟩, [[I tr], js, u], [es]⟩
noncomputable def m83 (js : List Value) : Mem := ⟨fillX [.cells js 97 .ro] 0 .nil, 1⟩
def p83 : Loc := .l (.r (.l (.r (.r (.r (.r (.r (.r (.top 83)))))))))
noncomputable def T83 : Tw := ⟨27, mkS 27 [(6, .ptr 5 0 .nil), (7, .ptr 6 0 .nil), (8, .hole .nil), (13, .slice 0 0 .nil), (14, .hole .nil), (15, .hole .nil)], 7,
  [.list 97 .ro, .cells (.slice 0 0 .nil) 93 .var, .cells CanT 124 .var, .map, .cells (.map 3 .nil) 144 .var, .list 83 .var, .cells (.func 95 .nil (.ptr 1 0 (.ptr 5 0 (.ptr 2 0 (.ptr 4 0 (.ptr 6 0 .nil))))) .nil) 145 .var]⟩
noncomputable def st83 (o : Nat → Int) (n c : Nat) (js : List Value) (many : Int) (tr : Int) (es : List (Value × Value)) (j : Nat) : Hw := ⟨⟨[I many, I n, I j] ++ ints 7 o, [(n, c), (n, c)]⟩, [js, [I tr]], [es]⟩
noncomputable def T83z : Tw := ⟨27, mkS 27 [(8, .hole .nil), (14, .hole .nil), (15, .hole .nil)], 6, [.dead, .dead, .dead, .dead, .dead, .dead]⟩
noncomputable def C72 (o : Nat → Int) (a b : Nat) : Con where
  A := T7h (.hole (.hole .nil))
  bs := []
  pre x := x = ⟨⟨ints 7 o ++ [I a, I b], []⟩, []⟩
  res _ := .ret (.bool (linkB o a b))
def p97 : Loc := .l (.r (.l (.r (.top 97))))
noncomputable def T97 : Tw := ⟨28, mkS 28 [(2, .hole .nil), (3, .hole .nil), (5, .ptr 2 0 .nil), (13, .hole .nil), (14, .hole .nil)], 3, [.dead, .dead, .cells (.hole (.hole (.hole (.hole (.hole (.hole (.hole .nil))))))) 85 .var]⟩
noncomputable def R97 : Tw := ⟨28, mkS 28 [(8, .hole .nil)], 3, [.dead, .dead, .dead]⟩
noncomputable def st97 (o : Nat → Int) (n : Nat) (D : Int) (m i : Nat) : Hw := ⟨⟨[I D, I m, I n, I i] ++ ints 7 o, []⟩, [], []⟩
def fitsF (o : Nat → Int) (n : Nat) (D : Int) (m : Nat) : Bool := allFrom (fun k => !(hasI D k && !linkB o k m)) n 0
noncomputable def C97 (p : Int) (n c : Nat) (o : Nat → Int) (D : Int) (m : Nat) : Con where
  A := .agg (.hole (.slice 0 0 .nil)) (T7h (.hole (.hole .nil)))
  bs := [.dead]
  pre x := x = ⟨⟨I p :: ints 7 o ++ [I D, I m], [(n, c)]⟩, []⟩
  res _ := .ret (.bool (fitsF o n D m))
def P6n : TL := .ptr 0 0 (.ptr 1 0 (.ptr 2 0 (.ptr 3 0 (.ptr 4 0 (.ptr 5 0 .nil)))))
noncomputable def cap96 : Value := .func (.func 96) ⟨[]⟩ ⟨[pN 0, pN 1, pN 2, pN 3, pN 4, pN 5]⟩
noncomputable def m96 (p : Int) (n c many : Nat) (o : Nat → Int) (Dl Pl : List Value) : Mem :=
  ⟨fillX [.cells [I p, .slice (some ⟨6, 0, none⟩) n c] 73 .ro, .cells [I many] 3 .ro, .cells Dl 84 .var, .cells (ints 7 o) 85 .ro, .cells Pl 147 .var, .cells [cap96] 61 .ro, .dead] 0 .nil, 7⟩
def bs96 : List TBc := [.rcells (.hole (.slice 6 0 .nil)) 73, .rcells (.hole .nil) 3, .wlist 84 .var, .rcells (.hole (.hole (.hole (.hole (.hole (.hole (.hole .nil))))))) 85, .wlist 147 .var, .rcells (.func 96 .nil P6n .nil) 61, .dead]
noncomputable def CW96 (p : Int) (n c many : Nat) (o : Nat → Int) (m : Int) (Dl Pl : List Value) (b : Bool) (Dl2 Pl2 : List Value) : ConW where
  A := .hole P6n
  bs := bs96
  pre x := x = ⟨⟨[I m, I p, I many] ++ ints 7 o, [(n, c)]⟩, [Dl, Pl], []⟩
  out _ := [.lst Dl2, .lst Pl2]
  res _ := .ret (.bool b)
def p96 : Loc := .l (.r (.l (.r (.r (.top 96)))))
noncomputable def T96 : Tw := ⟨48, mkS 48 [(0, .hole .nil), (1, .ptr 0 0 .nil), (3, .ptr 2 0 .nil), (4, .ptr 3 0 .nil), (5, .ptr 4 0 .nil), (6, .ptr 5 0 .nil), (17, .hole .nil), (18, .hole .nil)], 7,
  [.cells (.hole (.slice 6 0 .nil)) 73 .ro, .cells (.hole .nil) 3 .ro, .list 84 .var, .cells (.hole (.hole (.hole (.hole (.hole (.hole (.hole .nil))))))) 85 .ro, .list 147 .var, .cells (.func 96 .nil P6n .nil) 61 .ro, .dead]⟩
noncomputable def R96 : Tw := ⟨48, mkS 48 [(8, .hole .nil)], 7, [.dead, .dead, .list 84 .var, .dead, .list 147 .var, .dead, .dead]⟩
noncomputable def st96 (p : Int) (n c many : Nat) (o : Nat → Int) (m : Nat) (Dl Pl : List Value) (h : Nat) : Hw := ⟨⟨[I m, I many, I h, I p, I many] ++ ints 7 o, [(n, c)]⟩, [Dl, Pl], []⟩
def popN (x : Nat) : Nat := ((List.range 7).filter fun i => x.testBit i).length
noncomputable def C82 (x : Nat) : Con where
  A := .hole .nil
  bs := []
  pre y := y = ⟨⟨[I x], []⟩, []⟩
  res _ := .ret (I (popN x : Nat))
def p93 : Loc := .l (.r (.top 93))
noncomputable def C24 (sure : Bool) (p : Int) (n c : Nat) (f : Nat → Mv) (many : Nat) (P : Nat → Nat) : ConN where
  A := .agg (.hole (.slice 0 0 .nil)) (.hole .nil)
  bs := [.list 1 .ro]
  pre x := x = ⟨⟨[I p, .bool sure], [(n, c)]⟩, [mvs n f]⟩
  news _ := [(ints n fun i => (P i : Int), 3)]
  one := false
  res _ := [.cv (I many), .sl 0 n, .cv (I 0)]
noncomputable def C83c (o : Nat → Int) (n c : Nat) (js : List Value) (many : Nat) : Con where
  A := .slice 0 0 CanT
  bs := [.list 97 .ro]
  pre x := x = ⟨⟨ints 7 o, [(n, c)]⟩, [js]⟩
  res _ := .ret (I many)
noncomputable def C86c (p : Int) (n c : Nat) (ms : List Value) (o : Nat → Int) (many : Nat) (pl : List Value) : ConN where
  A := .agg (.hole (.slice 0 0 .nil)) (T7h (.hole .nil))
  bs := [.list 1 .ro]
  pre x := x = ⟨⟨I p :: ints 7 o ++ [I many], [(n, c)]⟩, [ms]⟩
  news _ := [(pl, 3)]
  one := true
  res _ := [.sl 0 n]
end Go.Ab
set_option maxRecDepth 100000
namespace Go.Ab
open Go Go.RowKit Go.Proofs
noncomputable def C29 (x : Nat) : Con where
  A := .hole .nil
  bs := []
  pre y := y = ⟨⟨[I x], []⟩, []⟩
  res _ := .ret (I (popN x : Nat))
def p29 : Loc := .l (.l (.r (.r (.top 29))))
noncomputable def T29 : Tw := ⟨13, mkS 13 [(0, .hole .nil), (3, .hole .nil)], 0, []⟩
noncomputable def C24c (sure : Bool) (p : Int) (n c : Nat) (ms : List Value) (many : Nat) (pl : List Value) : ConN where
  A := .agg (.hole (.slice 0 0 .nil)) (.hole .nil)
  bs := [.list 1 .ro]
  pre x := x = ⟨⟨[I p, .bool sure], [(n, c)]⟩, [ms]⟩
  news _ := [(pl, 3)]
  one := false
  res _ := [.cv (I many), .sl 0 n, .cv (I 0)]
end Go.Ab
set_option maxRecDepth 100000
namespace Go.Ab
open Go Go.RowKit Go.Proofs
def p84 : Loc := .l (.r (.l (.r (.r (.top 84)))))
noncomputable def T84a : Tw := ⟨26, mkS 26 [(1, .hole .nil), (5, .val (.slice none 0 0) .nil), (9, .slice 2 0 .nil), (10, .hole .nil), (11, .hole .nil)], 3, [.dead, .dead, .list 97 .row]⟩
noncomputable def T84b : Tw := ⟨26, mkS 26 [(1, .hole .nil), (5, .slice 3 0 .nil), (9, .slice 2 0 .nil), (10, .hole .nil), (11, .hole .nil)], 3, [.dead, .dead, .list 97 .row, .list 97 .row]⟩
noncomputable def jobsL (f : Nat → Mv) (l : List Nat) : List Value := l.flatMap (jobV f)
noncomputable def ha84 (s : Int) (n c i : Nat) (f : Nat → Mv) : Hw := ⟨⟨[I s, I n, I i], [(n, c)]⟩, [jobsC n f], []⟩
noncomputable def hb84 (s : Int) (n c i j : Nat) (f : Nat → Mv) (ls : List Value) : Hw := ⟨⟨[I s, I n, I i], [(j, j), (n, c)]⟩, [jobsC n f, ls], []⟩
noncomputable def C84 (p s : Int) (n c m : Nat) (ms js : List Value) : ConN where
  A := .agg (.hole (.slice 0 0 .nil)) (.hole .nil)
  bs := [.list 1 .ro]
  pre x := x = ⟨⟨[I p, I s], [(n, c)]⟩, [ms]⟩
  news _ := [(js, 97)]
  one := true
  res _ := [.sl 0 m]
def p59 : Loc := .l (.r (.l (.r (.r (.r (.l (.r (.top 59))))))))
def p59i : Loc := .l (.r (.r (.l (.l (.r (.r (.l (.l (.r (.l (.r (.r (.r (.l (.r (.top 59))))))))))))))))
noncomputable def B59 : List TBw := [.list 1 .ro, .cells (.hole (.slice 0 0 .nil)) 73 .var, .cells (.hole (.hole (.hole (.hole (.hole (.hole (.hole .nil))))))) 85 .var, .cells (.hole .nil) 3 .var, .list 83 .var]
noncomputable def T59 (j : Nat) : Tw := ⟨41, mkS 41 [(3, .ptr 1 0 .nil), (4, .ptr 2 0 .nil), (5, .ptr 3 0 .nil), (7, .hole .nil), (8, .ptr 4 0 .nil), (17, .hole .nil), (18, .hole .nil)], 5, B59 ++ List.replicate j .coll⟩
noncomputable def st59 (p : Int) (n c many : Nat) (ms : List Value) (o : Nat → Int) (left : Int) (k : Nat) : Hw := ⟨⟨[I n, I n, I k, I p] ++ ints 7 o ++ [I many], [(n, c)]⟩, [ms, [I left]], []⟩
noncomputable def T59s (j : Nat) : List (Nat × TL) := [(3, .ptr 1 0 .nil), (4, .ptr 2 0 .nil), (5, .ptr 3 0 .nil), (8, .ptr 4 0 .nil), (9, .ptr (5 + j) 0 .nil)]
noncomputable def T9k (j : Nat) : Tw := ⟨15, mkS 15 [(0, .yield (8 + j) .nil), (6, .hole .nil), (7, .hole .nil)], 9 + j,
  B59 ++ List.replicate j .defs ++ [.cells (.hole .nil) 3 .var, .dead, .defs, .loop 41 (mkS 41 (T59s j)) #[23] p59i]⟩
noncomputable def R9k (j : Nat) : Tw := ⟨15, mkS 15 [], 9 + j,
  B59 ++ List.replicate j .defs ++ [.dead, .dead, .defs, .ended (some 0) 41 (mkS 41 []) #[23] p59i]⟩
noncomputable def st9k (p : Int) (n c many : Nat) (ms : List Value) (o : Nat → Int) (left : Int) (k N s : Nat) : Hw := ⟨⟨[I N, I s, I p] ++ ints 7 o ++ [I many, I k], [(n, c)]⟩, [ms, [I left]], []⟩
noncomputable def rt9k (p : Int) (n c many : Nat) (ms : List Value) (o : Nat → Int) (left : Int) : Hw := ⟨⟨[I p] ++ ints 7 o ++ [I many], [(n, c)]⟩, [ms, [I left]], []⟩
noncomputable def C80 (n : Nat) : Con where
  A := .hole .nil
  bs := []
  pre y := y = ⟨⟨[I n], []⟩, []⟩
  res _ := .ret (I (2 ^ n - 1 : Nat))
end Go.Ab
set_option maxRecDepth 100000
namespace Go.Ab
open Go Go.RowKit Go.Proofs
noncomputable def m30 (p : Int) (sure : Bool) (n c many : Nat) (ms : List Value) : Mem := ⟨fillX [.cells [I p, .slice (some ⟨3, 0, none⟩) n c] 24 .ro, .cells [.bool sure] 4 .ro, .cells [I many] 3 .ro, .cells ms 1 .ro] 0 .nil, 4⟩
def p31 : Loc := .l (.r (.l (.r (.r (.r (.top 31))))))
noncomputable def S31 : List (Option TL) := mkS 31 [(1, .hole .nil), (4, .ptr 5 0 .nil), (5, .ptr 6 0 .nil), (11, .slice 3 0 .nil), (12, .hole .nil), (13, .hole .nil)]
noncomputable def B31 : List TBw := [.cells (.hole (.slice 3 0 .nil)) 24 .ro, .cells (.hole .nil) 4 .ro, .cells (.hole .nil) 3 .ro, .list 1 .ro, .dead, .cells (.hole (.val nilS .nil)) 24 .var]
noncomputable def T31a : Tw := ⟨31, S31, 7, B31 ++ [.cells (.hole (.val nilS .nil)) 24 .var]⟩
noncomputable def T31b : Tw := ⟨31, S31, 7, B31 ++ [.cells (.hole (.slice 7 0 .nil)) 24 .var, .list 33 .row]⟩
noncomputable def ha31 (p : Int) (sure : Bool) (n c many s : Nat) (ms : List Value) (i : Nat) : Hw := ⟨⟨[I s, I n, I i, I p, .bool sure, I many, I 0, I p], [(n, c), (n, c)]⟩, [ms], []⟩
noncomputable def hb31 (p : Int) (sure : Bool) (n c many s : Nat) (ms : List Value) (i j : Nat) (ls : List Value) : Hw := ⟨⟨[I s, I n, I i, I p, .bool sure, I many, I 0, I p], [(n, c), (n, c), (j, j)]⟩, [ms, ls], []⟩
noncomputable def C24n (sure : Bool) (p : Int) : ConN where
  A := .agg (.hole (.val nilS .nil)) (.hole .nil)
  bs := []
  pre x := x = ⟨⟨[I p, .bool sure], []⟩, []⟩
  news _ := [([], 3)]
  one := false
  res _ := [.cv (I 0), .sl 0 0, .cv (I 0)]
noncomputable def C30i (p : Int) (sure : Bool) (n c : Nat) (mz sz : Int) (v : Bool) (ms : List Value) : Con where
  A := .hole (.ptr 0 0 (.ptr 1 0 (.ptr 2 0 .nil)))
  bs := [.cells (.hole (.slice 3 0 .nil)) 24 .ro, .cells (.hole .nil) 4 .ro, .cells (.hole .nil) 3 .ro, .list 1 .ro]
  pre x := x = ⟨⟨[I sz, I p, .bool sure, I mz], [(n, c)]⟩, [ms]⟩
  res _ := .ret (.bool v)
noncomputable def C23 (sure : Bool) (p : Int) (n c many : Nat) (f : Nat → Mv) (left : Nat) : Con where
  A := .agg (.hole (.slice 0 0 .nil)) (.hole (.hole .nil))
  bs := [.list 1 .ro]
  pre x := x = ⟨⟨[I p, I many, .bool sure], [(n, c)]⟩, [mvs n f]⟩
  res _ := .ret (.tuple ⟨[I left, I 0]⟩)
noncomputable def C23i (sure : Bool) (p : Int) (n c : Nat) (mz : Int) (f : Nat → Mv) (left : Nat) : Con where
  A := .agg (.hole (.slice 0 0 .nil)) (.hole (.hole .nil))
  bs := [.list 1 .ro]
  pre x := x = ⟨⟨[I p, I mz, .bool sure], [(n, c)]⟩, [mvs n f]⟩
  res _ := .ret (.tuple ⟨[I left, I 0]⟩)
noncomputable def C23n (sure : Bool) (p mz : Int) : Con where
  A := .agg (.hole (.val nilS .nil)) (.hole (.hole .nil))
  bs := []
  pre x := x = ⟨⟨[I p, I mz, .bool sure], []⟩, []⟩
  res _ := .ret (.tuple ⟨[I 0, I 0]⟩)
noncomputable def C23e (sure : Bool) (p mz : Int) : Con where
  A := .agg (.hole (.slice 0 0 .nil)) (.hole (.hole .nil))
  bs := [.dead]
  pre x := x = ⟨⟨[I p, I mz, .bool sure], [(0, 0)]⟩, []⟩
  res _ := .ret (.tuple ⟨[I 0, I 0]⟩)
noncomputable def C24e (sure : Bool) (p : Int) : ConN where
  A := .agg (.hole (.slice 0 0 .nil)) (.hole .nil)
  bs := [.dead]
  pre x := x = ⟨⟨[I p, .bool sure], [(0, 0)]⟩, []⟩
  news _ := [([], 3)]
  one := false
  res _ := [.cv (I 0), .sl 0 0, .cv (I 0)]
noncomputable def m0d : Mem := ⟨fillX [.dead] 0 .nil, 1⟩
def p8 : Loc := .l (.r (.l (.r (.r (.r (.r (.r (.r (.r (.r (.top 8)))))))))))
noncomputable def T8 : Tw := ⟨130, mkS 130 [(3, .hole .nil), (10, .hole .nil), (15, .func 30 .nil (.ptr 1 0 (.ptr 2 0 (.ptr 5 0 .nil))) .nil), (16, .hole .nil), (78, .hole .nil), (79, .hole .nil)], 7,
  [.list 1 .ro, .cells (.hole (.slice 0 0 .nil)) 24 .var, .cells (.hole .nil) 4 .var, .dead, .dead, .cells (.hole .nil) 3 .var, .dead]⟩
noncomputable def R8 : Tw := ⟨130, mkS 130 [(8, .hole .nil)], 7, [.dead, .dead, .dead, .dead, .dead, .dead, .dead]⟩
noncomputable def st8 (p b : Int) (sure : Bool) (n c : Nat) (mz : Int) (left : Nat) (ev : Int) (ms : List Value) (i : Nat) : Hw := ⟨⟨[.int .u8 b, I left, I ev, I n, I i, I p, .bool sure, I mz], [(n, c)]⟩, [ms], []⟩
end Go.Ab
