/- what the law calls: examples, contracts by what they return. -/
import Derived.Test.YtamfplmmfbbabaaUW
import Derived.Test.YtamfplmmfbbabaaUX
set_option maxRecDepth 100000
namespace Go.Ab
open Go Go.RowKit Go.Proofs
noncomputable def C12 : Con where
  A := .nil
  bs := []
  pre x := x = ⟨⟨[], []⟩, []⟩
  res _ := .ret (.bool true)
theorem C12_ok : ConOK Try.prog 12 C12 := by
  refine con_of vx_sound _ (fun y hy => ?_) rfl (fun y _ => rfl) (fun y hy => ?_) rfl (Nat.le_of_ble_eq_true rfl) (by rw [nglob]; exact Nat.zero_le _)
  · cases hy
    exact ⟨_, (aw_vx _).mpr rfl⟩
  · cases hy
    intro cs hcs
    cases hcs
end Go.Ab
set_option maxRecDepth 100000
namespace Go.Ab
open Go Go.RowKit Go.Proofs
theorem wrapsI (n : Int) (h0 : 0 ≤ n) (h1 : n < 2 ^ 62) : IntKind.i64.wrap n = n := wrapI (by omega) (by omega)
theorem or_nat (a b : Nat) (ha : a < 2 ^ 62) (hb : b < 2 ^ 62) : bits .or .i64 (a : Int) (b : Int) = ((a ||| b : Nat) : Int) := (bits_nat .i64 62 (by decide) wrapsI a b ha hb).2
theorem and_nat (a b : Nat) (ha : a < 2 ^ 62) (hb : b < 2 ^ 62) : bits .and .i64 (a : Int) (b : Int) = ((a &&& b : Nat) : Int) := (bits_nat .i64 62 (by decide) wrapsI a b ha hb).1
def maskN (b : Nat → Bool) : Nat → Nat
  | 0 => 0
  | j + 1 => if b j then maskN b j ||| 2 ^ j else maskN b j
theorem maskN_lt (b : Nat → Bool) (j : Nat) : maskN b j < 2 ^ j := by
  induction j with
  | zero => simp [maskN]
  | succ j ih =>
    have h2 : 2 ^ (j + 1) = 2 ^ j + 2 ^ j := by rw [Nat.pow_succ]; omega
    simp only [maskN]
    split
    · exact Nat.or_lt_two_pow (by omega) (by omega)
    · omega
theorem maskN_bit (b : Nat → Bool) (j k : Nat) : (maskN b j).testBit k = (decide (k < j) && b k) := by
  induction j with
  | zero => simp [maskN]
  | succ j ih =>
    simp only [maskN]
    by_cases hk : k = j
    · subst hk
      cases hb : b k with
      | true => simp [hb, Nat.testBit_or, Nat.testBit_two_pow_self]
      | false => simp [hb, ih]
    · have hne : j ≠ k := fun h => hk h.symm
      have e : decide (k < j + 1) = decide (k < j) := by
        by_cases h : k < j
        · simp [h]; omega
        · simp [h]; omega
      rw [e]
      split
      · rw [Nat.testBit_or, ih, Nat.testBit_two_pow_of_ne hne, Bool.or_false]
      · exact ih
theorem one_nat (j : Nat) (h : j ≤ 61) : oneI j = ((2 ^ j : Nat) : Int) := by
  have h1 : 2 ^ j ≤ 2 ^ 61 := Nat.pow_le_pow_right (by omega) h
  have h2 : (2 : Nat) ^ 61 < 2 ^ 62 := by decide
  have e : (1 : Int) * 2 ^ j = ((2 ^ j : Nat) : Int) := by simp
  rw [oneI, e]
  have h3 : (2 : Nat) ^ 61 = 2305843009213693952 := by decide
  rw [h3] at h1
  generalize 2 ^ j = z at h1
  exact wrapI (by omega) (by omega)
theorem rowI_mask (b : Nat → Bool) (j : Nat) (h : j ≤ 61) : rowI b 0 j = (maskN b j : Int) := by
  induction j with
  | zero => rfl
  | succ j ih =>
    have hm := maskN_lt b j
    have hp : 2 ^ j ≤ 2 ^ 61 := Nat.pow_le_pow_right (by omega) (by omega)
    have h2 : (2 : Nat) ^ 61 < 2 ^ 62 := by decide
    simp only [rowI, maskN]
    split
    · rw [ih (by omega), one_nat j (by omega), joinI]
      have e0 : bits .or .i64 0 (maskN b j : Int) = (maskN b j : Int) := by
        have := or_nat 0 (maskN b j) (by decide) (by omega)
        simpa using this
      rw [e0, or_nat _ _ (by omega) (by omega)]
    · exact ih (by omega)
theorem hasI_mask (m j : Nat) (hm : m < 2 ^ 62) : hasI (m : Int) j = m.testBit j := by
  have e : (m : Int) / 2 ^ j = ((m / 2 ^ j : Nat) : Int) := by simp
  have hd : m / 2 ^ j < 2 ^ 62 := Nat.lt_of_le_of_lt (Nat.div_le_self _ _) hm
  simp only [hasI, e]
  have h1 := and_nat (m / 2 ^ j) 1 hd (by decide)
  rw [show ((1 : Nat) : Int) = 1 from rfl] at h1
  rw [h1, Nat.testBit_eq_decide_div_mod_eq, Nat.and_one_is_mod]
  have hmod : m / 2 ^ j % 2 = 0 ∨ m / 2 ^ j % 2 = 1 := by omega
  rcases hmod with h | h <;> simp [h]
theorem hasI_row (b : Nat → Bool) {n j : Nat} (hn : n ≤ 7) (hj : j < n) : hasI (rowI b 0 n) j = b j := by
  have h1 := maskN_lt b n
  have h2 : 2 ^ n ≤ 2 ^ 7 := Nat.pow_le_pow_right (by omega) hn
  have h3 : (2 : Nat) ^ 7 < 2 ^ 62 := by decide
  rw [rowI_mask b n (by omega), hasI_mask _ _ (by omega), maskN_bit]
  simp [hj]
theorem hasI_ord (sure : Bool) (p : Int) {n : Nat} (f : Nat → Mv) {i j : Nat} (hn : n ≤ 7) (hi : i < n) (hj : j < n) : hasI (ordF sure p n f n i) j = canB sure p f i j := by
  simp only [ordF, if_pos hi]
  exact hasI_row _ hn hj
end Go.Ab
set_option maxRecDepth 100000
namespace Go.Ab
open Go Go.RowKit Go.Proofs
theorem allFrom_iff (b : Nat → Bool) : ∀ (r m : Nat), allFrom b r m = true → ∀ i, m ≤ i → i < m + r → b i = true := by
  intro r
  induction r with
  | zero => intro m _ i h1 h2; omega
  | succ r ih =>
    intro m h i h1 h2
    simp only [allFrom, Bool.and_eq_true] at h
    by_cases e : i = m
    · subst e; exact h.1
    · exact ih (m + 1) h.2 i (by omega) (by omega)
structure MvOK (m : Mv) : Prop where
  at0 : 0 ≤ m.at_
  at1 : m.at_ ≤ 200
  pl0 : 0 ≤ m.place
  pl1 : m.place ≤ 30
  lo1 : 1 ≤ m.lo
  lohi : m.lo ≤ m.hi
  hi1 : m.hi ≤ 20
theorem okMv_iff {m : Mv} (h : okMv m = true) : MvOK m := by
  simp only [okMv, Bool.and_eq_true, decide_eq_true_eq, Bool.not_eq_true', decide_eq_false_iff_not] at h
  obtain ⟨h1, h2, h3, h4, h5, h6, h7⟩ := h
  exact ⟨h1, h2, h3, h4, by omega, by omega, by omega⟩
structure HOK (p : Int) (n : Nat) (f : Nat → Mv) : Prop where
  p0 : 0 ≤ p
  p3 : p ≤ 3
  n7 : n ≤ 7
  mv : ∀ i, i < n → MvOK (f i)
theorem okH_iff {p : Int} {n : Nat} {f : Nat → Mv} (h : okH p n f = true) : HOK p n f := by
  simp only [okH, Bool.and_eq_true, decide_eq_true_eq, Bool.not_eq_true', decide_eq_false_iff_not] at h
  obtain ⟨h1, h2, h3, h4⟩ := h
  exact ⟨h1, h2, by omega, fun i hi => okMv_iff (allFrom_iff _ n 0 h4 i (by omega) (by omega))⟩
def distI (a b : Mv) : Int := if b.place - a.place > a.place - b.place then b.place - a.place else a.place - b.place
theorem distI_bounds {a b : Mv} (ha : MvOK a) (hb : MvOK b) : 0 ≤ distI a b ∧ distI a b ≤ 30 := by
  have := ha.pl0; have := ha.pl1; have := hb.pl0; have := hb.pl1
  simp only [distI]; split <;> omega
theorem mul_bounds {p x : Int} (h0 : 0 ≤ p) (h3 : p ≤ 3) (hx : 0 ≤ x) (hx3 : x ≤ 30) : 0 ≤ p * x ∧ p * x ≤ 90 := by
  have : p = 0 ∨ p = 1 ∨ p = 2 ∨ p = 3 := by omega
  rcases this with rfl | rfl | rfl | rfl <;> omega
theorem canB_eq {p : Int} {n : Nat} {f : Nat → Mv} (h : HOK p n f) (sure : Bool) {i j : Nat} (hi : i < n) (hj : j < n) : canB sure p f i j = decide ((f i).at_ + cond sure (f i).hi (f i).lo + p * distI (f i) (f j) ≤ (f j).at_) := by
  have ha := h.mv i hi
  have hb := h.mv j hj
  have a1 := ha.at0; have a2 := ha.at1; have a3 := ha.pl0; have a4 := ha.pl1; have a5 := ha.lo1; have a6 := ha.lohi; have a7 := ha.hi1
  have b1 := hb.at0; have b2 := hb.at1; have b3 := hb.pl0; have b4 := hb.pl1
  have hL : 1 ≤ cond sure (f i).hi (f i).lo ∧ cond sure (f i).hi (f i).lo ≤ 20 := by cases sure <;> simp only [cond_true, cond_false] <;> omega
  have e1 : IntKind.i64.wrap ((f j).place - (f i).place) = (f j).place - (f i).place := wrapI (by omega) (by omega)
  have e2 : IntKind.i64.wrap ((f i).place - (f j).place) = (f i).place - (f j).place := wrapI (by omega) (by omega)
  have hd := distI_bounds ha hb
  have hm := mul_bounds h.p0 h.p3 hd.1 hd.2
  simp only [canB, canW, doneW, e1, e2]
  rw [show (if (f j).place - (f i).place > (f i).place - (f j).place then (f j).place - (f i).place else (f i).place - (f j).place) = distI (f i) (f j) from rfl]
  generalize cond sure (f i).hi (f i).lo = L at hL
  generalize p * distI (f i) (f j) = w at hm
  rw [wrapI (x := w) (by omega) (by omega), wrapI (x := (f i).at_ + L) (by omega) (by omega), wrapI (x := (f i).at_ + L + w) (by omega) (by omega)]
end Go.Ab
set_option maxRecDepth 100000
namespace Go.Ab
open Go Go.RowKit Go.Proofs
end Go.Ab
set_option maxRecDepth 100000
namespace Go.Ab
open Go Go.RowKit Go.Proofs
end Go.Ab
set_option maxRecDepth 100000
namespace Go.Ab
open Go Go.RowKit Go.Proofs
theorem planG_ok {k : Nat} {b : Nat → Int} (hb : ∀ i, i < k → 0 ≤ b i ∧ b i < 256) (i : Nat) : okN (planG k b i) = true := by
  simp only [planG]
  by_cases hk : 0 < k
  · rw [if_pos hk]
    have e : (i : Int).tmod (k : Int) = ((i % k : Nat) : Int) := rfl
    have hlt := Nat.mod_lt i hk
    rw [e, Int.toNat_natCast]
    obtain ⟨h0, h1⟩ := hb _ hlt
    generalize b (i % k) = z at h0 h1
    rw [wrapI (by omega) (by omega)]
    obtain ⟨m, rfl⟩ := Int.eq_ofNat_of_zero_le h0
    have e2 : ((m : Nat) : Int).tmod 7 = ((m % 7 : Nat) : Int) := rfl
    have hm := Nat.mod_lt m (show 0 < 7 by omega)
    simp only [okN, Bool.and_eq_true, decide_eq_true_eq]
    rw [e2]
    omega
  · rw [if_neg hk]; rfl
end Go.Ab
set_option maxRecDepth 100000
namespace Go.Ab
open Go Go.RowKit Go.Proofs
noncomputable def st13n (n : Nat) (i : Nat) : Nat × Hx := if i = 0 then (0, ⟨⟨[I n, I (0 : Nat)], []⟩, []⟩) else (1, ⟨⟨[I n, I i], [(i, i)]⟩, [ints i (planG 0 fun _ => 0)]⟩)
theorem loop13n (n : Nat) (h0 : 0 < n) (hn : n ≤ 1000000) : LoopOK Try.prog none p13 N13a ⟨⟨[I n, I (0 : Nat)], []⟩, []⟩ (.exit 0) N13b ⟨⟨[I n, I n], [(n, n)]⟩, [ints n (planG 0 fun _ => 0)]⟩ := by
  have hat : ∀ i, Atoms [ints i (planG 0 fun _ => 0)] := fun i cs hcs => by
    simp only [List.mem_singleton] at hcs
    subst hcs
    exact ints_atom i _
  refine loop_vc (Ts := [N13a, N13b]) (k := 3) (X := Nat) (inv := fun i => i ≤ n) (μ := fun i => n - i) (st := st13n n) (out := fun _ => (.exit 0, 1, ⟨⟨[I n, I n], [(n, n)]⟩, [ints n (planG 0 fun _ => 0)]⟩)) rfl vx_sound (by simp [N13a, N13b]) (by rw [nglob]; omega) (fun i hi => ?_) (Nat.zero_le n) (x := 0) rfl (Nat.le_of_ble_eq_true rfl) (by decide) rfl
  have hw : i < n → IntKind.i64.wrap ((i : Int) + 1) = ((i + 1 : Nat) : Int) := fun _ => wrapI (by omega) (by omega)
  by_cases hz : i = 0
  · subst hz
    refine ⟨N13a, _, rfl, (n13a n 0 _).mpr ⟨fun h => ?_, fun h => ?_⟩⟩
    · refine ⟨⟨?_, trivial⟩, .inl ⟨rfl, 1, by omega, by show n - 1 < n - 0; omega, ?_, rfl⟩⟩
      · have h2 := hat 1
        exact h2
      · rw [hw h0]
        rfl
    · have : ¬ (0 : Nat) < n := by simpa using h
      omega
  · have hst : st13n n i = (1, ⟨⟨[I n, I i], [(i, i)]⟩, [ints i (planG 0 fun _ => 0)]⟩) := by simp only [st13n, if_neg hz]
    rw [hst]
    have hlen := ints_len i (planG 0 fun _ => 0)
    refine ⟨N13b, _, rfl, (n13b n i i (ints i (planG 0 fun _ => 0)) _).mpr ⟨fun h => ?_, fun h => ?_⟩⟩
    · have hi' : i < n := by simpa using h
      have e : ints (i + 1) (planG 0 fun _ => 0) = ints i (planG 0 fun _ => 0) ++ [I (Int.tmod 0 7)] := ints_succ i _
      have ht : List.take (i * 1) (ints i (planG 0 fun _ => 0)) = ints i (planG 0 fun _ => 0) := List.take_of_length_le (by rw [hlen]; omega)
      rw [hw hi', ht]
      have hnext : st13n n (i + 1) = (1, ⟨⟨[I n, I (i + 1 : Nat)], [(i + 1, i + 1)]⟩, [ints (i + 1) (planG 0 fun _ => 0)]⟩) := by simp only [st13n, if_neg (show ¬ i + 1 = 0 by omega)]
      have h2 := hat (i + 1)
      rw [e] at h2 hnext
      exact ⟨⟨by omega, by omega, by omega, by omega⟩, ⟨⟨h2, trivial⟩, .inl ⟨rfl, i + 1, by omega, by show n - (i + 1) < n - i; omega, hnext.trans rfl, rfl⟩⟩⟩
    · have e : i = n := by have : ¬ i < n := by simpa using h
                           omega
      subst e
      exact ⟨⟨hat i, trivial⟩, .inr ⟨by simp, rfl⟩⟩
noncomputable def C13n (p : Int) (n c : Nat) (f : Nat → Mv) : ConN where
  A := .agg (.hole (.slice 0 0 .nil)) (.val nilS .nil)
  bs := [.list 1 .ro]
  pre x := x = ⟨⟨[I p], [(n, c)]⟩, [mvs n f]⟩
  news _ := [(ints n (planG 0 fun _ => 0), 3)]
  one := true
  res _ := [.sl 0 n]
theorem C13n_ok (p : Int) (n c : Nat) (f : Nat → Mv) (h0 : 0 < n) (hn : n ≤ 1000000) : ConNOK Try.prog 13 (C13n p n c f) :=
  conRow_of rfl vx_sound (C := C13n p n c f) (n := n) (cells := ints n (planG 0 fun _ => 0)) (e := 3) ⟨⟨[I p], [(n, c)]⟩, [mvs n f]⟩ (fun x => Iff.rfl) rfl rfl rfl ⟨_, (n13 p n c (mvs n f) (ints n (planG 0 fun _ => 0)) _).mpr ⟨fun _ h => (by cases h), loop13n n h0 hn, rfl⟩⟩ (mvs_atoms n f) (ints_atom n _) rfl (Nat.le_of_ble_eq_true rfl) (by rw [nglob]; exact Nat.zero_le _)
noncomputable def m2n (ms : List Value) : Mem := ⟨fillX [.cells ms 1 .ro, .dead] 0 .nil, 2⟩
noncomputable def hN (p : Int) : Value := .agg ⟨[I p, nilS]⟩
end Go.Ab
