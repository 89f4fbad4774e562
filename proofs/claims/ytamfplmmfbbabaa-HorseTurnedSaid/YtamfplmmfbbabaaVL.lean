/- package horse: the proof has as many moves as horses are needed; without a move. -/
import Derived.Test.YtamfplmmfbbabaaVK
import Derived.Test.YtamfplmmfbbabaaVC
set_option maxRecDepth 100000
namespace Go.Ab
open Go Go.RowKit Go.Proofs
theorem popN_cnt (x : Nat) : popN x = cnt x.testBit 7 := by
  have key : ∀ n, ((List.range n).filter fun i => x.testBit i).length = cnt x.testBit n := by
    intro n
    induction n with
    | zero => rfl
    | succ n ih =>
      rw [List.range_succ, List.filter_append, List.length_append, ih]
      simp only [cnt]
      by_cases h : x.testBit n = true
      · rw [if_pos h]; simp [h]
      · rw [if_neg h]; simp [h]
  exact key 7
theorem cnt_ext {P : Nat → Bool} {n : Nat} (h : ∀ i, n ≤ i → P i = false) : ∀ m, n ≤ m → cnt P m = cnt P n := by
  intro m
  induction m with
  | zero => intro hm; have : n = 0 := by omega
            subst this; rfl
  | succ m ih =>
    intro hm
    by_cases e : n = m + 1
    · subst e; rfl
    · simp only [cnt, ih (by omega), h m (by omega)]
      simp
theorem bit_lt {x n i : Nat} (hx : x < 2 ^ n) (hi : n ≤ i) : x.testBit i = false := Nat.testBit_lt_two_pow (Nat.lt_of_lt_of_le hx (Nat.pow_le_pow_right (by omega) hi))
theorem popN_n {x n : Nat} (hn : n ≤ 7) (hx : x < 2 ^ n) : popN x = cnt x.testBit n := by
  rw [popN_cnt]
  exact cnt_ext (fun i hi => bit_lt hx hi) 7 hn
theorem popN_mask (X : Nat → Bool) {n : Nat} (hn : n ≤ 7) : popN (maskN X n) = cnt X n := by
  rw [popN_n hn (maskN_lt X n)]
  exact cnt_congr fun i hi => by rw [maskN_bit]; simp [hi]
section
variable {p : Int} {n : Nat} {f : Nat → Mv} {sure : Bool}
theorem ord_lt (hn : n ≤ 7) {i : Nat} (hi : i < n) : ordF sure p n f n i = (maskN (canB sure p f i) n : Nat) := by
  simp only [ordF, if_pos hi]
  exact rowI_mask _ n (by omega)
theorem apart_iff (hn : n ≤ 7) {s : Nat} (hs : s < 2 ^ n) : allFrom (apartI (ordF sure p n f n) (s : Int)) 7 0 = true ↔ Anti (canB sure p f) n s.testBit := by
  have hs7 : s < 2 ^ 7 := Nat.lt_of_lt_of_le hs (Nat.pow_le_pow_right (by omega) hn)
  have bitI : ∀ i, hasI (s : Int) i = s.testBit i := fun i => hasI_mask s i (by omega)
  have each : ∀ i, i < n → (apartI (ordF sure p n f n) (s : Int) i = true ↔ (s.testBit i = true → ∀ j, j < n → s.testBit j = true → canB sure p f i j = false)) := fun i hi => by
    have hm := maskN_lt (canB sure p f i) n
    have hm7 : maskN (canB sure p f i) n < 2 ^ 7 := Nat.lt_of_lt_of_le hm (Nat.pow_le_pow_right (by omega) hn)
    simp only [apartI, bitI, ord_lt hn hi]
    rw [and_nat s _ (by omega) (by omega)]
    cases hb : s.testBit i with
    | false => simp
    | true =>
      simp only [Bool.true_and, Bool.not_eq_true', true_implies]
      constructor
      · intro h0 j hj hbj
        have h0 : ((s &&& maskN (canB sure p f i) n : Nat) : Int) = 0 := by simpa using h0
        have h0 : s &&& maskN (canB sure p f i) n = 0 := by omega
        have := congrArg (fun z => z.testBit j) h0
        simp only [Nat.testBit_and, hbj, maskN_bit, hj, decide_true, Bool.true_and, Nat.zero_testBit] at this
        exact this
      · intro h
        have h0 : s &&& maskN (canB sure p f i) n = 0 := by
          refine Nat.eq_of_testBit_eq fun j => ?_
          rw [Nat.testBit_and, maskN_bit, Nat.zero_testBit]
          by_cases hj : j < n
          · cases hbj : s.testBit j with
            | false => rfl
            | true => rw [h j hj hbj]; simp
          · rw [bit_lt hs (by omega)]; rfl
        rw [h0]; rfl
  constructor
  · intro h i j hi hj hbi hbj
    exact (each i hi).1 (allFrom_iff _ 7 0 h i (by omega) (by omega)) hbi j hj hbj
  · intro h
    have key : ∀ r m, (∀ i, m ≤ i → i < m + r → apartI (ordF sure p n f n) (s : Int) i = true) → allFrom (apartI (ordF sure p n f n) (s : Int)) r m = true := by
      intro r
      induction r with
      | zero => intro m _; rfl
      | succ r ih =>
        intro m hm
        simp only [allFrom, hm m (by omega) (by omega), Bool.true_and]
        exact ih (m + 1) fun i h1 h2 => hm i (by omega) (by omega)
    refine key 7 0 fun i _ _ => ?_
    by_cases hi : i < n
    · exact (each i hi).2 fun hbi j hj hbj => h i j hi hj hbi hbj
    · simp only [apartI, bitI, bit_lt hs (show n ≤ i by omega), Bool.false_and, Bool.not_false]
theorem best_inv (o : Nat → Int) (s : Nat) : (0 < s → allFrom (apartI o ((bestF o s : Nat) : Int)) 7 0 = true) ∧ ∀ t, t < s → allFrom (apartI o (t : Int)) 7 0 = true → popN t ≤ popN (bestF o s) ∧ (popN t = popN (bestF o s) → bestF o s ≤ t) := by
  have h00 : allFrom (apartI o ((0 : Nat) : Int)) 7 0 = true := by simp only [allFrom, Int.natCast_zero, apart0, Bool.true_and]
  induction s with
  | zero => exact ⟨fun h => by omega, fun t ht => by omega⟩
  | succ s ih =>
    obtain ⟨h1, h2⟩ := ih
    simp only [bestF]
    split
    · rename_i hc
      simp only [Bool.and_eq_true, decide_eq_true_eq] at hc
      refine ⟨fun _ => hc.1, fun t ht hA => ?_⟩
      by_cases e : t = s
      · subst e; exact ⟨Nat.le_refl _, fun _ => Nat.le_refl _⟩
      · obtain ⟨a, b⟩ := h2 t (by omega) hA
        exact ⟨by omega, fun e => by omega⟩
    · rename_i hc
      have hb0 : bestF o 0 = 0 := rfl
      refine ⟨fun _ => ?_, fun t ht hA => ?_⟩
      · rcases Nat.eq_zero_or_pos s with h | h
        · subst h; exact h00
        · exact h1 h
      · by_cases e : t = s
        · subst e
          simp only [hA, Bool.true_and, decide_eq_true_eq] at hc
          refine ⟨by omega, fun _ => ?_⟩
          have := bestF_lt (o := o) t (t + 1) (by omega) (by omega)
          omega
        · exact h2 t (by omega) hA
theorem can_mu (h : HOK p n f) {i j : Nat} (hi : i < n) (hj : j < n) (hc : canB sure p f i j = true) : (f i).at_.toNat < (f j).at_.toNat := by
  rw [canB_eq h sure hi hj] at hc
  have hc := of_decide_eq_true hc
  have ha := h.mv i hi
  have hb := h.mv j hj
  have a0 := ha.at0; have a5 := ha.lo1; have a6 := ha.lohi; have b0 := hb.at0
  have hm := mul_bounds h.p0 h.p3 (distI_bounds ha hb).1 (distI_bounds ha hb).2
  generalize p * distI (f i) (f j) = w at hm hc
  have hL : 1 ≤ cond sure (f i).hi (f i).lo := by cases sure <;> simp only [cond_true, cond_false] <;> omega
  omega
theorem can_trans (h : HOK p n f) {i j k : Nat} (hi : i < n) (hj : j < n) (hk : k < n) (h1 : canB sure p f i j = true) (h2 : canB sure p f j k = true) : canB sure p f i k = true := by
  rw [canB_eq h sure hi hj] at h1
  rw [canB_eq h sure hj hk] at h2
  rw [canB_eq h sure hi hk]
  have h1 := of_decide_eq_true h1
  have h2 := of_decide_eq_true h2
  have hL : 1 ≤ cond sure (f j).hi (f j).lo := by
    have a5 := (h.mv j hj).lo1; have a6 := (h.mv j hj).lohi
    cases sure <;> simp only [cond_true, cond_false] <;> omega
  have hd : distI (f i) (f k) ≤ distI (f i) (f j) + distI (f j) (f k) := by
    simp only [distI]
    split <;> split <;> split <;> omega
  have hp0 := h.p0
  have hmul : p * distI (f i) (f k) ≤ p * distI (f i) (f j) + p * distI (f j) (f k) := by
    have := Int.mul_le_mul_of_nonneg_left hd hp0
    rw [Int.mul_add] at this
    exact this
  exact decide_eq_true (by omega)
theorem canO_eq (h : HOK p n f) {i j : Nat} (hi : i < n) (hj : j < n) : canO (ordF sure p n f n) id i j = canB sure p f i j := hasI_ord sure p f h.n7 hi hj
theorem few_ex (h : HOK p n f) : ∃ X, Anti (canB sure p f) n X ∧ fewH sure p n f ≤ cnt X n := by
  obtain ⟨X, h1, h2⟩ := anti_ex (can := canO (ordF sure p n f n) id) (q := id) (n := n) (fun i j _ _ e => e) h.n7
  exact ⟨X, fun i j hi hj hx hy => by rw [← canO_eq (sure := sure) h hi hj]; exact h1 i j hi hj hx hy, h2⟩
theorem few_le (h : HOK p n f) {X : Nat → Bool} (hX : Anti (canB sure p f) n X) : cnt X n ≤ fewH sure p n f := by
  refine anti_le (can := canO (ordF sure p n f n) id) (q := id) (n := n) (fun i j _ _ e => e) h.n7 (fun i => (f i).at_.toNat) (fun i j hi hj hc => ?_) (fun i j k hi hj hk h1 h2 => ?_) (fun i j hi hj hx hy => ?_)
  · rw [canO_eq h hi hj] at hc; exact can_mu h hi hj hc
  · rw [canO_eq h hi hj] at h1
    rw [canO_eq h hj hk] at h2
    rw [canO_eq h hi hk]
    exact can_trans h hi hj hk h1 h2
  · rw [canO_eq h hi hj]; exact hX i j hi hj hx hy
def proofH (sure : Bool) (p : Int) (n : Nat) (f : Nat → Mv) : Nat := bestF (ordF sure p n f n) (2 ^ n)
theorem proof_lt (hn : n ≤ 7) : proofH sure p n f < 2 ^ n := bestF_lt _ _ (Nat.le_refl _) (two_pow_lt hn).2
theorem proof_anti (hn : n ≤ 7) : Anti (canB sure p f) n (proofH sure p n f).testBit := (apart_iff hn (proof_lt hn)).1 ((best_inv _ (2 ^ n)).1 (two_pow_lt hn).2)
theorem proof_best (hn : n ≤ 7) {t : Nat} (ht : t < 2 ^ n) (hA : Anti (canB sure p f) n t.testBit) : popN t ≤ popN (proofH sure p n f) ∧ (popN t = popN (proofH sure p n f) → proofH sure p n f ≤ t) :=
  (best_inv _ (2 ^ n)).2 t ht ((apart_iff hn ht).2 hA)
theorem proof_few (h : HOK p n f) : fewH sure p n f = popN (proofH sure p n f) := by
  have hn := h.n7
  obtain ⟨X, h1, h2⟩ := few_ex (sure := sure) h
  have h3 := few_le (sure := sure) h (proof_anti hn)
  rw [← popN_n hn (proof_lt hn)] at h3
  have h4 := (proof_best (sure := sure) (p := p) (f := f) hn (maskN_lt X n) (fun i j hi hj hx hy => by
    rw [maskN_bit] at hx hy
    simp only [hi, hj, decide_true, Bool.true_and] at hx hy
    exact h1 i j hi hj hx hy)).1
  rw [popN_mask X hn] at h4
  omega
theorem okMv_of {m : Mv} (h : MvOK m) : okMv m = true := by
  simp only [okMv, Bool.and_eq_true, decide_eq_true_eq, Bool.not_eq_true', decide_eq_false_iff_not]
  have h1 := h.at0; have h2 := h.at1; have h3 := h.pl0; have h4 := h.pl1; have h5 := h.lo1; have h6 := h.lohi; have h7 := h.hi1
  refine ⟨h1, h2, h3, h4, by omega, by omega, by omega⟩
theorem okH_of (h : HOK p n f) : okH p n f = true := by
  have key : ∀ r m, (∀ i, m ≤ i → i < m + r → okMv (f i) = true) → allFrom (fun i => okMv (f i)) r m = true := by
    intro r
    induction r with
    | zero => intro m _; rfl
    | succ r ih =>
      intro m hm
      simp only [allFrom, hm m (by omega) (by omega), Bool.true_and]
      exact ih (m + 1) fun i h1 h2 => hm i (by omega) (by omega)
  have h7 := h.n7
  simp only [okH, decide_eq_true h.p0, decide_eq_true h.p3, Bool.true_and, key n 0 fun i _ hi => okMv_of (h.mv i (by omega)), Bool.and_true]
  rw [decide_eq_false (by omega)]; rfl
end
end Go.Ab
