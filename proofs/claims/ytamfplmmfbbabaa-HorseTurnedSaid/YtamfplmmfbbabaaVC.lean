/- Matching: what the search comes to. -/
import Derived.Test.YtamfplmmfbbabaaVB
namespace Go.Ab
def cnt (P : Nat → Bool) : Nat → Nat
  | 0 => 0
  | n + 1 => cnt P n + if P n = true then 1 else 0
theorem cnt_congr {P Q : Nat → Bool} {n : Nat} (h : ∀ i, i < n → P i = Q i) : cnt P n = cnt Q n := by
  induction n with
  | zero => rfl
  | succ n ih => simp only [cnt, ih (fun i hi => h i (by omega)), h n (by omega)]
theorem cnt_upd {P Q : Nat → Bool} {n s : Nat} (hs : s < n) (h : ∀ i, i ≠ s → Q i = P i) : cnt Q n + (if P s = true then 1 else 0) = cnt P n + if Q s = true then 1 else 0 := by
  induction n with
  | zero => omega
  | succ n ih =>
    simp only [cnt]
    by_cases e : s = n
    · subst e
      rw [cnt_congr (P := Q) (Q := P) (fun i hi => h i (by omega))]
      omega
    · have := ih (by omega)
      rw [h n (fun e' => e e'.symm)]
      omega
theorem cnt_not (P : Nat → Bool) (n : Nat) : cnt P n + cnt (fun i => !P i) n = n := by
  induction n with
  | zero => rfl
  | succ n ih =>
    simp only [cnt]
    by_cases hp : P n = true
    · simp only [hp, if_true, Bool.not_true, Bool.false_eq_true, if_false]; omega
    · have h2 : P n = false := by simpa using hp
      simp only [h2, Bool.false_eq_true, if_false, Bool.not_false, if_true]; omega
theorem cnt_pos {P : Nat → Bool} {n i : Nat} (hi : i < n) (h : P i = true) : 0 < cnt P n := by
  induction n with
  | zero => omega
  | succ n ih =>
    simp only [cnt]
    by_cases e : i = n
    · subst e; rw [if_pos h]; omega
    · have := ih (by omega); omega
theorem cnt_ex {P : Nat → Bool} {n : Nat} (h : 0 < cnt P n) : ∃ i, i < n ∧ P i = true := by
  induction n with
  | zero => cases h
  | succ n ih =>
    simp only [cnt] at h
    by_cases hp : P n = true
    · exact ⟨n, by omega, hp⟩
    · rw [if_neg hp] at h
      obtain ⟨i, h1, h2⟩ := ih h
      exact ⟨i, by omega, h2⟩
theorem cnt_one {P : Nat → Bool} {n i j : Nat} (h : cnt P n ≤ 1) (hi : i < n) (hj : j < n) (pi : P i = true) (pj : P j = true) : i = j := by
  induction n with
  | zero => omega
  | succ n ih =>
    simp only [cnt] at h
    by_cases ei : i = n <;> by_cases ej : j = n
    · omega
    · subst ei
      rw [if_pos pi] at h
      have := cnt_pos (P := P) (n := i) (i := j) (by omega) pj
      omega
    · subst ej
      rw [if_pos pj] at h
      have := cnt_pos (P := P) (n := j) (i := i) (by omega) pi
      omega
    · exact ih (by omega) (by omega) (by omega)
theorem cnt_inj {m : Nat} (g : Nat → Nat) (n : Nat) : ∀ {P Q : Nat → Bool}, (∀ i, i < n → P i = true → g i < m ∧ Q (g i) = true) → (∀ i j, i < n → j < n → P i = true → P j = true → g i = g j → i = j) → cnt P n ≤ cnt Q m := by
  induction n with
  | zero => intro P Q _ _; exact Nat.zero_le _
  | succ n ih =>
    intro P Q h hi
    simp only [cnt]
    cases hp : P n with
    | false =>
      have := ih (P := P) (Q := Q) (fun i hi => h i (by omega)) (fun i j a b => hi i j (by omega) (by omega))
      simpa using this
    | true =>
      obtain ⟨g1, g2⟩ := h n (by omega) hp
      have := ih (P := P) (Q := fun j => if j = g n then false else Q j) (fun i hi' hpi => by
        obtain ⟨g3, g4⟩ := h i (by omega) hpi
        refine ⟨g3, ?_⟩
        show (if g i = g n then false else Q (g i)) = true
        rw [if_neg (fun e => by have := hi i n (by omega) (by omega) hpi hp e; omega)]
        exact g4) (fun i j a b => hi i j (by omega) (by omega))
      have h2 := cnt_upd (P := Q) (Q := fun j => if j = g n then false else Q j) g1 (fun i hne => by simp [hne])
      simp only [if_true, g2, Bool.false_eq_true, if_false] at h2 ⊢
      omega
section
variable (can : Nat → Nat → Bool) (q : Nat → Nat) (n : Nat)
def trN (σ : Ms) (s : Nat) : Prop := σ.T.testBit (q s) = true
def Val (M : List (Nat × Nat)) : Prop := ∀ s o, getN M s = some o → s < n ∧ o < n ∧ can o s = true
def cntL (M : List (Nat × Nat)) (l : Nat) : Nat := cnt (fun s => getN M s == some l) n
def Closed (M : List (Nat × Nat)) (S : Nat → Prop) : Prop := ∀ s, s < n → S s → ∃ o, getN M s = some o ∧ ∀ t, t < n → can o t = true → S t
structure RecOK (rec : Nat → Ms → Bool × Ms) (k : Nat) : Prop where
  f0 : ∀ a σ s, trN q σ s → trN q (rec a σ).2 s
  f1 : ∀ a σ s, s < n → trN q σ s → getN (rec a σ).2.M s = getN σ.M s
  f2 : ∀ a σ, (rec a σ).1 = false → (rec a σ).2.M = σ.M
  f3 : ∀ a σ, a < n → Val can n σ.M → Val can n (rec a σ).2.M
  f4 : ∀ a σ l, (rec a σ).1 = true → cntL n (rec a σ).2.M l = cntL n σ.M l + if l = a then 1 else 0
  f5 : ∀ a σ, unt q n σ < k → (rec a σ).1 = false → (∀ s, s < n → can a s = true → trN q (rec a σ).2 s) ∧ ∀ s, s < n → trN q (rec a σ).2 s → ¬ trN q σ s → ∃ b, getN σ.M s = some b ∧ ∀ t, t < n → can b t = true → trN q (rec a σ).2 t
  f6 : ∀ a σ S, Closed can n σ.M S → (∀ s, s < n → S s → getN (rec a σ).2.M s = getN σ.M s) ∧ ((∀ s, s < n → can a s = true → S s) → (rec a σ).1 = false)
variable {can q n}
theorem tr_mark (hq : ∀ i j, i < n → j < n → q i = q j → i = j) {σ : Ms} {s t : Nat} (hs : s < n) (ht : t < n) : trN q (markN q σ s) t ↔ trN q σ t ∨ t = s := by
  unfold trN markN
  rw [Nat.testBit_or, Bool.or_eq_true]
  refine or_congr Iff.rfl ⟨fun h => ?_, fun h => by subst h; exact Nat.testBit_two_pow_self⟩
  by_cases e : q s = q t
  · exact (hq s t hs ht e).symm
  · rw [Nat.testBit_two_pow_of_ne e] at h; cases h
theorem cntL_put {M : List (Nat × Nat)} {s a l : Nat} (hs : s < n) : cntL n (setN M s a) l + (if getN M s = some l then 1 else 0) = cntL n M l + if l = a then 1 else 0 := by
  have := cnt_upd (P := fun t => getN M t == some l) (Q := fun t => getN (setN M s a) t == some l) hs (fun i hi => by simp only [getN_set, if_neg hi])
  simp only [getN_set, if_true] at this
  have e1 : ((getN M s == some l) = true) = (getN M s = some l) := propext ⟨eq_of_beq, fun h => by rw [h]; exact beq_self_eq_true _⟩
  have e2 : ((some a == some l) = true) = (l = a) := propext ⟨fun h => by have := eq_of_beq h; cases this; rfl, fun h => by rw [h]; exact beq_self_eq_true _⟩
  simp only [e1, e2] at this
  unfold cntL
  simp only [getN_set]
  exact this
theorem goF_ok (hq : ∀ i j, i < n → j < n → q i = q j → i = j) {rec : Nat → Ms → Bool × Ms} {k : Nat} (h : RecOK can q n rec k) (a r : Nat) : ∀ s σ, s + r = n →
    (∀ t, trN q σ t → trN q (goF can q rec a r s σ).2 t) ∧
    (∀ t, t < n → trN q σ t → getN (goF can q rec a r s σ).2.M t = getN σ.M t) ∧
    ((goF can q rec a r s σ).1 = false → (goF can q rec a r s σ).2.M = σ.M) ∧
    (a < n → Val can n σ.M → Val can n (goF can q rec a r s σ).2.M) ∧
    (∀ l, (goF can q rec a r s σ).1 = true → cntL n (goF can q rec a r s σ).2.M l = cntL n σ.M l + if l = a then 1 else 0) ∧
    (unt q n σ < k + 1 → (goF can q rec a r s σ).1 = false → (∀ t, s ≤ t → t < n → can a t = true → trN q (goF can q rec a r s σ).2 t) ∧ ∀ t, t < n → trN q (goF can q rec a r s σ).2 t → ¬ trN q σ t → ∃ b, getN σ.M t = some b ∧ ∀ u, u < n → can b u = true → trN q (goF can q rec a r s σ).2 u) ∧
    (∀ S, Closed can n σ.M S → (∀ t, t < n → S t → getN (goF can q rec a r s σ).2.M t = getN σ.M t) ∧ ((∀ t, t < n → can a t = true → S t) → (goF can q rec a r s σ).1 = false)) := by
  induction r with
  | zero =>
    intro s σ hs
    refine ⟨fun t h => h, fun t _ _ => rfl, fun _ => rfl, fun _ h => h, fun l h => (by cases h), fun _ _ => ⟨fun t h1 h2 => by omega, fun t _ h1 h2 => absurd h1 h2⟩, fun S _ => ⟨fun t _ _ => rfl, fun _ => rfl⟩⟩
  | succ r ih =>
    intro s σ hs
    have hsn : s < n := by omega
    by_cases hskip : (σ.T.testBit (q s) || !(can a s)) = true
    · rw [goF_skip hskip]
      obtain ⟨i0, i1, i2, i3, i4, i5, i6⟩ := ih (s + 1) σ (by omega)
      refine ⟨i0, i1, i2, i3, i4, fun hu hf => ?_, i6⟩
      obtain ⟨j1, j2⟩ := i5 hu hf
      refine ⟨fun t ht1 ht2 hc => ?_, j2⟩
      by_cases e : t = s
      · subst e
        simp only [hc, Bool.not_true, Bool.or_false] at hskip
        exact i0 t hskip
      · exact j1 t (by omega) ht2 hc
    · have hgo : (σ.T.testBit (q s) || !(can a s)) = false := by simpa using hskip
      have hnt : ¬ trN q σ s := by
        intro h
        unfold trN at h
        rw [h] at hgo
        cases hgo
      have hcan : can a s = true := by
        cases hc : can a s with
        | true => rfl
        | false => rw [hc] at hgo; simp at hgo
      have hmk : ∀ t, t < n → (trN q (markN q σ s) t ↔ trN q σ t ∨ t = s) := fun t ht => tr_mark hq hsn ht
      cases hg : getN σ.M s with
      | none =>
        rw [goF_none hgo hg]
        refine ⟨fun t h => mark_mono σ s _ h, fun t ht h => ?_, fun h => (by cases h), fun ha hv u o hu => ?_, fun l _ => ?_, fun _ h => (by cases h), fun S hS => ⟨fun t ht hSt => ?_, fun hN => ?_⟩⟩
        · show getN (setN σ.M s a) t = _
          rw [getN_set, if_neg (fun e => by subst e; exact hnt h)]
        · have hu : getN (setN σ.M s a) u = some o := hu
          rw [getN_set] at hu
          split at hu
          · rename_i e
            cases hu
            subst e
            exact ⟨hsn, ha, hcan⟩
          · exact hv u o hu
        · have := cntL_put (M := σ.M) (a := a) (l := l) hsn
          rw [hg] at this
          show cntL n (setN σ.M s a) l = _
          simpa using this
        · show getN (setN σ.M s a) t = _
          rw [getN_set, if_neg (fun e => by subst e; obtain ⟨o, ho, _⟩ := hS t ht hSt; rw [hg] at ho; cases ho)]
        · obtain ⟨o, ho, _⟩ := hS s hsn (hN s hsn hcan)
          rw [hg] at ho; cases ho
      | some b =>
        have f0 := fun t => h.f0 b (markN q σ s) t
        have f1 := fun t => h.f1 b (markN q σ s) t
        have f2 := h.f2 b (markN q σ s)
        have f3 := h.f3 b (markN q σ s)
        have f4 := fun l => h.f4 b (markN q σ s) l
        have f5 := h.f5 b (markN q σ s)
        have f6 := fun S => h.f6 b (markN q σ s) S
        have hlt : unt q n σ < k + 1 → unt q n (markN q σ s) < k := fun hu => by
          have := unt_mark (q := q) (n := n) hsn (σ := σ) (by unfold trN at hnt; simpa using hnt)
          omega
        cases hr : rec b (markN q σ s) with
        | mk rb σ2 =>
        rw [hr] at f0 f1 f2 f3 f4 f5 f6
        cases rb with
        | true =>
          rw [goF_true hgo hg hr]
          have hs2 : getN σ2.M s = some b := by rw [f1 s hsn ((hmk s hsn).2 (.inr rfl))]; exact hg
          refine ⟨fun t h => f0 t (mark_mono σ s _ h), fun t ht h => ?_, fun h => (by cases h), fun ha hv u o hu => ?_, fun l _ => ?_, fun _ h => (by cases h), fun S hS => ⟨fun t ht hSt => ?_, fun hN => ?_⟩⟩
          · show getN (setN σ2.M s a) t = _
            rw [getN_set, if_neg (fun e => by subst e; exact hnt h)]
            exact f1 t ht (mark_mono σ s _ h)
          · have hu : getN (setN σ2.M s a) u = some o := hu
            rw [getN_set] at hu
            split at hu
            · rename_i e
              cases hu
              subst e
              exact ⟨hsn, ha, hcan⟩
            · exact f3 (hv s b hg).2.1 hv u o hu
          · have h1 := cntL_put (M := σ2.M) (a := a) (l := l) hsn
            have h2 := f4 l rfl
            rw [hs2] at h1
            have e3 : (if some b = some l then 1 else 0) = if l = b then 1 else (0 : Nat) := by
              by_cases e : l = b
              · subst e; simp
              · rw [if_neg e, if_neg (fun h => by cases h; exact e rfl)]
            rw [e3] at h1
            simp only [markN] at h2
            show cntL n (setN σ2.M s a) l = _
            omega
          · have hns : ¬ S s := fun hSs => by
              obtain ⟨o, ho, hN⟩ := hS s hsn hSs
              rw [hg] at ho
              cases ho
              have := (f6 S hS).2 hN
              cases this
            show getN (setN σ2.M s a) t = _
            rw [getN_set, if_neg (fun e => by subst e; exact hns hSt)]
            exact (f6 S hS).1 t ht hSt
          · obtain ⟨o, ho, hN2⟩ := hS s hsn (hN s hsn hcan)
            rw [hg] at ho
            cases ho
            have := (f6 S hS).2 hN2
            cases this
        | false =>
          rw [goF_false hgo hg hr]
          have hM : σ2.M = σ.M := f2 rfl
          obtain ⟨i0, i1, i2, i3, i4, i5, i6⟩ := ih (s + 1) σ2 (by omega)
          rw [hM] at i1 i2 i3 i4 i5 i6
          refine ⟨fun t h => i0 t (f0 t (mark_mono σ s _ h)), fun t ht h => i1 t ht (f0 t (mark_mono σ s _ h)), i2, i3, i4, fun hu hf => ?_, i6⟩
          obtain ⟨g1, g2⟩ := f5 (hlt hu) rfl
          have hu2 : unt q n σ2 < k + 1 := by
            have h1 := unt_mono (q := q) (n := n) (σ := markN q σ s) (σ' := markN q σ s) (fun j h => h)
            have h2 : unt q n σ2 ≤ unt q n (markN q σ s) := by
              unfold unt
              have key : ∀ m, m ≤ n → ((List.range m).filter fun s => !σ2.T.testBit (q s)).length ≤ ((List.range m).filter fun t => !(markN q σ s).T.testBit (q t)).length := by
                intro m
                induction m with
                | zero => intro _; simp
                | succ m ihm =>
                  intro hm
                  have := ihm (by omega)
                  simp only [List.range_succ, List.filter_append, List.length_append]
                  have : ([m].filter fun s => !σ2.T.testBit (q s)).length ≤ ([m].filter fun t => !(markN q σ s).T.testBit (q t)).length := by
                    cases h4 : (markN q σ s).T.testBit (q m) with
                    | true => have := f0 m h4; unfold trN at this; simp [h4, this]
                    | false => cases h5 : σ2.T.testBit (q m) <;> simp [h4, h5]
                  omega
              exact key n (Nat.le_refl n)
            have := hlt hu
            omega
          obtain ⟨j1, j2⟩ := i5 hu2 hf
          refine ⟨fun t ht1 ht2 hc => ?_, fun t ht ht1 ht2 => ?_⟩
          · by_cases e : t = s
            · subst e
              exact i0 t (f0 t ((hmk t ht2).2 (.inr rfl)))
            · exact j1 t (by omega) ht2 hc
          · by_cases e2 : trN q σ2 t
            · by_cases e3 : t = s
              · subst e3
                exact ⟨b, hg, fun u hu' hc => i0 u (g1 u hu' hc)⟩
              · obtain ⟨b', h1, h2⟩ := g2 t ht e2 (fun hm => by
                  rcases (hmk t ht).1 hm with h3 | h3
                  · exact ht2 h3
                  · exact e3 h3)
                exact ⟨b', h1, fun u hu' hc => i0 u (h2 u hu' hc)⟩
            · exact j2 t ht ht1 e2
theorem matchF_ok (hq : ∀ i j, i < n → j < n → q i = q j → i = j) (k : Nat) : RecOK can q n (matchF can q n k) k := by
  induction k with
  | zero => exact ⟨fun _ _ _ h => h, fun _ _ _ _ _ => rfl, fun _ _ _ => rfl, fun _ _ _ h => h, fun _ _ _ h => (by cases h), fun _ _ h => (by omega), fun _ _ _ _ => ⟨fun _ _ _ => rfl, fun _ => rfl⟩⟩
  | succ k ih =>
    have key := fun a σ => goF_ok hq ih a n 0 σ (by omega)
    refine ⟨fun a σ => (key a σ).1, fun a σ => (key a σ).2.1, fun a σ => (key a σ).2.2.1, fun a σ => (key a σ).2.2.2.1, fun a σ => (key a σ).2.2.2.2.1, fun a σ hu hf => ?_, fun a σ => (key a σ).2.2.2.2.2.2⟩
    obtain ⟨h1, h2⟩ := (key a σ).2.2.2.2.2.1 hu hf
    exact ⟨fun s hs hc => h1 s (Nat.zero_le s) hs hc, h2⟩
end
end Go.Ab
namespace Go.Ab
theorem cnt_add {A X S : Nat → Bool} {n : Nat} (h : ∀ i, i < n → A i = true → X i = true ∨ S i = true) : cnt A n ≤ cnt X n + cnt S n := by
  induction n with
  | zero => exact Nat.zero_le _
  | succ n ih =>
    have := ih (fun i hi => h i (by omega))
    simp only [cnt]
    by_cases ha : A n = true
    · rcases h n (by omega) ha with hx | hs
      · rw [if_pos ha, if_pos hx]; split <;> omega
      · rw [if_pos ha, if_pos hs]; split <;> omega
    · rw [if_neg ha]; omega
theorem cnt_dis {A F P : Nat → Bool} {n : Nat} (h1 : ∀ i, i < n → F i = true → A i = true ∧ P i = false) (h2 : ∀ i, i < n → P i = true → A i = true) : cnt F n + cnt P n ≤ cnt A n := by
  induction n with
  | zero => exact Nat.le_refl _
  | succ n ih =>
    have := ih (fun i hi => h1 i (by omega)) (fun i hi => h2 i (by omega))
    simp only [cnt]
    by_cases hf : F n = true
    · obtain ⟨ha, hp⟩ := h1 n (by omega) hf
      rw [if_pos hf, if_pos ha, if_neg (by simp [hp])]
      omega
    · by_cases hp : P n = true
      · rw [if_neg hf, if_pos hp, if_pos (h2 n (by omega) hp)]; omega
      · rw [if_neg hf, if_neg hp]; split <;> omega
section
variable {can : Nat → Nat → Bool} {q : Nat → Nat} {n : Nat}
structure FewOK (can : Nat → Nat → Bool) (n j : Nat) (M : List (Nat × Nat)) (many : Nat) (F S : Nat → Bool) : Prop where
  val : Val can n M
  cl : ∀ l, cntL n M l = if l < j ∧ F l = false then 1 else 0
  lt : ∀ l, F l = true → l < j
  many : cnt F n = many
  closed : Closed can n M (fun s => S s = true)
  out : ∀ l, F l = true → ∀ t, t < n → can l t = true → S t = true
theorem cnt_false (n : Nat) : cnt (fun _ => false) n = 0 := by
  induction n with
  | zero => rfl
  | succ n ih => simp only [cnt, ih]; rfl
theorem fewS_inv (hq : ∀ i j, i < n → j < n → q i = q j → i = j) (hn : n ≤ 7) (j : Nat) (hj : j ≤ n) : ∃ F S, FewOK can n j (fewS can q n j).1.M (fewS can q n j).2 F S := by
  induction j with
  | zero =>
    refine ⟨fun _ => false, fun _ => false, ⟨fun s o h => (by cases h), fun l => ?_, fun l h => (by cases h), cnt_false n, fun s _ h => (by cases h), fun l h => (by cases h)⟩⟩
    rw [if_neg (by omega)]
    show cnt (fun s => getN [] s == some l) n = 0
    exact cnt_false n
  | succ j ih =>
    obtain ⟨F, S, h⟩ := ih (by omega)
    have hM := matchF_ok (can := can) hq 8
    have f2 := hM.f2 j ⟨0, (fewS can q n j).1.M⟩
    have f3 := hM.f3 j ⟨0, (fewS can q n j).1.M⟩ (by omega) h.val
    have f4 := fun l => hM.f4 j ⟨0, (fewS can q n j).1.M⟩ l
    have f5 := hM.f5 j ⟨0, (fewS can q n j).1.M⟩ (by have := unt_le (q := q) (n := n) ⟨0, (fewS can q n j).1.M⟩; omega)
    have f6 := hM.f6 j ⟨0, (fewS can q n j).1.M⟩ (fun s => S s = true) h.closed
    have hFj : F j = false := by
      cases hf : F j with
      | false => rfl
      | true => have := h.lt j hf; omega
    simp only [fewS]
    cases hr : matchF can q n 8 j ⟨0, (fewS can q n j).1.M⟩ with
    | mk b σ' =>
    rw [hr] at f2 f3 f4 f5 f6
    cases b with
    | true =>
      refine ⟨F, S, ⟨f3, fun l => ?_, fun l hl => (by have := h.lt l hl; omega), by rw [if_pos rfl]; exact h.many, fun s hs hS => ?_, h.out⟩⟩
      · have h1 := f4 l rfl
        have h2 := h.cl l
        simp only at h1
        rw [h1, h2]
        by_cases e : l = j
        · subst e
          rw [if_neg (by omega), if_pos rfl, if_pos ⟨by omega, hFj⟩]
        · rw [if_neg e]
          by_cases e2 : l < j ∧ F l = false
          · rw [if_pos e2, if_pos ⟨by omega, e2.2⟩]
          · rw [if_neg e2, if_neg (fun h => e2 ⟨by omega, h.2⟩)]
      · obtain ⟨o, ho, hN⟩ := h.closed s hs hS
        exact ⟨o, by rw [f6.1 s hs hS]; exact ho, hN⟩
    | false =>
      have hM' : σ'.M = (fewS can q n j).1.M := f2 rfl
      obtain ⟨g1, g2⟩ := f5 rfl
      refine ⟨fun l => if l = j then true else F l, fun s => S s || σ'.T.testBit (q s), ⟨f3, fun l => ?_, fun l hl => ?_, ?_, fun s hs hS => ?_, fun l hl t ht hc => ?_⟩⟩
      · show cntL n σ'.M l = _
        rw [hM', h.cl l]
        by_cases e : l = j
        · subst e
          rw [if_neg (by omega), if_neg (by simp)]
        · simp only [if_neg e]
          by_cases e2 : l < j ∧ F l = false
          · rw [if_pos e2, if_pos ⟨by omega, e2.2⟩]
          · rw [if_neg e2, if_neg (fun h => e2 ⟨by omega, h.2⟩)]
      · by_cases e : l = j
        · omega
        · have hl : (if l = j then true else F l) = true := hl
          rw [if_neg e] at hl
          have := h.lt l hl
          omega
      · have := cnt_upd (P := F) (Q := fun l => if l = j then true else F l) (n := n) (s := j) (by omega) (fun i hi => by simp [hi])
        simp only [hFj, Bool.false_eq_true, if_false, if_true] at this
        rw [if_neg (by simp)]
        have := h.many
        omega
      · show ∃ o, getN σ'.M s = some o ∧ _
        rw [hM']
        cases hs1 : S s with
        | true =>
          obtain ⟨o, ho, hN⟩ := h.closed s hs hs1
          exact ⟨o, ho, fun t ht hc => by have := hN t ht hc; show (S t || σ'.T.testBit (q t)) = true; rw [this]; rfl⟩
        | false =>
          have hS : (S s || σ'.T.testBit (q s)) = true := hS
          rw [hs1, Bool.false_or] at hS
          obtain ⟨o, ho, hN⟩ := g2 s hs hS (by unfold trN; simp)
          exact ⟨o, ho, fun t ht hc => by have := hN t ht hc; show (S t || σ'.T.testBit (q t)) = true; rw [show σ'.T.testBit (q t) = true from this, Bool.or_true]⟩
      · by_cases e : l = j
        · subst e
          have := g1 t ht hc
          show (S t || σ'.T.testBit (q t)) = true
          rw [show σ'.T.testBit (q t) = true from this, Bool.or_true]
        · have hl : (if l = j then true else F l) = true := hl
          rw [if_neg e] at hl
          have := h.out l hl t ht hc
          show (S t || σ'.T.testBit (q t)) = true
          rw [this]; rfl
def Anti (can : Nat → Nat → Bool) (n : Nat) (X : Nat → Bool) : Prop := ∀ i j, i < n → j < n → X i = true → X j = true → can i j = false
theorem FewOK.one {M : List (Nat × Nat)} {many : Nat} {F S : Nat → Bool} {j : Nat} (h : FewOK can n j M many F S) {s t o : Nat} (hs : getN M s = some o) (ht : getN M t = some o) : s = t := by
  have h1 := h.cl o
  have h2 : cntL n M o ≤ 1 := by rw [h1]; split <;> omega
  exact cnt_one h2 (h.val s o hs).1 (h.val t o ht).1 (by rw [hs]; exact beq_self_eq_true _) (by rw [ht]; exact beq_self_eq_true _)
theorem anti_ex (hq : ∀ i j, i < n → j < n → q i = q j → i = j) (hn : n ≤ 7) : ∃ X, Anti can n X ∧ fewN can q n ≤ cnt X n := by
  obtain ⟨F, S, h⟩ := fewS_inv (can := can) hq hn n (Nat.le_refl n)
  have hF : cnt F n = fewN can q n := h.many
  generalize (fewS can q n n).1.M = M at h
  let P : Nat → Bool := fun i => decide (0 < cnt (fun s => S s && getN M s == some i) n)
  have hP : ∀ i, P i = true ↔ ∃ s, s < n ∧ S s = true ∧ getN M s = some i := fun i => by
    simp only [P, decide_eq_true_eq]
    refine ⟨fun hp => ?_, fun ⟨s, h1, h2, h3⟩ => ?_⟩
    · obtain ⟨s, h1, h2⟩ := cnt_ex hp
      simp only [Bool.and_eq_true] at h2
      exact ⟨s, h1, h2.1, eq_of_beq h2.2⟩
    · exact cnt_pos h1 (by simp only [h2, Bool.true_and, h3]; exact beq_self_eq_true _)
  refine ⟨fun i => (F i || P i) && !(S i), fun i j hi hj hx hy => ?_, ?_⟩
  · simp only [Bool.and_eq_true, Bool.or_eq_true, Bool.not_eq_true'] at hx hy
    cases hc : can i j with
    | false => rfl
    | true =>
      have : S j = true := by
        rcases hx.1 with hf | hp
        · exact h.out i hf j hj hc
        · obtain ⟨s, h1, h2, h3⟩ := (hP i).1 hp
          obtain ⟨o, ho, hN⟩ := h.closed s h1 h2
          rw [h3] at ho
          cases ho
          exact hN j hj hc
      rw [this] at hy
      cases hy.2
  · have h1 : cnt (fun i => F i || P i) n ≤ cnt (fun i => (F i || P i) && !(S i)) n + cnt S n := cnt_add fun i _ hi => by
      cases hs : S i with
      | true => exact .inr rfl
      | false =>
        left
        have hi : (F i || P i) = true := hi
        simp only [hi, Bool.true_and, Bool.not_false]
    have h2 : cnt F n + cnt P n ≤ cnt (fun i => F i || P i) n := cnt_dis (fun i hi hf => ⟨by show (F i || P i) = true; rw [hf]; rfl, by
      cases hp : P i with
      | false => rfl
      | true =>
        obtain ⟨s, h1, h2, h3⟩ := (hP i).1 hp
        have h4 := h.cl i
        rw [if_neg (by simp [hf])] at h4
        have h5 : 0 < cntL n M i := cnt_pos h1 (by rw [h3]; exact beq_self_eq_true _)
        omega⟩) (fun i hi hp => by show (F i || P i) = true; rw [hp, Bool.or_true])
    have h3 : cnt S n ≤ cnt P n := cnt_inj (fun s => (getN M s).getD 0) n (fun s hs hS => by
      obtain ⟨o, ho, _⟩ := h.closed s hs hS
      refine ⟨?_, ?_⟩
      · rw [ho]; exact (h.val s o ho).2.1
      · rw [ho]; exact (hP o).2 ⟨s, hs, hS, ho⟩) (fun s t hs ht hS hT he => by
      obtain ⟨o, ho, _⟩ := h.closed s hs hS
      obtain ⟨o', ho', _⟩ := h.closed t ht hT
      simp only [ho, ho', Option.getD_some] at he
      subst he
      exact h.one ho ho')
    omega
inductive Down (M : List (Nat × Nat)) : Nat → Nat → Prop
  | refl (i : Nat) : Down M i i
  | step {r o s : Nat} (h : Down M r o) (hs : getN M s = some o) : Down M r s
theorem Down.first {M : List (Nat × Nat)} {i j : Nat} (h : Down M i j) : i = j ∨ ∃ s, getN M s = some i ∧ Down M s j := by
  induction h with
  | refl => exact .inl rfl
  | step _ hs ih =>
    rcases ih with rfl | ⟨s', h1, h2⟩
    · exact .inr ⟨_, hs, .refl _⟩
    · exact .inr ⟨s', h1, .step h2 hs⟩
theorem Down.cmp {M : List (Nat × Nat)} (h1 : ∀ s t o, getN M s = some o → getN M t = some o → s = t) {r i j : Nat} (hi : Down M r i) (hj : Down M r j) : Down M i j ∨ Down M j i := by
  induction hi with
  | refl => exact .inl hj
  | step _ hs ih =>
    rcases ih with h | h
    · rcases h.first with rfl | ⟨s', h2, h3⟩
      · exact .inr (.step (.refl _) hs)
      · rw [h1 _ _ _ hs h2]; exact .inl h3
    · exact .inr (.step h hs)
theorem Down.link {M : List (Nat × Nat)} (hv : Val can n M) (tra : ∀ i j k, i < n → j < n → k < n → can i j = true → can j k = true → can i k = true) {i j : Nat} (hi : i < n) (h : Down M i j) : j < n ∧ (i = j ∨ can i j = true) := by
  induction h with
  | refl => exact ⟨hi, .inl rfl⟩
  | step _ hs ih =>
    obtain ⟨a, b, c⟩ := hv _ _ hs
    refine ⟨a, .inr ?_⟩
    rcases ih.2 with rfl | h2
    · exact c
    · exact tra _ _ _ hi ih.1 a h2 c
theorem root_ex {M : List (Nat × Nat)} (hv : Val can n M) (μ : Nat → Nat) (hμ : ∀ i j, i < n → j < n → can i j = true → μ i < μ j) : ∀ k i, μ i < k → i < n → ∃ r, r < n ∧ getN M r = none ∧ Down M r i := by
  intro k
  induction k with
  | zero => intro i h; omega
  | succ k ih =>
    intro i hk hi
    cases hg : getN M i with
    | none => exact ⟨i, hi, hg, .refl i⟩
    | some o =>
      obtain ⟨a, b, c⟩ := hv _ _ hg
      have := hμ o i b a c
      obtain ⟨r, h1, h2, h3⟩ := ih o (by omega) b
      exact ⟨r, h1, h2, .step h3 hg⟩
theorem roots_le {M : List (Nat × Nat)} {many : Nat} {F S : Nat → Bool} (h : FewOK can n n M many F S) : cnt (fun i => (getN M i).isNone) n ≤ many := by
  have h1 := cnt_not (fun i => (getN M i).isNone) n
  have h2 := cnt_not F n
  have h3 : cnt (fun i => !F i) n ≤ cnt (fun i => !(getN M i).isNone) n := by
    have hex : ∀ l, l < n → F l = false → ∃ s, s < n ∧ getN M s = some l := fun l hl hf => by
      have h4 := h.cl l
      rw [if_pos ⟨hl, hf⟩] at h4
      obtain ⟨s, h5, h6⟩ := cnt_ex (show 0 < cntL n M l by omega)
      exact ⟨s, h5, eq_of_beq h6⟩
    refine cnt_inj (fun l => if hx : ∃ s, s < n ∧ getN M s = some l then Classical.choose hx else 0) n (fun l hl hf => ?_) (fun l m hl hm hf hf' he => ?_)
    · have hf : F l = false := by simpa using hf
      have hx := hex l hl hf
      simp only [dif_pos hx]
      have := Classical.choose_spec hx
      refine ⟨this.1, ?_⟩
      rw [this.2]; rfl
    · have hf : F l = false := by simpa using hf
      have hf' : F m = false := by simpa using hf'
      have hx := hex l hl hf
      have hy := hex m hm hf'
      simp only [dif_pos hx, dif_pos hy] at he
      have h5 := (Classical.choose_spec hx).2
      have h6 := (Classical.choose_spec hy).2
      rw [he, h6] at h5
      cases h5
      rfl
  have := h.many
  omega
theorem anti_le (hq : ∀ i j, i < n → j < n → q i = q j → i = j) (hn : n ≤ 7) (μ : Nat → Nat) (hμ : ∀ i j, i < n → j < n → can i j = true → μ i < μ j)
    (tra : ∀ i j k, i < n → j < n → k < n → can i j = true → can j k = true → can i k = true) {X : Nat → Bool} (hX : Anti can n X) : cnt X n ≤ fewN can q n := by
  obtain ⟨F, S, h⟩ := fewS_inv (can := can) hq hn n (Nat.le_refl n)
  have h0 := roots_le h
  have hv := h.val
  have h1 : ∀ s t o, getN (fewS can q n n).1.M s = some o → getN (fewS can q n n).1.M t = some o → s = t := fun s t o a b => h.one a b
  refine Nat.le_trans ?_ h0
  generalize (fewS can q n n).1.M = M at hv h1
  have hr : ∀ i, i < n → ∃ r, r < n ∧ getN M r = none ∧ Down M r i := fun i hi => root_ex hv μ hμ (μ i + 1) i (by omega) hi
  classical
  refine cnt_inj (fun i => if hx : ∃ r, r < n ∧ getN M r = none ∧ Down M r i then Classical.choose hx else 0) n (fun i hi _ => ?_) (fun i j hi hj hx hy he => ?_)
  · simp only [dif_pos (hr i hi)]
    have := Classical.choose_spec (hr i hi)
    exact ⟨this.1, by rw [this.2.1]; rfl⟩
  · simp only [dif_pos (hr i hi), dif_pos (hr j hj)] at he
    have h5 := (Classical.choose_spec (hr i hi)).2.2
    have h6 := (Classical.choose_spec (hr j hj)).2.2
    rw [he] at h5
    rcases Down.cmp h1 h5 h6 with h7 | h7
    · rcases (h7.link hv tra hi).2 with e | e
      · exact e
      · rw [hX i j hi hj hx hy] at e; cases e
    · rcases (h7.link hv tra hj).2 with e | e
      · exact e.symm
      · rw [hX j i hj hi hy hx] at e; cases e
end
end Go.Ab
