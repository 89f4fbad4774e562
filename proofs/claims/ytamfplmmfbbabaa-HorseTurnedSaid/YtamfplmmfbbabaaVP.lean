/- the law HorseTurned: the beach from its other end, and moves numbered backwards. -/
import Derived.Test.YtamfplmmfbbabaaVN
import Derived.Test.YtamfplmmfbbabaaVO
import Derived.Test.YtamfplmmfbbabaaVG
import Derived.Test.YtamfplmmfbbabaaVB
import Derived.Test.YtamfplmmfbbabaaVD
set_option maxRecDepth 100000
namespace Go.Ab
open Go Go.RowKit Go.Proofs
def revM (m : Mv) : Mv := ⟨m.at_, IntKind.i64.wrap (30 - m.place), m.lo, m.hi⟩
def revF (n : Nat) (f : Nat → Mv) (i : Nat) : Mv := revM (f (n - 1 - i))
section
variable {p : Int} {n : Nat} {f : Nat → Mv} {sure : Bool}
theorem rev_place (h : HOK p n f) {i : Nat} (hi : i < n) : (revF n f i).place = 30 - (f (n - 1 - i)).place := by
  have hm := h.mv (n - 1 - i) (by omega)
  have a := hm.pl0; have b := hm.pl1
  exact wrapI (by omega) (by omega)
theorem rev_hok (h : HOK p n f) : HOK p n (revF n f) := by
  refine ⟨h.p0, h.p3, h.n7, fun i hi => ?_⟩
  have hm := h.mv (n - 1 - i) (by omega)
  have hp := rev_place h hi
  have a := hm.pl0; have b := hm.pl1
  exact ⟨hm.at0, hm.at1, by omega, by omega, hm.lo1, hm.lohi, hm.hi1⟩
theorem can_rev (h : HOK p n f) (sure : Bool) {i j : Nat} (hi : i < n) (hj : j < n) : canB sure p (revF n f) i j = canB sure p f (n - 1 - i) (n - 1 - j) := by
  rw [canB_eq (rev_hok h) sure hi hj, canB_eq h sure (by omega) (by omega)]
  have e1 := rev_place h hi
  have e2 := rev_place h hj
  have hd : distI (revF n f i) (revF n f j) = distI (f (n - 1 - i)) (f (n - 1 - j)) := by
    simp only [distI, e1, e2]
    split <;> split <;> omega
  rw [hd]
  rfl
theorem cnt_rev (X : Nat → Bool) (n : Nat) : cnt (fun i => X (n - 1 - i)) n = cnt X n := by
  refine Nat.le_antisymm ?_ ?_
  · exact cnt_inj (m := n) (fun i => n - 1 - i) n (fun i hi hx => ⟨by omega, hx⟩) (fun i j hi hj _ _ e => by omega)
  · exact cnt_inj (m := n) (fun i => n - 1 - i) n (fun i hi hx => ⟨by omega, by
      have e : n - 1 - (n - 1 - i) = i := by omega
      show X (n - 1 - (n - 1 - i)) = true
      rw [e]; exact hx⟩) (fun i j hi hj _ _ e => by omega)
theorem anti_rev (h : HOK p n f) {X : Nat → Bool} (hX : Anti (canB sure p f) n X) : Anti (canB sure p (revF n f)) n (fun i => X (n - 1 - i)) := fun i j hi hj hx hy => by
  rw [can_rev h sure hi hj]
  exact hX _ _ (by omega) (by omega) hx hy
theorem anti_rev2 (h : HOK p n f) {X : Nat → Bool} (hX : Anti (canB sure p (revF n f)) n X) : Anti (canB sure p f) n (fun i => X (n - 1 - i)) := fun i j hi hj hx hy => by
  have := hX (n - 1 - i) (n - 1 - j) (by omega) (by omega) hx hy
  rw [can_rev h sure (by omega) (by omega)] at this
  have e1 : n - 1 - (n - 1 - i) = i := by omega
  have e2 : n - 1 - (n - 1 - j) = j := by omega
  rw [e1, e2] at this
  exact this
theorem few_rev (h : HOK p n f) : fewH sure p n (revF n f) = fewH sure p n f := by
  refine Nat.le_antisymm ?_ ?_
  · obtain ⟨X, h1, h2⟩ := few_ex (sure := sure) (rev_hok h)
    refine Nat.le_trans h2 ?_
    rw [← cnt_rev]
    exact few_le h (anti_rev2 h h1)
  · obtain ⟨X, h1, h2⟩ := few_ex (sure := sure) h
    refine Nat.le_trans h2 ?_
    rw [← cnt_rev]
    exact few_le (rev_hok h) (anti_rev h h1)
theorem proof_rev (h : HOK p n f) : popN (proofH sure p n (revF n f)) = popN (proofH sure p n f) := by
  rw [← proof_few (rev_hok h), ← proof_few h, few_rev h]
theorem fewW_ge (h : HOK p n f) {s : Nat} {X : Nat → Bool} (hX : Anti (canB sure p f) n X) (hs : ∀ i, i < n → X i = true → s.testBit i = false) : cnt X n ≤ fewW sure p n f s := by
  have hk := hok_kept h s
  have hle := few_le (sure := sure) hk (X := fun k => X (keptN s n k)) (fun i j hi hj hx hy => hX _ _ (keptN_lt hi) (keptN_lt hj) hx hy)
  refine Nat.le_trans ?_ hle
  have ex : ∀ i, i < n → X i = true → ∃ k, k < (kept s n).length ∧ keptN s n k = i := fun i hi hx => by
    have hm := kept_mem.2 ⟨hi, hs i hi hx⟩
    obtain ⟨k, hk, e⟩ := List.getElem_of_mem hm
    refine ⟨k, hk, ?_⟩
    unfold keptN
    rw [List.getD_eq_getElem?_getD, List.getElem?_eq_getElem hk]
    exact e
  let g : Nat → Nat := fun i => if hx : ∃ k, k < (kept s n).length ∧ keptN s n k = i then hx.choose else 0
  have hg : ∀ i, i < n → X i = true → g i < (kept s n).length ∧ keptN s n (g i) = i := fun i hi hx => by
    have he := ex i hi hx
    show (dite _ _ _) < _ ∧ keptN s n (dite _ _ _) = i
    rw [dif_pos he]
    exact he.choose_spec
  refine cnt_inj (m := (kept s n).length) g n (fun i hi hx => ⟨(hg i hi hx).1, ?_⟩) (fun i j hi hj hx hy e => ?_)
  · show X (keptN s n (g i)) = true
    rw [(hg i hi hx).2]; exact hx
  · rw [← (hg i hi hx).2, ← (hg j hj hy).2, e]
theorem fewW_ex (h : HOK p n f) (s : Nat) : ∃ X, Anti (canB sure p f) n X ∧ (∀ i, i < n → X i = true → s.testBit i = false) ∧ fewW sure p n f s ≤ cnt X n := by
  have hk := hok_kept h s
  obtain ⟨Y, h1, h2⟩ := few_ex (sure := sure) hk
  have hX : ∀ i, ((List.range (kept s n).length).any fun k => keptN s n k == i && Y k) = true ↔ ∃ k, k < (kept s n).length ∧ keptN s n k = i ∧ Y k = true := fun i => by
    simp only [List.any_eq_true, List.mem_range, Bool.and_eq_true, beq_iff_eq]
  refine ⟨fun i => (List.range (kept s n).length).any fun k => keptN s n k == i && Y k, fun i j hi hj hx hy => ?_, fun i hi hx => ?_, Nat.le_trans h2 ?_⟩
  · obtain ⟨a, ha, ea, ya⟩ := (hX i).1 hx
    obtain ⟨b, hb, eb, yb⟩ := (hX j).1 hy
    have := h1 a b ha hb ya yb
    rw [← ea, ← eb]
    exact this
  · obtain ⟨a, ha, ea, _⟩ := (hX i).1 hx
    rw [← ea]
    exact keptN_not ha
  · exact cnt_inj (m := n) (keptN s n) _ (fun k hk hy => ⟨keptN_lt hk, (hX _).2 ⟨k, hk, rfl, hy⟩⟩) (fun i j hi hj _ _ e => keptN_inj hi hj e)
def revS (n s : Nat) : Nat := maskN (fun i => s.testBit (n - 1 - i)) n
theorem revS_bit {s i : Nat} (hi : i < n) : (revS n s).testBit i = s.testBit (n - 1 - i) := by
  unfold revS
  rw [maskN_bit]
  simp [hi]
theorem revS_lt (n s : Nat) : revS n s < 2 ^ n := maskN_lt _ n
theorem revS_pop (hn : n ≤ 7) {s : Nat} (hs : s < 2 ^ n) : popN (revS n s) = popN s := by
  unfold revS
  rw [popN_mask _ hn, cnt_rev, ← popN_n hn hs]
theorem fewW_rev (h : HOK p n f) (s : Nat) : fewW sure p n (revF n f) (revS n s) = fewW sure p n f s := by
  refine Nat.le_antisymm ?_ ?_
  · obtain ⟨X, h1, h2, h3⟩ := fewW_ex (sure := sure) (rev_hok h) (revS n s)
    refine Nat.le_trans h3 ?_
    rw [← cnt_rev]
    refine fewW_ge h (anti_rev2 h h1) fun i hi hx => ?_
    have := h2 (n - 1 - i) (by omega) hx
    rw [revS_bit (by omega)] at this
    have e : n - 1 - (n - 1 - i) = i := by omega
    rw [e] at this
    exact this
  · obtain ⟨X, h1, h2, h3⟩ := fewW_ex (sure := sure) h s
    refine Nat.le_trans h3 ?_
    rw [← cnt_rev]
    refine fewW_ge (rev_hok h) (anti_rev h h1) fun i hi hx => ?_
    rw [revS_bit hi]
    exact h2 (n - 1 - i) (by omega) hx
theorem revS_twice {s : Nat} (hs : s < 2 ^ n) : revS n (revS n s) = s := by
  refine Nat.eq_of_testBit_eq fun i => ?_
  by_cases hi : i < n
  · rw [revS_bit hi, revS_bit (by omega)]
    congr 1
    omega
  · rw [Nat.testBit_lt_two_pow (Nat.lt_of_lt_of_le (revS_lt n _) (Nat.pow_le_pow_right (by decide) (by omega))), Nat.testBit_lt_two_pow (Nat.lt_of_lt_of_le hs (Nat.pow_le_pow_right (by decide) (by omega)))]
theorem leave_rev (h : HOK p n f) (many : Nat) : popN (leaveH sure p n (revF n f) many) = popN (leaveH sure p n f many) := by
  have h7 := h.n7
  have ha := leave_least (sure := sure) (many := many) h
  have hb := leave_least (sure := sure) (many := many) (rev_hok h)
  have h1 : decide (fewW sure p n (revF n f) (revS n (leaveH sure p n f many)) ≤ many) = true := by rw [fewW_rev h]; exact ha.is
  have h2 : decide (fewW sure p n f (revS n (leaveH sure p n (revF n f) many)) ≤ many) = true := by
    have e := fewW_rev (sure := sure) h (revS n (leaveH sure p n (revF n f) many))
    rw [revS_twice hb.lt] at e
    rw [← e]
    exact hb.is
  have h3 := hb.min _ (revS_lt n _) h1
  have h4 := ha.min _ (revS_lt n _) h2
  rw [revS_pop h7 ha.lt] at h3
  rw [revS_pop h7 hb.lt] at h4
  omega
theorem cntN_cnt (b : Nat → Bool) (n : Nat) : cntN b n = cnt b n := by
  induction n with
  | zero => rfl
  | succ n ih => simp only [cntN, cnt, ih]; split <;> simp_all
theorem busy_rev (m : Int) (s : Bool) : cntN (undB m (revF n f) (lgS s (revF n f))) n = cntN (undB m f (lgS s f)) n := by
  rw [cntN_cnt, cntN_cnt, ← cnt_rev]
  refine cnt_congr fun i hi => ?_
  have e : n - 1 - (n - 1 - i) = i := by omega
  have e2 : f (n - 1 - (n - 1 - i)) = f i := by rw [e]
  cases s
  · show (decide ((f (n - 1 - (n - 1 - i))).at_ ≤ m) && decide (m < (f (n - 1 - (n - 1 - i))).at_ + (f (n - 1 - (n - 1 - i))).lo)) = (decide ((f i).at_ ≤ m) && decide (m < (f i).at_ + (f i).lo))
    rw [e2]
  · show (decide ((f (n - 1 - (n - 1 - i))).at_ ≤ m) && decide (m < (f (n - 1 - (n - 1 - i))).at_ + (f (n - 1 - (n - 1 - i))).hi)) = (decide ((f i).at_ ≤ m) && decide (m < (f i).at_ + (f i).hi))
    rw [e2]
theorem fol_rev (h : HOK p n f) {i j : Nat} (hi : i < n) (hj : j < n) : folV p n (revF n f) i j = folV p n f (n - 1 - i) (n - 1 - j) := by
  simp only [folV]
  rw [hasI_ord true p _ h.n7 hi hj, hasI_ord false p _ h.n7 hi hj, hasI_ord true p f h.n7 (by omega) (by omega), hasI_ord false p f h.n7 (by omega) (by omega), can_rev h true hi hj, can_rev h false hi hj]
theorem right_rev (h : HOK p n f) (g : Nat → Nat) : rightB sure p n n (revF n f) (fun i => (g (n - 1 - i) : Int)) = rightB sure p n n f (fun i => (g i : Int)) := by
  have key : ∀ a b : Bool, (a = true ↔ b = true) → a = b := fun a b h => by cases a <;> cases b <;> simp_all
  refine key _ _ ?_
  have r1 := right_iff (sure := sure) (rev_hok h) (g := fun i => g (n - 1 - i))
  have r2 := right_iff (sure := sure) h (g := g)
  rw [show (fun i => ((fun i => g (n - 1 - i)) i : Int)) = fun i => (g (n - 1 - i) : Int) from rfl] at r1
  rw [r1, r2]
  constructor
  · intro hh i j hij hj e
    have := hh (n - 1 - j) (n - 1 - i) (by omega) (by omega) (by
      have e1 : n - 1 - (n - 1 - j) = j := by omega
      have e2 : n - 1 - (n - 1 - i) = i := by omega
      show g (n - 1 - (n - 1 - j)) = g (n - 1 - (n - 1 - i))
      rw [e1, e2, e])
    simp only [Lk] at this ⊢
    rw [can_rev h sure (by omega) (by omega), can_rev h sure (by omega) (by omega)] at this
    have e1 : n - 1 - (n - 1 - j) = j := by omega
    have e2 : n - 1 - (n - 1 - i) = i := by omega
    rw [e1, e2] at this
    exact this.symm
  · intro hh i j hij hj e
    have := hh (n - 1 - j) (n - 1 - i) (by omega) (by omega) e.symm
    simp only [Lk] at this ⊢
    rw [can_rev h sure (by omega) hj, can_rev h sure hj (by omega)]
    exact this.symm
end
end Go.Ab
set_option maxRecDepth 100000
namespace Go.Ab
open Go Go.RowKit Go.Proofs
end Go.Ab
