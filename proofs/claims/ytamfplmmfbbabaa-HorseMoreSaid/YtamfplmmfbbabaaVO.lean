/- the law HorseMore: whoever is quicker needs no more horses, and is no later. -/
import Derived.Test.YtamfplmmfbbabaaVG
import Derived.Test.YtamfplmmfbbabaaVM
import Derived.Test.YtamfplmmfbbabaaVN
set_option maxRecDepth 100000
namespace Go.Ab
open Go Go.RowKit Go.Proofs
structure Quick (p : Int) (n : Nat) (f : Nat → Mv) (p2 : Int) (f2 : Nat → Mv) : Prop where
  same : atF f2 = atF f
  p0 : 0 ≤ p2
  le : p2 ≤ p
  at_ : ∀ i, i < n → (f2 i).at_ = (f i).at_
  place : ∀ i, i < n → (f2 i).place = (f i).place
  lo1 : ∀ i, i < n → 1 ≤ (f2 i).lo
  lohi : ∀ i, i < n → (f2 i).lo ≤ (f2 i).hi
  lo : ∀ i, i < n → (f2 i).lo ≤ (f i).lo
  hi : ∀ i, i < n → (f2 i).hi ≤ (f i).hi
section
variable {p p2 : Int} {n : Nat} {f f2 : Nat → Mv}
theorem Quick.hok (q : Quick p n f p2 f2) (h : HOK p n f) : HOK p2 n f2 := by
  have h3 := h.p3
  have hle := q.le
  refine ⟨q.p0, by omega, h.n7, fun i hi => ?_⟩
  have hm := h.mv i hi
  have e1 := q.at_ i hi; have e2 := q.place i hi; have e3 := q.hi i hi
  exact ⟨by rw [e1]; exact hm.at0, by rw [e1]; exact hm.at1, by rw [e2]; exact hm.pl0, by rw [e2]; exact hm.pl1, q.lo1 i hi, q.lohi i hi, by have := hm.hi1; omega⟩
theorem Quick.can (q : Quick p n f p2 f2) (h : HOK p n f) (sure : Bool) {i j : Nat} (hi : i < n) (hj : j < n) (hc : canB sure p f i j = true) : canB sure p2 f2 i j = true := by
  rw [canB_eq h sure hi hj] at hc
  rw [canB_eq (q.hok h) sure hi hj]
  have hc := of_decide_eq_true hc
  have e1 := q.at_ i hi; have e2 := q.place i hi; have e3 := q.at_ j hj; have e4 := q.place j hj
  have hd : distI (f2 i) (f2 j) = distI (f i) (f j) := by simp only [distI, e2, e4]
  have hb := (distI_bounds (h.mv i hi) (h.mv j hj)).1
  have hm : p2 * distI (f i) (f j) ≤ p * distI (f i) (f j) := Int.mul_le_mul_of_nonneg_right q.le hb
  have hl : cond sure (f2 i).hi (f2 i).lo ≤ cond sure (f i).hi (f i).lo := by cases sure; exact q.lo i hi; exact q.hi i hi
  refine decide_eq_true ?_
  rw [hd, e1, e3]
  omega
theorem few_mono {sure sure2 : Bool} (h : HOK p n f) (h2 : HOK p2 n f2) (hc : ∀ i j, i < n → j < n → canB sure p f i j = true → canB sure2 p2 f2 i j = true) : fewH sure2 p2 n f2 ≤ fewH sure p n f := by
  obtain ⟨X, h3, h4⟩ := few_ex (sure := sure2) h2
  refine Nat.le_trans h4 (few_le (sure := sure) h fun i j hi hj hx hy => ?_)
  have := h3 i j hi hj hx hy
  cases hz : canB sure p f i j with
  | false => rfl
  | true => rw [hc i j hi hj hz] at this; cases this
theorem sure_can (h : HOK p n f) {i j : Nat} (hi : i < n) (hj : j < n) (hc : canB true p f i j = true) : canB false p f i j = true := by
  rw [canB_eq h true hi hj] at hc
  rw [canB_eq h false hi hj]
  have hc := of_decide_eq_true hc
  have := (h.mv i hi).lohi
  refine decide_eq_true ?_
  simp only [cond_true, cond_false] at hc ⊢
  omega
theorem sure_few (h : HOK p n f) : fewH false p n f ≤ fewH true p n f := few_mono h h fun _ _ hi hj hc => sure_can h hi hj hc
theorem top_hok (h : HOK p n f) : HOK p n (fun i => topM (f i)) := ⟨h.p0, h.p3, h.n7, fun i hi => ⟨(h.mv i hi).at0, (h.mv i hi).at1, (h.mv i hi).pl0, (h.mv i hi).pl1, by have a := (h.mv i hi).lo1; have b := (h.mv i hi).lohi; show 1 ≤ (f i).hi; omega, Int.le_refl _, (h.mv i hi).hi1⟩⟩
theorem top_few (h : HOK p n f) (sure : Bool) : fewH sure p n (fun i => topM (f i)) = fewH true p n f := by
  have e : ∀ i j, canB sure p (fun i => topM (f i)) i j = canB true p f i j := fun i j => by cases sure <;> rfl
  exact Nat.le_antisymm (few_mono (sure := true) (sure2 := sure) h (top_hok h) fun i j _ _ hc => by rw [e]; exact hc) (few_mono (sure := sure) (sure2 := true) (top_hok h) h fun i j _ _ hc => by rw [e] at hc; exact hc)
theorem leave_sure (h : HOK p n f) (many : Nat) : popN (leaveH false p n f many) ≤ popN (leaveH true p n f many) := by
  have ht := leave_least (sure := true) (many := many) h
  have hf := leave_least (sure := false) (many := many) h
  have h1 : decide (fewW true p n f (leaveH true p n f many) ≤ many) = true := ht.is
  have h2 := sure_few (hok_kept h (leaveH true p n f many))
  have h3 : decide (fewW false p n f (leaveH true p n f many) ≤ many) = true := decide_eq_true (Nat.le_trans h2 (of_decide_eq_true h1))
  rcases hf.min _ ht.lt h3 with h4 | h4 <;> omega
theorem begI_quick {lg lg' : Nat → Int} (h : HOK p n f) (q : Quick p n f p2 f2) {i j : Nat} (hi : i < n) (hj : j < n) {b b' : Int} (hb : b ≤ b') (hl : lg i ≤ lg' i) : begI p2 f2 lg j (some (i, b)) ≤ begI p f lg' j (some (i, b')) := by
  have e1 := q.at_ j hj; have e2 := q.place i hi; have e3 := q.place j hj
  have hw : wkI p2 (f2 i) (f2 j) ≤ wkI p (f i) (f j) := by
    unfold wkI
    rw [e2, e3]
    exact Int.mul_le_mul_of_nonneg_right q.le (by split <;> omega)
  simp only [begI]
  rw [e1]
  split <;> split <;> omega
theorem prc_quick {g lg lg' : Nat → Int} {A : Nat → Int} {σ : Nat → Nat} (hσ : Srt A n σ) (h : HOK p n f) (q : Quick p n f p2 f2) (hf : ∀ i, i < n → okMv (f2 i) = true) (hl : ∀ i, i < n → 0 ≤ lg i ∧ lg i ≤ 20) (hle : ∀ i, i < n → lg i ≤ lg' i) (k : Nat) (hk : k ≤ n) :
    (∀ x, (getA (prc p2 f2 g lg σ k).M x = none ∧ getA (prc p f g lg' σ k).M x = none) ∨ ∃ i b b', getA (prc p2 f2 g lg σ k).M x = some (i, b) ∧ getA (prc p f g lg' σ k).M x = some (i, b') ∧ b ≤ b') ∧ ∀ x, (prc p2 f2 g lg σ k).o x ≤ (prc p f g lg' σ k).o x := by
  have hp2 : 0 ≤ p2 ∧ p2 ≤ 3 := ⟨(q.hok h).p0, (q.hok h).p3⟩
  induction k with
  | zero => exact ⟨fun h => .inl ⟨rfl, rfl⟩, fun x => Int.le_refl 0⟩
  | succ k ih =>
    obtain ⟨h1, h2⟩ := ih (by omega)
    have hP := prc_ok (g := g) hσ hp2 hf hl k (by omega)
    have hk' := hσ.lt k (by omega)
    have hB : begI p2 f2 lg (σ k) (getA (prc p2 f2 g lg σ k).M (g (σ k))) ≤ begI p f lg' (σ k) (getA (prc p f g lg' σ k).M (g (σ k))) := by
      rcases h1 (g (σ k)) with ⟨e1, e2⟩ | ⟨i, b, b', e1, e2, hb⟩
      · rw [e1, e2]
        show (f2 (σ k)).at_ ≤ (f (σ k)).at_
        rw [q.at_ _ hk']
        exact Int.le_refl _
      · have hi := (hP.all _ _ e1).1
        rw [e1, e2]
        exact begI_quick h q hi hk' hb (hle i hi)
    refine ⟨fun x => ?_, fun x => ?_⟩
    · simp only [prc, get_set]
      by_cases e : x = g (σ k)
      · rw [if_pos e, if_pos e]
        exact .inr ⟨_, _, _, rfl, rfl, hB⟩
      · rw [if_neg e, if_neg e]
        exact h1 x
    · simp only [prc, updF]
      split
      · exact hB
      · exact h2 x
theorem lat_quick {g : Nat → Int} (h : HOK p n f) (q : Quick p n f p2 f2) (sure : Bool) {i : Nat} (hi : i < n) : latS sure p2 n f2 g i ≤ latS sure p n f g i := by
  have hok := okH_of h
  have hok2 := okH_of (q.hok h)
  rw [lat_eq hok sure hi, lat_eq hok2 sure hi, q.at_ i hi]
  have hs := srt_ok (atF f) n
  have e : srt (atF f2) n = srt (atF f) n := by rw [q.same]
  have hb := (prc_quick (g := g) (lg := lgS sure f2) (lg' := lgS sure f) hs h q (okH_mv hok2) (lgS_le hok2 sure) (fun i hi => by cases sure; exact q.lo i hi; exact q.hi i hi) n (Nat.le_refl n)).2 i
  simp only [begS]
  rw [e]
  omega
theorem right_quick {sure : Bool} (h : HOK p n f) (q : Quick p n f p2 f2) {g : Nat → Nat} (hr : rightB sure p n n f (fun i => (g i : Int)) = true) : rightB sure p2 n n f2 (fun i => (g i : Int)) = true := by
  rw [right_iff h] at hr
  rw [right_iff (q.hok h)]
  intro i j hij hj e
  rcases hr i j hij hj e with h1 | h1
  · exact .inl (q.can h sure (by omega) hj h1)
  · exact .inr (q.can h sure hj (by omega) h1)
theorem quick_pace (h : HOK p n f) : Quick p n f (if IntKind.i64.wrap (p - 1) > 0 then IntKind.i64.wrap (p - 1) else 0) f := by
  have h0 := h.p0; have h3 := h.p3
  have e : IntKind.i64.wrap (p - 1) = p - 1 := wrapI (by omega) (by omega)
  rw [e]
  refine ⟨rfl, by split <;> omega, by split <;> omega, fun _ _ => rfl, fun _ _ => rfl, fun i hi => (h.mv i hi).lo1, fun i hi => (h.mv i hi).lohi, fun _ _ => Int.le_refl _, fun _ _ => Int.le_refl _⟩
def lessM (m : Mv) : Mv := ⟨m.at_, m.place, if IntKind.i64.wrap (m.lo - 1) > 1 then IntKind.i64.wrap (m.lo - 1) else 1, if IntKind.i64.wrap (m.hi - 1) > 1 then IntKind.i64.wrap (m.hi - 1) else 1⟩
def lessF (f : Nat → Mv) (k : Nat) : Nat → Mv := fun i => if i = k then lessM (f i) else f i
theorem quick_move (h : HOK p n f) (k : Nat) : Quick p n f p (lessF f k) := by
  have key : ∀ i, i < n → (lessF f k i).at_ = (f i).at_ ∧ (lessF f k i).place = (f i).place ∧ 1 ≤ (lessF f k i).lo ∧ (lessF f k i).lo ≤ (lessF f k i).hi ∧ (lessF f k i).lo ≤ (f i).lo ∧ (lessF f k i).hi ≤ (f i).hi := by
    intro i hi
    have hm := h.mv i hi
    have a1 := hm.lo1; have a2 := hm.lohi; have a3 := hm.hi1
    unfold lessF
    split
    · have e1 : IntKind.i64.wrap ((f i).lo - 1) = (f i).lo - 1 := wrapI (by omega) (by omega)
      have e2 : IntKind.i64.wrap ((f i).hi - 1) = (f i).hi - 1 := wrapI (by omega) (by omega)
      simp only [lessM, e1, e2]
      refine ⟨trivial, trivial, ?_, ?_, ?_, ?_⟩ <;> (repeat' split) <;> omega
    · exact ⟨rfl, rfl, a1, a2, Int.le_refl _, Int.le_refl _⟩
  exact ⟨funext fun i => by simp only [atF, lessF]; split <;> rfl, h.p0, Int.le_refl _, fun i hi => (key i hi).1, fun i hi => (key i hi).2.1, fun i hi => (key i hi).2.2.1, fun i hi => (key i hi).2.2.2.1, fun i hi => (key i hi).2.2.2.2.1, fun i hi => (key i hi).2.2.2.2.2⟩
end
end Go.Ab
