/- FORMS OF STATES AT LOOPS' HEADS: the law HorseTrue. -/
import Derived.Test.YthfhcnbpgagkdaaMW
set_option maxRecDepth 100000
namespace Go.Ab
open Go Go.RowKit Go.Proofs
def p3a : Loc := .l (.r (.l (.r (.r (.r (.r (.top 3)))))))
def p3c : Loc := .l (.r (.l (.r (.r (.r (.r (.r (.r (.r (.r (.r (.r (.r (.r (.top 3)))))))))))))))
def p3d : Loc := .l (.r (.r (.r (.r (.r (.l (.l (.r (.r (.l (.l (.r (.l (.r (.r (.r (.r (.r (.r (.r (.r (.r (.r (.r (.r (.top 3))))))))))))))))))))))))))
noncomputable def T3a : Tw := ⟨327, mkS 327 [(2, .slice 2 0 .nil), (3, .hole .nil), (4, .ptr 3 0 .nil), (9, .slice 6 0 .nil), (10, .val nilS .nil), (45, .slice 0 0 .nil), (46, .hole .nil), (47, .hole .nil)], 7, [.list 1 .ro, .dead, .list 2 .ro, .cells (.hole (.slice 0 0 .nil)) 24 .var, .dead, .dead, .list 3 .row]⟩
noncomputable def T3b : Tw := ⟨327, mkS 327 [(2, .slice 2 0 .nil), (3, .hole .nil), (4, .ptr 3 0 .nil), (9, .slice 6 0 .nil), (10, .slice 7 0 .nil), (45, .slice 0 0 .nil), (46, .hole .nil), (47, .hole .nil)], 7, [.list 1 .ro, .dead, .list 2 .ro, .cells (.hole (.slice 0 0 .nil)) 24 .var, .dead, .dead, .list 3 .row, .list 3 .row]⟩
noncomputable def T3an : Tw := ⟨327, mkS 327 [(2, .val nilS .nil), (3, .hole .nil), (4, .ptr 3 0 .nil), (9, .slice 6 0 .nil), (10, .val nilS .nil), (45, .slice 0 0 .nil), (46, .hole .nil), (47, .hole .nil)], 7, [.list 1 .ro, .dead, .dead, .cells (.hole (.slice 0 0 .nil)) 24 .var, .dead, .dead, .list 3 .row]⟩
noncomputable def T3bn : Tw := ⟨327, mkS 327 [(2, .val nilS .nil), (3, .hole .nil), (4, .ptr 3 0 .nil), (9, .slice 6 0 .nil), (10, .slice 7 0 .nil), (45, .slice 0 0 .nil), (46, .hole .nil), (47, .hole .nil)], 7, [.list 1 .ro, .dead, .dead, .cells (.hole (.slice 0 0 .nil)) 24 .var, .dead, .dead, .list 3 .row, .list 3 .row]⟩
/-- How long a move truly takes, by numbers. -/
def longF (k : Nat) (b : Nat → Int) (f : Nat → Mv) (i : Nat) : Int := if 0 < k then (f i).lo + (b ((i : Int).tmod (k : Int)).toNat).tmod ((f i).hi - (f i).lo + 1) else (f i).lo
noncomputable def m3b (ms bs ts : List Value) : Mem := ⟨fillX [.cells ms 1 .ro, .cells bs 2 .ro, .cells ts 2 .ro] 0 .nil, 3⟩
noncomputable def T3c : Tw := ⟨327, mkS 327 [(4, .ptr 3 0 .nil), (9, .slice 6 0 .nil), (10, .slice 7 0 .nil), (14, .slice 8 0 .nil), (15, .slice 9 0 .nil), (19, .hole .nil), (22, .hole .nil), (23, .hole .nil), (24, .hole .nil), (25, .hole .nil), (143, .slice 0 0 .nil), (144, .hole .nil), (145, .hole .nil)], 10, [.list 1 .ro, .dead, .dead, .cells (.hole (.slice 0 0 .nil)) 24 .var, .dead, .dead, .list 3 .row, .list 3 .row, .list 3 .row, .list 31 .row]⟩
noncomputable def T3d : Tw := ⟨327, mkS 327 [(4, .ptr 3 0 .nil), (9, .slice 6 0 .nil), (10, .slice 7 0 .nil), (14, .slice 8 0 .nil), (15, .slice 9 0 .nil), (19, .hole .nil), (22, .hole .nil), (23, .hole .nil), (24, .hole .nil), (25, .hole .nil), (26, .hole .nil), (27, .ptr 10 0 .nil), (143, .slice 0 0 .nil), (144, .hole .nil), (145, .hole .nil), (203, .slice 0 0 .nil), (204, .hole .nil), (205, .hole .nil)], 11, [.list 1 .ro, .dead, .dead, .cells (.hole (.slice 0 0 .nil)) 24 .var, .dead, .dead, .list 3 .row, .list 3 .row, .list 3 .row, .list 31 .row, .list 33 .var]⟩
end Go.Ab

/- the law HorseEnds: what is told of each move, and of any two. -/
set_option maxRecDepth 100000
namespace Go.Ab
open Go Go.RowKit Go.Proofs
theorem wk_dist (p : Int) (a b : Mv) : wkI p a b = p * distI a b := by
  simp only [wkI, distI]
  congr 1
  split <;> split <;> omega
section
variable {p : Int} {n : Nat} {f : Nat → Mv}
theorem fol_two (h : HOK p n f) {i j : Nat} (hi : i < n) (hj : j < n) : (folV p n f i j == (2 : Int)) = decide ((f i).at_ + (f i).hi + wkI p (f i) (f j) ≤ (f j).at_) := by
  have e := canB_eq h true hi hj
  simp only [cond_true, ← wk_dist] at e
  rw [folV_eq h hi hj, ← e]
  cases canB true p f i j <;> cases canB false p f i j <;> rfl
theorem fol_no (h : HOK p n f) {i j : Nat} (hi : i < n) (hj : j < n) : (folV p n f i j == (0 : Int)) = decide ((f i).at_ + (f i).lo + wkI p (f i) (f j) > (f j).at_) := by
  have e := canB_eq h false hi hj
  have m := sure_some h hi hj
  simp only [cond_false, ← wk_dist] at e
  have e2 : decide ((f i).at_ + (f i).lo + wkI p (f i) (f j) > (f j).at_) = !canB false p f i j := by
    rw [e, ← decide_not]
    exact decide_eq_decide.2 (by omega)
  rw [folV_eq h hi hj, e2]
  revert m
  cases canB true p f i j <;> cases canB false p f i j <;> simp
theorem mvV_atom (m : Mv) : ∀ v ∈ mvV m, atomic v = true := by
  intro v hv
  simp only [mvV, List.mem_cons, List.not_mem_nil, or_false] at hv
  rcases hv with rfl | rfl | rfl | rfl <;> rfl
theorem prc_o {g lg : Nat → Int} {A : Nat → Int} {σ : Nat → Nat} (hσ : Srt A n σ) (hp : 0 ≤ p ∧ p ≤ 3) (hf : ∀ i, i < n → okMv (f i) = true) (hl : ∀ i, i < n → 0 ≤ lg i ∧ lg i ≤ 20) (k : Nat) (hk : k ≤ n) : ∀ x, doneB σ k x = true → (f x).at_ ≤ (prc p f g lg σ k).o x ∧ (prc p f g lg σ k).o x ≤ 200 + 110 * k := by
  induction k with
  | zero => intro x hx; cases hx
  | succ k ih =>
    intro x hx
    have hP := prc_ok (g := g) hσ hp hf hl k (by omega)
    have hb := begI_le hP hp hf hl (hσ.lt k (by omega)) (g (σ k))
    simp only [prc, updF]
    by_cases h : x = σ k
    · subst h
      rw [if_pos rfl]
      exact ⟨hb.1, by omega⟩
    · rw [if_neg h]
      simp only [doneB, h, decide_false, Bool.false_or] at hx
      have := ih (by omega) x hx
      exact ⟨this.1, by omega⟩
/-- How late a move begins. -/
theorem lat_beg {g : Nat → Int} (hok : okH p n f = true) (sure : Bool) {i : Nat} (hi : i < n) : IntKind.i64.wrap (begS p n f g (lgS sure f) i - (f i).at_) = latS sure p n f g i := by
  have hH := okH_iff hok
  have h7 := hH.n7
  have hs := srt_ok (atF f) n
  have hm := (hH.mv i hi).at0
  have e := lateF_end (p := p) (f := f) (g := g) (lg := lgS sure f) hs hi
  obtain ⟨j, h1, h2⟩ := hs.all i hi
  have hb := prc_o (g := g) hs ⟨hH.p0, hH.p3⟩ (okH_mv hok) (lgS_le hok sure) n (Nat.le_refl n) i (doneB_iff.2 ⟨j, h1, h2⟩)
  simp only [latS, begS]
  rw [e]
  exact wrapI (by omega) (by omega)
end
end Go.Ab

/- the law HorseTrue: what is true of moves that take so long. -/
set_option maxRecDepth 100000
namespace Go.Ab
open Go Go.RowKit Go.Proofs
def andN (b : Nat → Bool) : Nat → Bool
  | 0 => true
  | j + 1 => andN b j && b j
theorem andN_iff (b : Nat → Bool) (j : Nat) : andN b j = true ↔ ∀ i, i < j → b i = true := by
  induction j with
  | zero => exact ⟨fun _ i hi => by omega, fun _ => rfl⟩
  | succ j ih =>
    simp only [andN, Bool.and_eq_true, ih]
    constructor
    · rintro ⟨h1, h2⟩ i hi
      by_cases e : i = j
      · subst e; exact h2
      · exact h1 i (by omega)
    · intro h
      exact ⟨fun i hi => h i (by omega), h j (by omega)⟩
section
variable {p : Int} {n : Nat} {f : Nat → Mv}
theorem longF_le {k : Nat} {b : Nat → Int} (hok : okH p n f = true) (hb : ∀ i, i < k → 0 ≤ b i ∧ b i < 256) {i : Nat} (hi : i < n) : (f i).lo ≤ longF k b f i ∧ longF k b f i ≤ (f i).hi := by
  have hm := (okH_iff hok).mv i hi
  have a1 := hm.lo1; have a2 := hm.lohi
  simp only [longF]
  split
  · rename_i hk
    have e : (i : Int).tmod (k : Int) = ((i % k : Nat) : Int) := rfl
    have hlt := Nat.mod_lt i hk
    rw [e, Int.toNat_natCast]
    obtain ⟨x, hx⟩ := Int.eq_ofNat_of_zero_le (hb _ hlt).1
    obtain ⟨y, hy⟩ := Int.eq_ofNat_of_zero_le (show 0 ≤ (f i).hi - (f i).lo + 1 by omega)
    rw [hx, hy]
    have e2 : ((x : Nat) : Int).tmod ((y : Nat) : Int) = ((x % y : Nat) : Int) := rfl
    have hlt2 := Nat.mod_lt x (show 0 < y by omega)
    rw [e2]
    omega
  · omega
theorem longF_20 {k : Nat} {b : Nat → Int} (hok : okH p n f = true) (hb : ∀ i, i < k → 0 ≤ b i ∧ b i < 256) : ∀ i, i < n → 0 ≤ longF k b f i ∧ longF k b f i ≤ 20 := fun i hi => by
  have h := longF_le hok hb hi
  have hm := (okH_iff hok).mv i hi
  have a1 := hm.lo1; have a2 := hm.hi1
  omega
/-! ### Whoever takes longer begins no earlier -/
theorem begI_mono {lg lg' : Nat → Int} {i j : Nat} {b b' : Int} (hb : b ≤ b') (hl : lg i ≤ lg' i) : begI p f lg j (some (i, b)) ≤ begI p f lg' j (some (i, b')) := by
  simp only [begI]
  split <;> split <;> omega
theorem prc_mono {g lg lg' : Nat → Int} {A : Nat → Int} {σ : Nat → Nat} (hσ : Srt A n σ) (hp : 0 ≤ p ∧ p ≤ 3) (hf : ∀ i, i < n → okMv (f i) = true) (hl : ∀ i, i < n → 0 ≤ lg i ∧ lg i ≤ 20) (hle : ∀ i, i < n → lg i ≤ lg' i) (k : Nat) (hk : k ≤ n) :
    (∀ h, (getA (prc p f g lg σ k).M h = none ∧ getA (prc p f g lg' σ k).M h = none) ∨ ∃ i b b', getA (prc p f g lg σ k).M h = some (i, b) ∧ getA (prc p f g lg' σ k).M h = some (i, b') ∧ b ≤ b') ∧ ∀ x, (prc p f g lg σ k).o x ≤ (prc p f g lg' σ k).o x := by
  induction k with
  | zero => exact ⟨fun h => .inl ⟨rfl, rfl⟩, fun x => Int.le_refl 0⟩
  | succ k ih =>
    obtain ⟨h1, h2⟩ := ih (by omega)
    have hP := prc_ok (g := g) hσ hp hf hl k (by omega)
    have hB : begI p f lg (σ k) (getA (prc p f g lg σ k).M (g (σ k))) ≤ begI p f lg' (σ k) (getA (prc p f g lg' σ k).M (g (σ k))) := by
      rcases h1 (g (σ k)) with ⟨e1, e2⟩ | ⟨i, b, b', e1, e2, hb⟩
      · rw [e1, e2]; exact Int.le_refl _
      · have hi := (hP.all _ _ e1).1
        rw [e1, e2]
        exact begI_mono hb (hle i hi)
    refine ⟨fun h => ?_, fun x => ?_⟩
    · simp only [prc, get_set]
      by_cases e : h = g (σ k)
      · rw [if_pos e, if_pos e]
        exact .inr ⟨_, _, _, rfl, rfl, hB⟩
      · rw [if_neg e, if_neg e]
        exact h1 h
    · simp only [prc, updF]
      split
      · exact hB
      · exact h2 x
theorem begS_mono {g lg lg' : Nat → Int} (hok : okH p n f = true) (hl : ∀ i, i < n → 0 ≤ lg i ∧ lg i ≤ 20) (hle : ∀ i, i < n → lg i ≤ lg' i) (x : Nat) : begS p n f g lg x ≤ begS p n f g lg' x :=
  (prc_mono (srt_ok (atF f) n) ⟨(okH_iff hok).p0, (okH_iff hok).p3⟩ (okH_mv hok) hl hle n (Nat.le_refl n)).2 x
/-- What a truth's delay is. -/
theorem beg_wrap {g lg : Nat → Int} (hok : okH p n f = true) (hl : ∀ i, i < n → 0 ≤ lg i ∧ lg i ≤ 20) {i : Nat} (hi : i < n) : IntKind.i64.wrap (begS p n f g lg i - (f i).at_) = begS p n f g lg i - (f i).at_ := by
  have hH := okH_iff hok
  have h7 := hH.n7
  have hs := srt_ok (atF f) n
  have hm := (hH.mv i hi).at0
  obtain ⟨j, h1, h2⟩ := hs.all i hi
  have hb := prc_o (g := g) hs ⟨hH.p0, hH.p3⟩ (okH_mv hok) hl n (Nat.le_refl n) i (doneB_iff.2 ⟨j, h1, h2⟩)
  simp only [begS]
  exact wrapI (by omega) (by omega)
theorem lat_eq {g : Nat → Int} (hok : okH p n f = true) (sure : Bool) {i : Nat} (hi : i < n) : latS sure p n f g i = begS p n f g (lgS sure f) i - (f i).at_ := by
  rw [← lat_beg hok sure hi, beg_wrap hok (lgS_le hok sure) hi]
/-! ### Plans that are right -/
theorem search_none {b : Nat → Bool} : ∀ {r m : Nat}, search b r m = none → ∀ i, m ≤ i → i < m + r → b i = false := by
  intro r
  induction r with
  | zero => intro m _ i h1 h2; omega
  | succ r ih =>
    intro m h i h1 h2
    simp only [search] at h
    split at h
    · cases h
    · rename_i hb
      by_cases e : i = m
      · subst e; simpa using hb
      · exact ih h i (by omega) (by omega)
theorem none_search {b : Nat → Bool} : ∀ {r m : Nat}, (∀ i, m ≤ i → i < m + r → b i = false) → search b r m = none := by
  intro r
  induction r with
  | zero => intro m _; rfl
  | succ r ih =>
    intro m h
    simp only [search, h m (by omega) (by omega), Bool.false_eq_true, if_false]
    exact ih fun i h1 h2 => h i (by omega) (by omega)
theorem pairS_none {g o : Nat → Int} {k : Nat} : ∀ {r i : Nat}, pairS g o k r i = none → ∀ a, i ≤ a → a < i + r → rowS g o k a = none := by
  intro r
  induction r with
  | zero => intro i _ a h1 h2; omega
  | succ r ih =>
    intro i h a h1 h2
    simp only [pairS] at h
    split at h
    · cases h
    · rename_i hb
      by_cases e : a = i
      · subst e; exact hb
      · exact ih h a (by omega) (by omega)
theorem none_pairS {g o : Nat → Int} {k : Nat} : ∀ {r i : Nat}, (∀ a, i ≤ a → a < i + r → rowS g o k a = none) → pairS g o k r i = none := by
  intro r
  induction r with
  | zero => intro i _; rfl
  | succ r ih =>
    intro i h
    simp only [pairS, h i (by omega) (by omega)]
    exact ih fun a h1 h2 => h a (by omega) (by omega)
/-- Can the second of two moves follow the first one, if that takes so long? -/
def canT (p : Int) (f : Nat → Mv) (lg : Nat → Int) (i k : Nat) : Bool := decide ((f i).at_ + lg i + wkI p (f i) (f k) ≤ (f k).at_)
theorem canT_sure (hok : okH p n f = true) (sure : Bool) {i k : Nat} (hi : i < n) (hk : k < n) : canT p f (lgS sure f) i k = canB sure p f i k := by
  rw [canB_eq (okH_iff hok) sure hi hk, ← wk_dist]
  rfl
theorem canT_mono {lg lg' : Nat → Int} {i k : Nat} (h : lg i ≤ lg' i) (hc : canT p f lg' i k = true) : canT p f lg i k = true := by
  simp only [canT, decide_eq_true_eq] at hc ⊢
  omega
/-- Of any two moves of one horse one can follow the other one. -/
def RightT (p : Int) (n : Nat) (f : Nat → Mv) (g lg : Nat → Int) : Prop := ∀ i k, i < n → k < n → i ≠ k → g i = g k → canT p f lg i k = true ∨ canT p f lg k i = true
theorem right_of (hok : okH p n f = true) (sure : Bool) {g : Nat → Int} : pairS g (ordF sure p n f n) n n 0 = none ↔ RightT p n f g (lgS sure f) := by
  have hH := okH_iff hok
  have bad : ∀ i j, i < n → j < n → (badB g (ordF sure p n f n) i j = false ↔ (g i = g j → canT p f (lgS sure f) i j = true ∨ canT p f (lgS sure f) j i = true)) := fun i j hi hj => by
    rw [canT_sure hok sure hi hj, canT_sure hok sure hj hi]
    simp only [badB, linkB, hasI_ord sure p f hH.n7 hi hj, hasI_ord sure p f hH.n7 hj hi]
    by_cases e : g i = g j
    · cases canB sure p f i j <;> cases canB sure p f j i <;> simp [e]
    · simp [e]
  constructor
  · intro h
    have key : ∀ i j, i < j → j < n → (g i = g j → canT p f (lgS sure f) i j = true ∨ canT p f (lgS sure f) j i = true) := fun i j hij hj =>
      (bad i j (by omega) hj).1 (search_none (pairS_none h i (by omega) (by omega)) j (by omega) (by omega))
    intro i k hi hk hne hg
    rcases Nat.lt_or_gt_of_ne hne with h1 | h1
    · exact key i k h1 hk hg
    · exact (key k i h1 hi hg.symm).symm
  · intro h
    refine none_pairS fun a _ ha => none_search fun j h1 h2 => ?_
    exact (bad a j (by omega) (by omega)).2 fun hg => h a j (by omega) (by omega) (by omega) hg
/-- By a plan that is surely right nothing is late. -/
theorem prc_zero {g : Nat → Int} (hok : okH p n f = true) (hr : RightT p n f g (lgS true f)) (k : Nat) (hk : k ≤ n) :
    (∀ h i b, getA (prc p f g (lgS true f) (srt (atF f) n) k).M h = some (i, b) → g i = h ∧ b = (f i).at_ ∧ doneB (srt (atF f) n) k i = true) ∧ ∀ x, doneB (srt (atF f) n) k x = true → (prc p f g (lgS true f) (srt (atF f) n) k).o x = (f x).at_ := by
  have hH := okH_iff hok
  have hs := srt_ok (atF f) n
  generalize srt (atF f) n = σ at hs
  induction k with
  | zero => exact ⟨fun h i b he => (by cases he), fun x hx => (by cases hx)⟩
  | succ k ih =>
    obtain ⟨h1, h2⟩ := ih (by omega)
    have hi := hs.lt k (by omega)
    have hB : begI p f (lgS true f) (σ k) (getA (prc p f g (lgS true f) σ k).M (g (σ k))) = (f (σ k)).at_ := by
      cases hg : getA (prc p f g (lgS true f) σ k).M (g (σ k)) with
      | none => rfl
      | some x =>
        obtain ⟨i, b⟩ := x
        obtain ⟨e1, e2, e3⟩ := h1 _ _ _ hg
        obtain ⟨j, q1, q2⟩ := doneB_iff.1 e3
        have hin : i < n := by rw [← q2]; exact hs.lt j (by omega)
        have hne : i ≠ σ k := fun e => by
          have := hs.inj (by omega) (by omega) (q2.trans e)
          omega
        have hlx := hs.srt j k q1 (by omega)
        rw [q2] at hlx
        have hat : (f i).at_ ≤ (f (σ k)).at_ := by
          unfold Lx atF at hlx
          omega
        have hw := wkI_le ⟨hH.p0, hH.p3⟩ ⟨(hH.mv i hin).pl0, (hH.mv i hin).pl1⟩ ⟨(hH.mv _ hi).pl0, (hH.mv _ hi).pl1⟩
        have hw2 := wkI_le ⟨hH.p0, hH.p3⟩ ⟨(hH.mv _ hi).pl0, (hH.mv _ hi).pl1⟩ ⟨(hH.mv i hin).pl0, (hH.mv i hin).pl1⟩
        have hlo := (hH.mv _ hi).lo1
        have hlh := (hH.mv _ hi).lohi
        have hc := hr i (σ k) hin hi hne e1
        have hc : (f i).at_ + (f i).hi + wkI p (f i) (f (σ k)) ≤ (f (σ k)).at_ ∨ (f (σ k)).at_ + (f (σ k)).hi + wkI p (f (σ k)) (f i) ≤ (f i).at_ := hc.imp (fun h => of_decide_eq_true h) (fun h => of_decide_eq_true h)
        simp only [begI, e2, lgS, cond_true]
        rcases hc with hc | hc
        · rw [if_neg (by omega)]
        · exfalso
          omega
    refine ⟨fun h i b he => ?_, fun x hx => ?_⟩
    · simp only [prc, get_set] at he
      split at he
      · rename_i e
        cases he
        exact ⟨e.symm, hB, by simp [doneB]⟩
      · obtain ⟨e1, e2, e3⟩ := h1 _ _ _ he
        exact ⟨e1, e2, by simp [doneB, e3]⟩
    · simp only [prc, updF]
      by_cases e : x = σ k
      · subst e
        rw [if_pos rfl]; exact hB
      · rw [if_neg e]
        simp only [doneB, e, decide_false, Bool.false_or] at hx
        exact h2 x hx
theorem lat_zero {g : Nat → Int} (hok : okH p n f = true) (hr : RightT p n f g (lgS true f)) {i : Nat} (hi : i < n) : latS true p n f g i = 0 := by
  obtain ⟨j, h1, h2⟩ := (srt_ok (atF f) n).all i hi
  have h := (prc_zero hok hr n (Nat.le_refl n)).2 i (doneB_iff.2 ⟨j, h1, h2⟩)
  rw [lat_eq hok true hi]
  simp only [begS]
  omega
theorem cntN_mono {b b' : Nat → Bool} {n : Nat} (h : ∀ i, i < n → b i = true → b' i = true) : cntN b n ≤ cntN b' n := by
  induction n with
  | zero => exact Nat.le_refl 0
  | succ n ih =>
    have ih := ih fun i hi => h i (by omega)
    simp only [cntN]
    by_cases e : b n = true
    · rw [if_pos e, if_pos (h n (by omega) e)]; omega
    · rw [if_neg e]
      split <;> omega
theorem undB_mono {a : Int} {lg lg' : Nat → Int} {i : Nat} (h : lg i ≤ lg' i) (hu : undB a f lg i = true) : undB a f lg' i = true := by
  simp only [undB, Bool.and_eq_true, decide_eq_true_eq] at hu ⊢
  omega
end
end Go.Ab

/- the law HorseTrue: how long moves truly take. -/
set_option maxRecDepth 100000
namespace Go.Ab
open Go Go.RowKit Go.Proofs
theorem b3a (p m : Int) (n c k d i : Nat) (f : Nat → Mv) (b : Nat → Int) (ms bs ps : List Value) (R : Nat → AExit → Hw → Prop) : (vx.code none (.l p3a) (leafW [T3a, T3b] R) (T3a.inst ⟨⟨[U8 m, I n, I i, I p], [(k, d), (n, n), (n, c), (n, c)]⟩, [ms, bs, ps], []⟩) ([(0, .split ((2, .val (.pointer (.some ⟨((0 : Nat)), ((0 : Nat) + i * (4 : Nat)), .none⟩))) :: (0, .val (.agg ⟨[(.int .i64 ((f i).at_)), (.int .i64 ((f i).place)), (.int .i64 ((f i).lo)), (.int .i64 ((f i).hi))]⟩)) :: [(9, .split ((6, .val (.int .i64 ((↑i : Int).tmod (↑k : Int)))) :: (0, .val (.pointer (.some ⟨((2 : Nat)), ((0 : Nat) + ((↑i : Int).tmod (↑k : Int)).toNat * (1 : Nat)), .none⟩))) :: (0, .val (.int .u8 (b ((↑i : Int).tmod (↑k : Int)).toNat))) :: (9, .val (.int .i64 ((IntKind.i64.wrap (b ((↑i : Int).tmod (↑k : Int)).toNat)).tmod (IntKind.i64.wrap (IntKind.i64.wrap ((f i).hi - (f i).lo) + (1 : Int)))))) :: [(9, Hint.tm (1 : Nat) [((7 : Nat), (9 : Nat))])]) ([(8, Hint.tm (1 : Nat) [((7 : Nat), (9 : Nat))])]))]) ([(1, Hint.tm (0 : Nat) [])]))])) =
((((decide ((↑i : Int) < (↑n : Int))) = true → ((((((0 : Int) ≤ (↑i : Int))) ∧ (((↑i : Int) < (↑n : Int)))) ∧ (((.pointer (.some ⟨((0 : Nat)), ((0 : Nat) + i * (4 : Nat)), .none⟩)) : Value) = (.pointer (.some ⟨((0 : Nat)), ((0 : Nat) + i * (4 : Nat)), .none⟩)))) ∧
(((((0 : Nat) + i * (4 : Nat) + (4 : Nat) ≤ ms.length)) ∧ (((.agg ⟨[(.int .i64 ((f i).at_)), (.int .i64 ((f i).place)), (.int .i64 ((f i).lo)), (.int .i64 ((f i).hi))]⟩) : Value) = (.agg ⟨(List.take ((4 : Nat)) (List.drop ((0 : Nat) + i * (4 : Nat)) (ms)))⟩))) ∧
(((decide ((↑k : Int) > (0 : Int))) = true → ((((((↑k : Int) ≠ (0 : Int))) ∧ ((IntKind.i64 = IntKind.i64))) ∧ (((.int .i64 ((↑i : Int).tmod (↑k : Int))) : Value) = (.int .i64 ((↑i : Int).tmod (↑k : Int))))) ∧
((((((0 : Int) ≤ (↑i : Int).tmod (↑k : Int))) ∧ (((↑i : Int).tmod (↑k : Int) < (↑k : Int)))) ∧ (((.pointer (.some ⟨((2 : Nat)), ((0 : Nat) + ((↑i : Int).tmod (↑k : Int)).toNat * (1 : Nat)), .none⟩)) : Value) = (.pointer (.some ⟨((2 : Nat)), ((0 : Nat) + ((↑i : Int).tmod (↑k : Int)).toNat * (1 : Nat)), .none⟩)))) ∧
(((bs[(0 : Nat) + ((↑i : Int).tmod (↑k : Int)).toNat * (1 : Nat)]? = some (.int .u8 (b ((↑i : Int).tmod (↑k : Int)).toNat)))) ∧
(((((IntKind.i64.wrap (IntKind.i64.wrap ((f i).hi - (f i).lo) + (1 : Int)) ≠ (0 : Int))) ∧ ((IntKind.i64 = IntKind.i64))) ∧ (((.int .i64 ((IntKind.i64.wrap (b ((↑i : Int).tmod (↑k : Int)).toNat)).tmod (IntKind.i64.wrap (IntKind.i64.wrap ((f i).hi - (f i).lo) + (1 : Int))))) : Value) = (.int .i64 ((IntKind.i64.wrap (b ((↑i : Int).tmod (↑k : Int)).toNat)).tmod (IntKind.i64.wrap (IntKind.i64.wrap ((f i).hi - (f i).lo) + (1 : Int))))))) ∧
R ((1 : Nat)) .normal ⟨⟨[(.int .u8 (m)), (.int .i64 ((↑n : Int))), (.int .i64 (IntKind.i64.wrap ((↑i : Int) + (1 : Int)))), (.int .i64 (p))], [⟨(k), (d)⟩, ⟨(n), (n)⟩, ⟨((1 : Nat)), ((1 : Nat))⟩, ⟨(n), (c)⟩, ⟨(n), (c)⟩]⟩, [(ms), (bs), (ps), [(.int .i64 (IntKind.i64.wrap ((f i).lo + (IntKind.i64.wrap (b ((↑i : Int).tmod (↑k : Int)).toNat)).tmod (IntKind.i64.wrap (IntKind.i64.wrap ((f i).hi - (f i).lo) + (1 : Int))))))]], []⟩))))) ∧
((decide ((↑k : Int) > (0 : Int))) = false → R ((1 : Nat)) .normal ⟨⟨[(.int .u8 (m)), (.int .i64 ((↑n : Int))), (.int .i64 (IntKind.i64.wrap ((↑i : Int) + (1 : Int)))), (.int .i64 (p))], [⟨(k), (d)⟩, ⟨(n), (n)⟩, ⟨((1 : Nat)), ((1 : Nat))⟩, ⟨(n), (c)⟩, ⟨(n), (c)⟩]⟩, [(ms), (bs), (ps), [(.int .i64 ((f i).lo))]], []⟩))))) ∧
((decide ((↑i : Int) < (↑n : Int))) = false → R ((0 : Nat)) (.exit ((0 : Nat))) ⟨⟨[(.int .u8 (m)), (.int .i64 ((↑n : Int))), (.int .i64 ((↑i : Int))), (.int .i64 (p))], [⟨(k), (d)⟩, ⟨(n), (n)⟩, ⟨(n), (c)⟩, ⟨(n), (c)⟩]⟩, [(ms), (bs), (ps)], []⟩))) := by kernel_rfl

theorem b3b (p m : Int) (n c k d i : Nat) (f : Nat → Mv) (b : Nat → Int) (ms bs ps ls : List Value) (R : Nat → AExit → Hw → Prop) : (vx.code none (.l p3a) (leafW [T3a, T3b] R) (T3b.inst ⟨⟨[U8 m, I n, I i, I p], [(k, d), (n, n), (i, i), (n, c), (n, c)]⟩, [ms, bs, ps, ls], []⟩) ([(0, .split ((2, .val (.pointer (.some ⟨((0 : Nat)), ((0 : Nat) + i * (4 : Nat)), .none⟩))) :: (0, .val (.agg ⟨[(.int .i64 ((f i).at_)), (.int .i64 ((f i).place)), (.int .i64 ((f i).lo)), (.int .i64 ((f i).hi))]⟩)) :: [(9, .split ((6, .val (.int .i64 ((↑i : Int).tmod (↑k : Int)))) :: (0, .val (.pointer (.some ⟨((2 : Nat)), ((0 : Nat) + ((↑i : Int).tmod (↑k : Int)).toNat * (1 : Nat)), .none⟩))) :: (0, .val (.int .u8 (b ((↑i : Int).tmod (↑k : Int)).toNat))) :: (9, .val (.int .i64 ((IntKind.i64.wrap (b ((↑i : Int).tmod (↑k : Int)).toNat)).tmod (IntKind.i64.wrap (IntKind.i64.wrap ((f i).hi - (f i).lo) + (1 : Int)))))) :: (5, Hint.grow) :: [(3, Hint.tm (1 : Nat) [((7 : Nat), (10 : Nat))])]) ((4, Hint.grow) :: [(3, Hint.tm (1 : Nat) [((7 : Nat), (10 : Nat))])]))]) ([(1, Hint.tm (1 : Nat) [((7 : Nat), (7 : Nat))])]))])) =
((((decide ((↑i : Int) < (↑n : Int))) = true → ((((((0 : Int) ≤ (↑i : Int))) ∧ (((↑i : Int) < (↑n : Int)))) ∧ (((.pointer (.some ⟨((0 : Nat)), ((0 : Nat) + i * (4 : Nat)), .none⟩)) : Value) = (.pointer (.some ⟨((0 : Nat)), ((0 : Nat) + i * (4 : Nat)), .none⟩)))) ∧
(((((0 : Nat) + i * (4 : Nat) + (4 : Nat) ≤ ms.length)) ∧ (((.agg ⟨[(.int .i64 ((f i).at_)), (.int .i64 ((f i).place)), (.int .i64 ((f i).lo)), (.int .i64 ((f i).hi))]⟩) : Value) = (.agg ⟨(List.take ((4 : Nat)) (List.drop ((0 : Nat) + i * (4 : Nat)) (ms)))⟩))) ∧
(((decide ((↑k : Int) > (0 : Int))) = true → ((((((↑k : Int) ≠ (0 : Int))) ∧ ((IntKind.i64 = IntKind.i64))) ∧ (((.int .i64 ((↑i : Int).tmod (↑k : Int))) : Value) = (.int .i64 ((↑i : Int).tmod (↑k : Int))))) ∧
((((((0 : Int) ≤ (↑i : Int).tmod (↑k : Int))) ∧ (((↑i : Int).tmod (↑k : Int) < (↑k : Int)))) ∧ (((.pointer (.some ⟨((2 : Nat)), ((0 : Nat) + ((↑i : Int).tmod (↑k : Int)).toNat * (1 : Nat)), .none⟩)) : Value) = (.pointer (.some ⟨((2 : Nat)), ((0 : Nat) + ((↑i : Int).tmod (↑k : Int)).toNat * (1 : Nat)), .none⟩)))) ∧
(((bs[(0 : Nat) + ((↑i : Int).tmod (↑k : Int)).toNat * (1 : Nat)]? = some (.int .u8 (b ((↑i : Int).tmod (↑k : Int)).toNat)))) ∧
(((((IntKind.i64.wrap (IntKind.i64.wrap ((f i).hi - (f i).lo) + (1 : Int)) ≠ (0 : Int))) ∧ ((IntKind.i64 = IntKind.i64))) ∧ (((.int .i64 ((IntKind.i64.wrap (b ((↑i : Int).tmod (↑k : Int)).toNat)).tmod (IntKind.i64.wrap (IntKind.i64.wrap ((f i).hi - (f i).lo) + (1 : Int))))) : Value) = (.int .i64 ((IntKind.i64.wrap (b ((↑i : Int).tmod (↑k : Int)).toNat)).tmod (IntKind.i64.wrap (IntKind.i64.wrap ((f i).hi - (f i).lo) + (1 : Int))))))) ∧
((((¬i + (1 : Nat) ≤ i)) ∧ (((i * (1 : Nat) = ls.length)) ∧ ((((i + (1 : Nat)) * (8 : Nat) ≤ (140737488355328 : Nat))) ∧ ((i + (1 : Nat) ≤ (4611686018427387904 : Nat)))))) ∧ 
R ((1 : Nat)) .normal ⟨⟨[(.int .u8 (m)), (.int .i64 ((↑n : Int))), (.int .i64 (IntKind.i64.wrap ((↑i : Int) + (1 : Int)))), (.int .i64 (p))], [⟨(k), (d)⟩, ⟨(n), (n)⟩, ⟨(i + (1 : Nat)), (i + (1 : Nat))⟩, ⟨(n), (c)⟩, ⟨(n), (c)⟩]⟩, [(ms), (bs), (ps), ((List.take (i * (1 : Nat)) (ls)) ++ [(.int .i64 (IntKind.i64.wrap ((f i).lo + (IntKind.i64.wrap (b ((↑i : Int).tmod (↑k : Int)).toNat)).tmod (IntKind.i64.wrap (IntKind.i64.wrap ((f i).hi - (f i).lo) + (1 : Int))))))])], []⟩)))))) ∧
((decide ((↑k : Int) > (0 : Int))) = false → ((((¬i + (1 : Nat) ≤ i)) ∧ (((i * (1 : Nat) = ls.length)) ∧ ((((i + (1 : Nat)) * (8 : Nat) ≤ (140737488355328 : Nat))) ∧ ((i + (1 : Nat) ≤ (4611686018427387904 : Nat)))))) ∧ 
R ((1 : Nat)) .normal ⟨⟨[(.int .u8 (m)), (.int .i64 ((↑n : Int))), (.int .i64 (IntKind.i64.wrap ((↑i : Int) + (1 : Int)))), (.int .i64 (p))], [⟨(k), (d)⟩, ⟨(n), (n)⟩, ⟨(i + (1 : Nat)), (i + (1 : Nat))⟩, ⟨(n), (c)⟩, ⟨(n), (c)⟩]⟩, [(ms), (bs), (ps), ((List.take (i * (1 : Nat)) (ls)) ++ [(.int .i64 ((f i).lo))])], []⟩)))))) ∧
((decide ((↑i : Int) < (↑n : Int))) = false → R ((1 : Nat)) (.exit ((0 : Nat))) ⟨⟨[(.int .u8 (m)), (.int .i64 ((↑n : Int))), (.int .i64 ((↑i : Int))), (.int .i64 (p))], [⟨(k), (d)⟩, ⟨(n), (n)⟩, ⟨(i), (i)⟩, ⟨(n), (c)⟩, ⟨(n), (c)⟩]⟩, [(ms), (bs), (ps), (ls)], []⟩))) := by kernel_rfl

theorem b3an (p m : Int) (n c i : Nat) (f : Nat → Mv) (ms ps : List Value) (R : Nat → AExit → Hw → Prop) : (vx.code none (.l p3a) (leafW [T3an, T3bn] R) (T3an.inst ⟨⟨[U8 m, I n, I i, I p], [(n, n), (n, c), (n, c)]⟩, [ms, ps], []⟩) ([(0, .split ((2, .val (.pointer (.some ⟨((0 : Nat)), ((0 : Nat) + i * (4 : Nat)), .none⟩))) :: (0, .val (.agg ⟨[(.int .i64 ((f i).at_)), (.int .i64 ((f i).place)), (.int .i64 ((f i).lo)), (.int .i64 ((f i).hi))]⟩)) :: [(18, Hint.tm (1 : Nat) [((7 : Nat), (9 : Nat))])]) ([(1, Hint.tm (0 : Nat) [])]))])) =
((((decide ((↑i : Int) < (↑n : Int))) = true → ((((((0 : Int) ≤ (↑i : Int))) ∧ (((↑i : Int) < (↑n : Int)))) ∧ (((.pointer (.some ⟨((0 : Nat)), ((0 : Nat) + i * (4 : Nat)), .none⟩)) : Value) = (.pointer (.some ⟨((0 : Nat)), ((0 : Nat) + i * (4 : Nat)), .none⟩)))) ∧
(((((0 : Nat) + i * (4 : Nat) + (4 : Nat) ≤ ms.length)) ∧ (((.agg ⟨[(.int .i64 ((f i).at_)), (.int .i64 ((f i).place)), (.int .i64 ((f i).lo)), (.int .i64 ((f i).hi))]⟩) : Value) = (.agg ⟨(List.take ((4 : Nat)) (List.drop ((0 : Nat) + i * (4 : Nat)) (ms)))⟩))) ∧
R ((1 : Nat)) .normal ⟨⟨[(.int .u8 (m)), (.int .i64 ((↑n : Int))), (.int .i64 (IntKind.i64.wrap ((↑i : Int) + (1 : Int)))), (.int .i64 (p))], [⟨(n), (n)⟩, ⟨((1 : Nat)), ((1 : Nat))⟩, ⟨(n), (c)⟩, ⟨(n), (c)⟩]⟩, [(ms), (ps), [(.int .i64 ((f i).lo))]], []⟩))) ∧
((decide ((↑i : Int) < (↑n : Int))) = false → R ((0 : Nat)) (.exit ((0 : Nat))) ⟨⟨[(.int .u8 (m)), (.int .i64 ((↑n : Int))), (.int .i64 ((↑i : Int))), (.int .i64 (p))], [⟨(n), (n)⟩, ⟨(n), (c)⟩, ⟨(n), (c)⟩]⟩, [(ms), (ps)], []⟩))) := by kernel_rfl

theorem b3bn (p m : Int) (n c i : Nat) (f : Nat → Mv) (ms ps ls : List Value) (R : Nat → AExit → Hw → Prop) : (vx.code none (.l p3a) (leafW [T3an, T3bn] R) (T3bn.inst ⟨⟨[U8 m, I n, I i, I p], [(n, n), (i, i), (n, c), (n, c)]⟩, [ms, ps, ls], []⟩) ([(0, .split ((2, .val (.pointer (.some ⟨((0 : Nat)), ((0 : Nat) + i * (4 : Nat)), .none⟩))) :: (0, .val (.agg ⟨[(.int .i64 ((f i).at_)), (.int .i64 ((f i).place)), (.int .i64 ((f i).lo)), (.int .i64 ((f i).hi))]⟩)) :: (14, Hint.grow) :: [(3, Hint.tm (1 : Nat) [((7 : Nat), (10 : Nat))])]) ([(1, Hint.tm (1 : Nat) [((7 : Nat), (7 : Nat))])]))])) =
((((decide ((↑i : Int) < (↑n : Int))) = true → ((((((0 : Int) ≤ (↑i : Int))) ∧ (((↑i : Int) < (↑n : Int)))) ∧ (((.pointer (.some ⟨((0 : Nat)), ((0 : Nat) + i * (4 : Nat)), .none⟩)) : Value) = (.pointer (.some ⟨((0 : Nat)), ((0 : Nat) + i * (4 : Nat)), .none⟩)))) ∧
(((((0 : Nat) + i * (4 : Nat) + (4 : Nat) ≤ ms.length)) ∧ (((.agg ⟨[(.int .i64 ((f i).at_)), (.int .i64 ((f i).place)), (.int .i64 ((f i).lo)), (.int .i64 ((f i).hi))]⟩) : Value) = (.agg ⟨(List.take ((4 : Nat)) (List.drop ((0 : Nat) + i * (4 : Nat)) (ms)))⟩))) ∧
((((¬i + (1 : Nat) ≤ i)) ∧ (((i * (1 : Nat) = ls.length)) ∧ ((((i + (1 : Nat)) * (8 : Nat) ≤ (140737488355328 : Nat))) ∧ ((i + (1 : Nat) ≤ (4611686018427387904 : Nat)))))) ∧ 
R ((1 : Nat)) .normal ⟨⟨[(.int .u8 (m)), (.int .i64 ((↑n : Int))), (.int .i64 (IntKind.i64.wrap ((↑i : Int) + (1 : Int)))), (.int .i64 (p))], [⟨(n), (n)⟩, ⟨(i + (1 : Nat)), (i + (1 : Nat))⟩, ⟨(n), (c)⟩, ⟨(n), (c)⟩]⟩, [(ms), (ps), ((List.take (i * (1 : Nat)) (ls)) ++ [(.int .i64 ((f i).lo))])], []⟩)))) ∧
((decide ((↑i : Int) < (↑n : Int))) = false → R ((1 : Nat)) (.exit ((0 : Nat))) ⟨⟨[(.int .u8 (m)), (.int .i64 ((↑n : Int))), (.int .i64 ((↑i : Int))), (.int .i64 (p))], [⟨(n), (n)⟩, ⟨(i), (i)⟩, ⟨(n), (c)⟩, ⟨(n), (c)⟩]⟩, [(ms), (ps), (ls)], []⟩))) := by kernel_rfl

theorem u8s_atom (k : Nat) (b : Nat → Int) : ∀ v ∈ u8s k b, atomic v = true := u8s_atoms k b
noncomputable def st3a (p m : Int) (n c k d : Nat) (f : Nat → Mv) (b g : Nat → Int) (i : Nat) : Nat × Hw :=
  if i = 0 then (0, ⟨⟨[U8 m, I n, I (0 : Nat), I p], [(k, d), (n, n), (n, c), (n, c)]⟩, [mvs n f, u8s k b, ints n g], []⟩)
  else (1, ⟨⟨[U8 m, I n, I i, I p], [(k, d), (n, n), (i, i), (n, c), (n, c)]⟩, [mvs n f, u8s k b, ints n g, ints i (longF k b f)], []⟩)
theorem st3a_cl (p m : Int) (n c k d : Nat) (f : Nat → Mv) (b g : Nat → Int) (i : Nat) : ClW (st3a p m n c k d f b g i).2 := by
  simp only [st3a]
  split
  · refine clL fun cs hcs => ?_
    simp only [List.mem_cons, List.not_mem_nil, or_false] at hcs
    rcases hcs with rfl | rfl | rfl
    · exact mvs_atom n f
    · exact u8s_atom k b
    · exact ints_atom n g
  · refine clL fun cs hcs => ?_
    simp only [List.mem_cons, List.not_mem_nil, or_false] at hcs
    rcases hcs with rfl | rfl | rfl | rfl
    · exact mvs_atom n f
    · exact u8s_atom k b
    · exact ints_atom n g
    · exact ints_atom i _
theorem loop3a {p m : Int} {n c k d : Nat} {f : Nat → Mv} {b g : Nat → Int} (h0 : 0 < n) (hok : okH p n f = true) (hb : ∀ i, i < k → 0 ≤ b i ∧ b i < 256) :
    LoopOW Try.prog none p3a T3a (st3a p m n c k d f b g 0).2 (.exit 0) T3b (st3a p m n c k d f b g n).2 := by
  have hH := okH_iff hok
  have h7 := hH.n7
  have hst : ∀ i, 0 < i → st3a p m n c k d f b g i = (1, ⟨⟨[U8 m, I n, I i, I p], [(k, d), (n, n), (i, i), (n, c), (n, c)]⟩, [mvs n f, u8s k b, ints n g, ints i (longF k b f)], []⟩) := fun i hi => by simp only [st3a, if_neg (show ¬ i = 0 by omega)]
  refine loop_forW (P := Try.prog) (ro := none) (p := p3a) (Ts := [T3a, T3b]) (k := 7) (n := n) (st := st3a p m n c k d f b g) (e := .exit 0) rfl vx_sound (by simp [T3a, T3b]) (by rw [nglob]; omega) ⟨by simp, trivial⟩ (fun i _ => st3a_cl p m n c k d f b g i)
    (fun i hi R hR => ?_) (fun R hR => ?_) (T0 := T3a) (T1 := T3b) rfl (Nat.le_of_ble_eq_true rfl) (by decide) (by rw [hst n h0]; rfl)
  · have hw : IntKind.i64.wrap ((i : Int) + 1) = ((i + 1 : Nat) : Int) := wrapI (by omega) (by omega)
    have hm := hH.mv i hi
    have a3 := hm.lo1; have a4 := hm.lohi; have a5 := hm.hi1
    have w1 : IntKind.i64.wrap ((f i).hi - (f i).lo) = (f i).hi - (f i).lo := wrapI (by omega) (by omega)
    have w2 : IntKind.i64.wrap ((f i).hi - (f i).lo + 1) = (f i).hi - (f i).lo + 1 := wrapI (by omega) (by omega)
    have l1 := flatC_bound (k := 4) hi
    have hmod : 0 < k → (0 : Int) ≤ (i : Int).tmod (k : Int) ∧ (i : Int).tmod (k : Int) < (k : Int) ∧ ((i : Int).tmod (k : Int)).toNat < k := fun hk => by
      have e : (i : Int).tmod (k : Int) = ((i % k : Nat) : Int) := rfl
      have := Nat.mod_lt i hk
      rw [e]
      omega
    have hL := longF_le (k := k) (b := b) hok hb hi
    have w3 : 0 < k → IntKind.i64.wrap (b ((i : Int).tmod (k : Int)).toNat) = b ((i : Int).tmod (k : Int)).toNat := fun hk => by
      have := hb _ (hmod hk).2.2
      exact wrapI (by omega) (by omega)
    have hlong : 0 < k → longF k b f i = (f i).lo + (b ((i : Int).tmod (k : Int)).toNat).tmod ((f i).hi - (f i).lo + 1) := fun hk => by simp only [longF, if_pos hk]
    have hlong0 : ¬ 0 < k → longF k b f i = (f i).lo := fun hk => by simp only [longF, if_neg hk]
    have w4 : 0 < k → IntKind.i64.wrap ((f i).lo + (b ((i : Int).tmod (k : Int)).toNat).tmod ((f i).hi - (f i).lo + 1)) = longF k b f i := fun hk => by
      rw [← hlong hk]
      exact wrapI (by omega) (by omega)
    rw [hst (i + 1) (by omega)] at hR
    by_cases hz : i = 0
    · subst hz
      refine ⟨T3a, _, rfl, (b3a p m n c k d 0 f b (mvs n f) (u8s k b) (ints n g) R).mpr ⟨fun _ => ?_, fun h => absurd hi (by simpa using h)⟩⟩
      have e1 : ints 1 (longF k b f) = [I (longF k b f 0)] := rfl
      simp only [Nat.zero_add, e1] at hR
      refine ⟨⟨⟨by omega, by omega⟩, rfl⟩, ⟨by rw [mvs_len]; omega, by rw [mvs_part f hi]; rfl⟩, fun hk => ?_, fun hk => ?_⟩
      · have hk' : 0 < k := by have := of_decide_eq_true hk; omega
        obtain ⟨m1, m2, m3⟩ := hmod hk'
        rw [w1, w2, w3 hk', w4 hk', hw]
        exact ⟨⟨⟨by omega, rfl⟩, rfl⟩, ⟨⟨m1, m2⟩, rfl⟩, u8s_get b m3, ⟨⟨by omega, rfl⟩, rfl⟩, hR⟩
      · have hk' : ¬ 0 < k := by have := of_decide_eq_false hk; omega
        rw [hlong0 hk'] at hR
        rw [hw]
        exact hR
    · rw [hst i (by omega)]
      refine ⟨T3b, _, rfl, (b3b p m n c k d i f b (mvs n f) (u8s k b) (ints n g) (ints i (longF k b f)) R).mpr ⟨fun _ => ?_, fun h => absurd hi (by simpa using h)⟩⟩
      have e1 : ints (i + 1) (longF k b f) = ints i (longF k b f) ++ [I (longF k b f i)] := ints_succ i _
      have hl1 := ints_len i (longF k b f)
      have t1 : List.take (i * 1) (ints i (longF k b f)) = ints i (longF k b f) := List.take_of_length_le (by omega)
      rw [e1] at hR
      refine ⟨⟨⟨by omega, by omega⟩, rfl⟩, ⟨by rw [mvs_len]; omega, by rw [mvs_part f hi]; rfl⟩, fun hk => ?_, fun hk => ?_⟩
      · have hk' : 0 < k := by have := of_decide_eq_true hk; omega
        obtain ⟨m1, m2, m3⟩ := hmod hk'
        rw [w1, w2, w3 hk', w4 hk', hw, t1]
        exact ⟨⟨⟨by omega, rfl⟩, rfl⟩, ⟨⟨m1, m2⟩, rfl⟩, u8s_get b m3, ⟨⟨by omega, rfl⟩, rfl⟩, ⟨by omega, by omega, by omega, by omega⟩, hR⟩
      · have hk' : ¬ 0 < k := by have := of_decide_eq_false hk; omega
        rw [hlong0 hk'] at hR
        rw [hw, t1]
        exact ⟨⟨by omega, by omega, by omega, by omega⟩, hR⟩
  · rw [hst n h0] at hR ⊢
    exact ⟨T3b, _, rfl, (b3b p m n c k d n f b (mvs n f) (u8s k b) (ints n g) _ R).mpr ⟨fun h => absurd (of_decide_eq_true h) (by omega), fun _ => hR⟩⟩
/-! ### without numbers -/
noncomputable def st3n (p m : Int) (n c : Nat) (f : Nat → Mv) (g : Nat → Int) (i : Nat) : Nat × Hw :=
  if i = 0 then (0, ⟨⟨[U8 m, I n, I (0 : Nat), I p], [(n, n), (n, c), (n, c)]⟩, [mvs n f, ints n g], []⟩)
  else (1, ⟨⟨[U8 m, I n, I i, I p], [(n, n), (i, i), (n, c), (n, c)]⟩, [mvs n f, ints n g, ints i (longF 0 (fun _ => 0) f)], []⟩)
theorem st3n_cl (p m : Int) (n c : Nat) (f : Nat → Mv) (g : Nat → Int) (i : Nat) : ClW (st3n p m n c f g i).2 := by
  simp only [st3n]
  split
  · refine clL fun cs hcs => ?_
    simp only [List.mem_cons, List.not_mem_nil, or_false] at hcs
    rcases hcs with rfl | rfl
    · exact mvs_atom n f
    · exact ints_atom n g
  · refine clL fun cs hcs => ?_
    simp only [List.mem_cons, List.not_mem_nil, or_false] at hcs
    rcases hcs with rfl | rfl | rfl
    · exact mvs_atom n f
    · exact ints_atom n g
    · exact ints_atom i _
theorem loop3n {p m : Int} {n c : Nat} {f : Nat → Mv} {g : Nat → Int} (h0 : 0 < n) (hok : okH p n f = true) :
    LoopOW Try.prog none p3a T3an (st3n p m n c f g 0).2 (.exit 0) T3bn (st3n p m n c f g n).2 := by
  have h7 := (okH_iff hok).n7
  have hst : ∀ i, 0 < i → st3n p m n c f g i = (1, ⟨⟨[U8 m, I n, I i, I p], [(n, n), (i, i), (n, c), (n, c)]⟩, [mvs n f, ints n g, ints i (longF 0 (fun _ => 0) f)], []⟩) := fun i hi => by simp only [st3n, if_neg (show ¬ i = 0 by omega)]
  have hlong : ∀ i, longF 0 (fun _ => 0) f i = (f i).lo := fun i => rfl
  refine loop_forW (P := Try.prog) (ro := none) (p := p3a) (Ts := [T3an, T3bn]) (k := 7) (n := n) (st := st3n p m n c f g) (e := .exit 0) rfl vx_sound (by simp [T3an, T3bn]) (by rw [nglob]; omega) ⟨by simp, trivial⟩ (fun i _ => st3n_cl p m n c f g i)
    (fun i hi R hR => ?_) (fun R hR => ?_) (T0 := T3an) (T1 := T3bn) rfl (Nat.le_of_ble_eq_true rfl) (by decide) (by rw [hst n h0]; rfl)
  · have hw : IntKind.i64.wrap ((i : Int) + 1) = ((i + 1 : Nat) : Int) := wrapI (by omega) (by omega)
    have l1 := flatC_bound (k := 4) hi
    rw [hst (i + 1) (by omega)] at hR
    by_cases hz : i = 0
    · subst hz
      refine ⟨T3an, _, rfl, (b3an p m n c 0 f (mvs n f) (ints n g) R).mpr ⟨fun _ => ?_, fun h => absurd hi (by simpa using h)⟩⟩
      have e1 : ints 1 (longF 0 (fun _ => 0) f) = [I (f 0).lo] := rfl
      simp only [Nat.zero_add, e1] at hR
      rw [hw]
      exact ⟨⟨⟨by omega, by omega⟩, rfl⟩, ⟨by rw [mvs_len]; omega, by rw [mvs_part f hi]; rfl⟩, hR⟩
    · rw [hst i (by omega)]
      refine ⟨T3bn, _, rfl, (b3bn p m n c i f (mvs n f) (ints n g) (ints i (longF 0 (fun _ => 0) f)) R).mpr ⟨fun _ => ?_, fun h => absurd hi (by simpa using h)⟩⟩
      have e1 : ints (i + 1) (longF 0 (fun _ => 0) f) = ints i (longF 0 (fun _ => 0) f) ++ [I (f i).lo] := ints_succ i _
      have hl1 := ints_len i (longF 0 (fun _ => 0) f)
      have t1 : List.take (i * 1) (ints i (longF 0 (fun _ => 0) f)) = ints i (longF 0 (fun _ => 0) f) := List.take_of_length_le (by omega)
      rw [e1] at hR
      rw [hw, t1]
      exact ⟨⟨⟨by omega, by omega⟩, rfl⟩, ⟨by rw [mvs_len]; omega, by rw [mvs_part f hi]; rfl⟩, ⟨by omega, by omega, by omega, by omega⟩, hR⟩
  · rw [hst n h0] at hR ⊢
    exact ⟨T3bn, _, rfl, (b3bn p m n c n f (mvs n f) (ints n g) _ R).mpr ⟨fun h => absurd (of_decide_eq_true h) (by omega), fun _ => hR⟩⟩
end Go.Ab

/- the law HorseTrue: what is told of each move, and of any two. -/
set_option maxRecDepth 100000
namespace Go.Ab
open Go Go.RowKit Go.Proofs
theorem b3d (p e1 e2 a u : Int) (r : Bool) (n c i j : Nat) (f : Nat → Mv) (g lg : Nat → Int) (ms ps ls bs js : List Value) (R : Nat → AExit → Hw → Prop) : (vx.code none (.l p3d) (leafW [T3d] R) (T3d.inst ⟨⟨[I e1, I e2, .bool r, I a, I u, I i, I n, I i, I n, I j, I p], [(n, n), (n, n), (n, n), (n, n), (n, c), (n, c), (n, c)]⟩, [ms, ps, ls, bs, js, mvV (f i)], []⟩) ([(0, .split ((2, .val (.pointer (.some ⟨((0 : Nat)), ((0 : Nat) + j * (4 : Nat)), .none⟩))) :: (0, .val (.agg ⟨[(.int .i64 ((f j).at_)), (.int .i64 ((f j).place)), (.int .i64 ((f j).lo)), (.int .i64 ((f j).hi))]⟩)) :: (7, .val (.pointer (.some ⟨((7 : Nat)), ((0 : Nat) + i * (1 : Nat)), .none⟩))) :: (0, .val (.int .i64 (lg i))) :: (6, Hint.con (C17x p n c f)) :: (0, Hint.again) :: [(1, .split ((4, Hint.con (C18x p n c f)) :: [(9, .split ([(7, .split ([(6, Hint.tm (0 : Nat) [])]) ((8, .val (.pointer (.some ⟨((7 : Nat)), ((0 : Nat) + j * (1 : Nat)), .none⟩))) :: (0, .val (.int .i64 (lg j))) :: (6, Hint.con (C17x p n c f)) :: (0, Hint.again) :: [(1, .split ([(1, .split ([(3, .split ([(10, Hint.tm (0 : Nat) [])]) ((3, .val (.pointer (.some ⟨((6 : Nat)), ((0 : Nat) + i * (1 : Nat)), .none⟩))) :: (0, .val (.int .i64 (g i))) :: (2, .val (.pointer (.some ⟨((6 : Nat)), ((0 : Nat) + j * (1 : Nat)), .none⟩))) :: (0, .val (.int .i64 (g j))) :: [(0, .split ([(9, Hint.tm (0 : Nat) [])]) ([(10, Hint.tm (0 : Nat) [])]))]))]) ([(5, Hint.tm (0 : Nat) [])]))]) ([(1, .split ([(3, .split ([(10, Hint.tm (0 : Nat) [])]) ((3, .val (.pointer (.some ⟨((6 : Nat)), ((0 : Nat) + i * (1 : Nat)), .none⟩))) :: (0, .val (.int .i64 (g i))) :: (2, .val (.pointer (.some ⟨((6 : Nat)), ((0 : Nat) + j * (1 : Nat)), .none⟩))) :: (0, .val (.int .i64 (g j))) :: [(0, .split ([(9, Hint.tm (0 : Nat) [])]) ([(10, Hint.tm (0 : Nat) [])]))]))]) ([(5, Hint.tm (0 : Nat) [])]))]))]))]) ([(5, .split ([(6, Hint.tm (0 : Nat) [])]) ((8, .val (.pointer (.some ⟨((7 : Nat)), ((0 : Nat) + j * (1 : Nat)), .none⟩))) :: (0, .val (.int .i64 (lg j))) :: (6, Hint.con (C17x p n c f)) :: (0, Hint.again) :: [(1, .split ([(1, .split ([(3, .split ([(10, Hint.tm (0 : Nat) [])]) ((3, .val (.pointer (.some ⟨((6 : Nat)), ((0 : Nat) + i * (1 : Nat)), .none⟩))) :: (0, .val (.int .i64 (g i))) :: (2, .val (.pointer (.some ⟨((6 : Nat)), ((0 : Nat) + j * (1 : Nat)), .none⟩))) :: (0, .val (.int .i64 (g j))) :: [(0, .split ([(9, Hint.tm (0 : Nat) [])]) ([(10, Hint.tm (0 : Nat) [])]))]))]) ([(5, Hint.tm (0 : Nat) [])]))]) ([(1, .split ([(3, .split ([(10, Hint.tm (0 : Nat) [])]) ((3, .val (.pointer (.some ⟨((6 : Nat)), ((0 : Nat) + i * (1 : Nat)), .none⟩))) :: (0, .val (.int .i64 (g i))) :: (2, .val (.pointer (.some ⟨((6 : Nat)), ((0 : Nat) + j * (1 : Nat)), .none⟩))) :: (0, .val (.int .i64 (g j))) :: [(0, .split ([(9, Hint.tm (0 : Nat) [])]) ([(10, Hint.tm (0 : Nat) [])]))]))]) ([(5, Hint.tm (0 : Nat) [])]))]))]))]))]) ((4, Hint.con (C18x p n c f)) :: [(9, .split ([(9, Hint.tm (0 : Nat) [])]) ([(5, .split ((9, .val (.pointer (.some ⟨((7 : Nat)), ((0 : Nat) + j * (1 : Nat)), .none⟩))) :: (0, .val (.int .i64 (lg j))) :: (6, Hint.con (C17x p n c f)) :: (0, Hint.again) :: [(1, .split ([(1, .split ([(3, .split ([(10, Hint.tm (0 : Nat) [])]) ((3, .val (.pointer (.some ⟨((6 : Nat)), ((0 : Nat) + i * (1 : Nat)), .none⟩))) :: (0, .val (.int .i64 (g i))) :: (2, .val (.pointer (.some ⟨((6 : Nat)), ((0 : Nat) + j * (1 : Nat)), .none⟩))) :: (0, .val (.int .i64 (g j))) :: [(0, .split ([(9, Hint.tm (0 : Nat) [])]) ([(11, Hint.tm (0 : Nat) [])]))]))]) ([(5, Hint.tm (0 : Nat) [])]))]) ([(1, .split ([(3, .split ([(10, Hint.tm (0 : Nat) [])]) ((3, .val (.pointer (.some ⟨((6 : Nat)), ((0 : Nat) + i * (1 : Nat)), .none⟩))) :: (0, .val (.int .i64 (g i))) :: (2, .val (.pointer (.some ⟨((6 : Nat)), ((0 : Nat) + j * (1 : Nat)), .none⟩))) :: (0, .val (.int .i64 (g j))) :: [(0, .split ([(9, Hint.tm (0 : Nat) [])]) ([(11, Hint.tm (0 : Nat) [])]))]))]) ([(5, Hint.tm (0 : Nat) [])]))]))]) ((8, .val (.pointer (.some ⟨((7 : Nat)), ((0 : Nat) + j * (1 : Nat)), .none⟩))) :: (0, .val (.int .i64 (lg j))) :: (6, Hint.con (C17x p n c f)) :: (0, Hint.again) :: [(1, .split ([(1, .split ([(3, .split ([(10, Hint.tm (0 : Nat) [])]) ((3, .val (.pointer (.some ⟨((6 : Nat)), ((0 : Nat) + i * (1 : Nat)), .none⟩))) :: (0, .val (.int .i64 (g i))) :: (2, .val (.pointer (.some ⟨((6 : Nat)), ((0 : Nat) + j * (1 : Nat)), .none⟩))) :: (0, .val (.int .i64 (g j))) :: [(0, .split ([(9, Hint.tm (0 : Nat) [])]) ([(11, Hint.tm (0 : Nat) [])]))]))]) ([(5, Hint.tm (0 : Nat) [])]))]) ([(1, .split ([(3, .split ([(10, Hint.tm (0 : Nat) [])]) ((3, .val (.pointer (.some ⟨((6 : Nat)), ((0 : Nat) + i * (1 : Nat)), .none⟩))) :: (0, .val (.int .i64 (g i))) :: (2, .val (.pointer (.some ⟨((6 : Nat)), ((0 : Nat) + j * (1 : Nat)), .none⟩))) :: (0, .val (.int .i64 (g j))) :: [(0, .split ([(9, Hint.tm (0 : Nat) [])]) ([(11, Hint.tm (0 : Nat) [])]))]))]) ([(5, Hint.tm (0 : Nat) [])]))]))]))]))]))]) ([(1, Hint.tm (0 : Nat) [])]))])) =
((((decide ((↑j : Int) < (↑n : Int))) = true → ((((((0 : Int) ≤ (↑j : Int))) ∧ (((↑j : Int) < (↑n : Int)))) ∧ (((.pointer (.some ⟨((0 : Nat)), ((0 : Nat) + j * (4 : Nat)), .none⟩)) : Value) = (.pointer (.some ⟨((0 : Nat)), ((0 : Nat) + j * (4 : Nat)), .none⟩)))) ∧
(((((0 : Nat) + j * (4 : Nat) + (4 : Nat) ≤ ms.length)) ∧ (((.agg ⟨[(.int .i64 ((f j).at_)), (.int .i64 ((f j).place)), (.int .i64 ((f j).lo)), (.int .i64 ((f j).hi))]⟩) : Value) = (.agg ⟨(List.take ((4 : Nat)) (List.drop ((0 : Nat) + j * (4 : Nat)) (ms)))⟩))) ∧
((((((0 : Int) ≤ (↑i : Int))) ∧ (((↑i : Int) < (↑n : Int)))) ∧ (((.pointer (.some ⟨((7 : Nat)), ((0 : Nat) + i * (1 : Nat)), .none⟩)) : Value) = (.pointer (.some ⟨((7 : Nat)), ((0 : Nat) + i * (1 : Nat)), .none⟩)))) ∧
(((ls[(0 : Nat) + i * (1 : Nat)]? = some (.int .i64 (lg i)))) ∧
((ConOK Try.prog ((17 : Nat)) (C17x p n c f)) ∧ (Con.pre (C17x p n c f) ⟨⟨[(.int .i64 (p)), (.int .i64 ((↑i : Int))), (.int .i64 ((↑j : Int)))], [⟨(n), (c)⟩]⟩, [(ms)]⟩) ∧ 
(((((some (.int .i64 ((f j).at_)) : Option Value) = some (.int .i64 ((f j).at_)))) ∧ (((ls[(0 : Nat) + i * (1 : Nat)]? = some (.int .i64 (lg i)))) ∧ ((((some (.int .i64 ((f i).at_)) : Option Value) = some (.int .i64 ((f i).at_)))) ∧ (True)))) ∧ 
(((decide (IntKind.i64.wrap (IntKind.i64.wrap ((f i).at_ + lg i) + wkI p (f i) (f j)) ≤ (f j).at_)) = true → ((ConOK Try.prog ((18 : Nat)) (C18x p n c f)) ∧ (Con.pre (C18x p n c f) ⟨⟨[(.int .i64 (p)), (.int .i64 ((↑i : Int))), (.int .i64 ((↑j : Int)))], [⟨(n), (c)⟩]⟩, [(ms)]⟩) ∧ 
(((folV p n f i j == (2 : Int)) = true → (((folV p n f i j == (0 : Int)) = true → R ((0 : Nat)) .ret ⟨⟨[(.int .i64 (e1)), (.int .i64 (e2)), (.bool (r)), (.int .i64 (a)), (.int .i64 (u)), (.int .i64 ((↑i : Int))), (.int .i64 ((↑n : Int))), (.int .i64 ((↑i : Int))), (.int .i64 ((↑n : Int))), (.int .i64 ((↑j : Int))), (.int .i64 (p))], [⟨(n), (n)⟩, ⟨(n), (n)⟩, ⟨(n), (n)⟩, ⟨(n), (n)⟩, ⟨(n), (c)⟩, ⟨(n), (c)⟩, ⟨(n), (c)⟩]⟩, [(ms), (ps), (ls), (bs), (js), [(.int .i64 ((f i).at_)), (.int .i64 ((f i).place)), (.int .i64 ((f i).lo)), (.int .i64 ((f i).hi))]], []⟩) ∧
((folV p n f i j == (0 : Int)) = false → ((((((0 : Int) ≤ (↑j : Int))) ∧ (((↑j : Int) < (↑n : Int)))) ∧ (((.pointer (.some ⟨((7 : Nat)), ((0 : Nat) + j * (1 : Nat)), .none⟩)) : Value) = (.pointer (.some ⟨((7 : Nat)), ((0 : Nat) + j * (1 : Nat)), .none⟩)))) ∧
(((ls[(0 : Nat) + j * (1 : Nat)]? = some (.int .i64 (lg j)))) ∧
((ConOK Try.prog ((17 : Nat)) (C17x p n c f)) ∧ (Con.pre (C17x p n c f) ⟨⟨[(.int .i64 (p)), (.int .i64 ((↑i : Int))), (.int .i64 ((↑j : Int)))], [⟨(n), (c)⟩]⟩, [(ms)]⟩) ∧ 
(((((some (.int .i64 ((f i).at_)) : Option Value) = some (.int .i64 ((f i).at_)))) ∧ (((ls[(0 : Nat) + j * (1 : Nat)]? = some (.int .i64 (lg j)))) ∧ ((((some (.int .i64 ((f j).at_)) : Option Value) = some (.int .i64 ((f j).at_)))) ∧ (True)))) ∧ 
(((decide (IntKind.i64.wrap (IntKind.i64.wrap ((f j).at_ + lg j) + wkI p (f i) (f j)) ≤ (f i).at_)) = true → (((r) = true → ((((↑i : Int) == (↑j : Int)) = true → R ((0 : Nat)) .normal ⟨⟨[(.int .i64 (e1)), (.int .i64 (e2)), (.bool true), (.int .i64 (a)), (.int .i64 (u)), (.int .i64 ((↑i : Int))), (.int .i64 ((↑n : Int))), (.int .i64 ((↑i : Int))), (.int .i64 ((↑n : Int))), (.int .i64 (IntKind.i64.wrap ((↑j : Int) + (1 : Int)))), (.int .i64 (p))], [⟨(n), (n)⟩, ⟨(n), (n)⟩, ⟨(n), (n)⟩, ⟨(n), (n)⟩, ⟨(n), (c)⟩, ⟨(n), (c)⟩, ⟨(n), (c)⟩]⟩, [(ms), (ps), (ls), (bs), (js), [(.int .i64 ((f i).at_)), (.int .i64 ((f i).place)), (.int .i64 ((f i).lo)), (.int .i64 ((f i).hi))]], []⟩) ∧
(((↑i : Int) == (↑j : Int)) = false → ((((((0 : Int) ≤ (↑i : Int))) ∧ (((↑i : Int) < (↑n : Int)))) ∧ (((.pointer (.some ⟨((6 : Nat)), ((0 : Nat) + i * (1 : Nat)), .none⟩)) : Value) = (.pointer (.some ⟨((6 : Nat)), ((0 : Nat) + i * (1 : Nat)), .none⟩)))) ∧
(((ps[(0 : Nat) + i * (1 : Nat)]? = some (.int .i64 (g i)))) ∧
((((((0 : Int) ≤ (↑j : Int))) ∧ (((↑j : Int) < (↑n : Int)))) ∧ (((.pointer (.some ⟨((6 : Nat)), ((0 : Nat) + j * (1 : Nat)), .none⟩)) : Value) = (.pointer (.some ⟨((6 : Nat)), ((0 : Nat) + j * (1 : Nat)), .none⟩)))) ∧
(((ps[(0 : Nat) + j * (1 : Nat)]? = some (.int .i64 (g j)))) ∧
(((g i != g j) = true → R ((0 : Nat)) .normal ⟨⟨[(.int .i64 (e1)), (.int .i64 (e2)), (.bool true), (.int .i64 (a)), (.int .i64 (u)), (.int .i64 ((↑i : Int))), (.int .i64 ((↑n : Int))), (.int .i64 ((↑i : Int))), (.int .i64 ((↑n : Int))), (.int .i64 (IntKind.i64.wrap ((↑j : Int) + (1 : Int)))), (.int .i64 (p))], [⟨(n), (n)⟩, ⟨(n), (n)⟩, ⟨(n), (n)⟩, ⟨(n), (n)⟩, ⟨(n), (c)⟩, ⟨(n), (c)⟩, ⟨(n), (c)⟩]⟩, [(ms), (ps), (ls), (bs), (js), [(.int .i64 ((f i).at_)), (.int .i64 ((f i).place)), (.int .i64 ((f i).lo)), (.int .i64 ((f i).hi))]], []⟩) ∧
((g i != g j) = false → R ((0 : Nat)) .normal ⟨⟨[(.int .i64 (e1)), (.int .i64 (e2)), (.bool true), (.int .i64 (a)), (.int .i64 (u)), (.int .i64 ((↑i : Int))), (.int .i64 ((↑n : Int))), (.int .i64 ((↑i : Int))), (.int .i64 ((↑n : Int))), (.int .i64 (IntKind.i64.wrap ((↑j : Int) + (1 : Int)))), (.int .i64 (p))], [⟨(n), (n)⟩, ⟨(n), (n)⟩, ⟨(n), (n)⟩, ⟨(n), (n)⟩, ⟨(n), (c)⟩, ⟨(n), (c)⟩, ⟨(n), (c)⟩]⟩, [(ms), (ps), (ls), (bs), (js), [(.int .i64 ((f i).at_)), (.int .i64 ((f i).place)), (.int .i64 ((f i).lo)), (.int .i64 ((f i).hi))]], []⟩))))))))) ∧
((r) = false → R ((0 : Nat)) .normal ⟨⟨[(.int .i64 (e1)), (.int .i64 (e2)), (.bool false), (.int .i64 (a)), (.int .i64 (u)), (.int .i64 ((↑i : Int))), (.int .i64 ((↑n : Int))), (.int .i64 ((↑i : Int))), (.int .i64 ((↑n : Int))), (.int .i64 (IntKind.i64.wrap ((↑j : Int) + (1 : Int)))), (.int .i64 (p))], [⟨(n), (n)⟩, ⟨(n), (n)⟩, ⟨(n), (n)⟩, ⟨(n), (n)⟩, ⟨(n), (c)⟩, ⟨(n), (c)⟩, ⟨(n), (c)⟩]⟩, [(ms), (ps), (ls), (bs), (js), [(.int .i64 ((f i).at_)), (.int .i64 ((f i).place)), (.int .i64 ((f i).lo)), (.int .i64 ((f i).hi))]], []⟩))) ∧
((decide (IntKind.i64.wrap (IntKind.i64.wrap ((f j).at_ + lg j) + wkI p (f i) (f j)) ≤ (f i).at_)) = false → (((r) = true → ((((↑i : Int) == (↑j : Int)) = true → R ((0 : Nat)) .normal ⟨⟨[(.int .i64 (e1)), (.int .i64 (e2)), (.bool true), (.int .i64 (a)), (.int .i64 (u)), (.int .i64 ((↑i : Int))), (.int .i64 ((↑n : Int))), (.int .i64 ((↑i : Int))), (.int .i64 ((↑n : Int))), (.int .i64 (IntKind.i64.wrap ((↑j : Int) + (1 : Int)))), (.int .i64 (p))], [⟨(n), (n)⟩, ⟨(n), (n)⟩, ⟨(n), (n)⟩, ⟨(n), (n)⟩, ⟨(n), (c)⟩, ⟨(n), (c)⟩, ⟨(n), (c)⟩]⟩, [(ms), (ps), (ls), (bs), (js), [(.int .i64 ((f i).at_)), (.int .i64 ((f i).place)), (.int .i64 ((f i).lo)), (.int .i64 ((f i).hi))]], []⟩) ∧
(((↑i : Int) == (↑j : Int)) = false → ((((((0 : Int) ≤ (↑i : Int))) ∧ (((↑i : Int) < (↑n : Int)))) ∧ (((.pointer (.some ⟨((6 : Nat)), ((0 : Nat) + i * (1 : Nat)), .none⟩)) : Value) = (.pointer (.some ⟨((6 : Nat)), ((0 : Nat) + i * (1 : Nat)), .none⟩)))) ∧
(((ps[(0 : Nat) + i * (1 : Nat)]? = some (.int .i64 (g i)))) ∧
((((((0 : Int) ≤ (↑j : Int))) ∧ (((↑j : Int) < (↑n : Int)))) ∧ (((.pointer (.some ⟨((6 : Nat)), ((0 : Nat) + j * (1 : Nat)), .none⟩)) : Value) = (.pointer (.some ⟨((6 : Nat)), ((0 : Nat) + j * (1 : Nat)), .none⟩)))) ∧
(((ps[(0 : Nat) + j * (1 : Nat)]? = some (.int .i64 (g j)))) ∧
(((g i != g j) = true → R ((0 : Nat)) .normal ⟨⟨[(.int .i64 (e1)), (.int .i64 (e2)), (.bool true), (.int .i64 (a)), (.int .i64 (u)), (.int .i64 ((↑i : Int))), (.int .i64 ((↑n : Int))), (.int .i64 ((↑i : Int))), (.int .i64 ((↑n : Int))), (.int .i64 (IntKind.i64.wrap ((↑j : Int) + (1 : Int)))), (.int .i64 (p))], [⟨(n), (n)⟩, ⟨(n), (n)⟩, ⟨(n), (n)⟩, ⟨(n), (n)⟩, ⟨(n), (c)⟩, ⟨(n), (c)⟩, ⟨(n), (c)⟩]⟩, [(ms), (ps), (ls), (bs), (js), [(.int .i64 ((f i).at_)), (.int .i64 ((f i).place)), (.int .i64 ((f i).lo)), (.int .i64 ((f i).hi))]], []⟩) ∧
((g i != g j) = false → R ((0 : Nat)) .normal ⟨⟨[(.int .i64 (e1)), (.int .i64 (e2)), (.bool true), (.int .i64 (a)), (.int .i64 (u)), (.int .i64 ((↑i : Int))), (.int .i64 ((↑n : Int))), (.int .i64 ((↑i : Int))), (.int .i64 ((↑n : Int))), (.int .i64 (IntKind.i64.wrap ((↑j : Int) + (1 : Int)))), (.int .i64 (p))], [⟨(n), (n)⟩, ⟨(n), (n)⟩, ⟨(n), (n)⟩, ⟨(n), (n)⟩, ⟨(n), (c)⟩, ⟨(n), (c)⟩, ⟨(n), (c)⟩]⟩, [(ms), (ps), (ls), (bs), (js), [(.int .i64 ((f i).at_)), (.int .i64 ((f i).place)), (.int .i64 ((f i).lo)), (.int .i64 ((f i).hi))]], []⟩))))))))) ∧
((r) = false → R ((0 : Nat)) .normal ⟨⟨[(.int .i64 (e1)), (.int .i64 (e2)), (.bool false), (.int .i64 (a)), (.int .i64 (u)), (.int .i64 ((↑i : Int))), (.int .i64 ((↑n : Int))), (.int .i64 ((↑i : Int))), (.int .i64 ((↑n : Int))), (.int .i64 (IntKind.i64.wrap ((↑j : Int) + (1 : Int)))), (.int .i64 (p))], [⟨(n), (n)⟩, ⟨(n), (n)⟩, ⟨(n), (n)⟩, ⟨(n), (n)⟩, ⟨(n), (c)⟩, ⟨(n), (c)⟩, ⟨(n), (c)⟩]⟩, [(ms), (ps), (ls), (bs), (js), [(.int .i64 ((f i).at_)), (.int .i64 ((f i).place)), (.int .i64 ((f i).lo)), (.int .i64 ((f i).hi))]], []⟩))))))))))) ∧
((folV p n f i j == (2 : Int)) = false → (((folV p n f i j == (0 : Int)) = true → R ((0 : Nat)) .ret ⟨⟨[(.int .i64 (e1)), (.int .i64 (e2)), (.bool (r)), (.int .i64 (a)), (.int .i64 (u)), (.int .i64 ((↑i : Int))), (.int .i64 ((↑n : Int))), (.int .i64 ((↑i : Int))), (.int .i64 ((↑n : Int))), (.int .i64 ((↑j : Int))), (.int .i64 (p))], [⟨(n), (n)⟩, ⟨(n), (n)⟩, ⟨(n), (n)⟩, ⟨(n), (n)⟩, ⟨(n), (c)⟩, ⟨(n), (c)⟩, ⟨(n), (c)⟩]⟩, [(ms), (ps), (ls), (bs), (js), [(.int .i64 ((f i).at_)), (.int .i64 ((f i).place)), (.int .i64 ((f i).lo)), (.int .i64 ((f i).hi))]], []⟩) ∧
((folV p n f i j == (0 : Int)) = false → ((((((0 : Int) ≤ (↑j : Int))) ∧ (((↑j : Int) < (↑n : Int)))) ∧ (((.pointer (.some ⟨((7 : Nat)), ((0 : Nat) + j * (1 : Nat)), .none⟩)) : Value) = (.pointer (.some ⟨((7 : Nat)), ((0 : Nat) + j * (1 : Nat)), .none⟩)))) ∧
(((ls[(0 : Nat) + j * (1 : Nat)]? = some (.int .i64 (lg j)))) ∧
((ConOK Try.prog ((17 : Nat)) (C17x p n c f)) ∧ (Con.pre (C17x p n c f) ⟨⟨[(.int .i64 (p)), (.int .i64 ((↑i : Int))), (.int .i64 ((↑j : Int)))], [⟨(n), (c)⟩]⟩, [(ms)]⟩) ∧ 
(((((some (.int .i64 ((f i).at_)) : Option Value) = some (.int .i64 ((f i).at_)))) ∧ (((ls[(0 : Nat) + j * (1 : Nat)]? = some (.int .i64 (lg j)))) ∧ ((((some (.int .i64 ((f j).at_)) : Option Value) = some (.int .i64 ((f j).at_)))) ∧ (True)))) ∧ 
(((decide (IntKind.i64.wrap (IntKind.i64.wrap ((f j).at_ + lg j) + wkI p (f i) (f j)) ≤ (f i).at_)) = true → (((r) = true → ((((↑i : Int) == (↑j : Int)) = true → R ((0 : Nat)) .normal ⟨⟨[(.int .i64 (e1)), (.int .i64 (e2)), (.bool true), (.int .i64 (a)), (.int .i64 (u)), (.int .i64 ((↑i : Int))), (.int .i64 ((↑n : Int))), (.int .i64 ((↑i : Int))), (.int .i64 ((↑n : Int))), (.int .i64 (IntKind.i64.wrap ((↑j : Int) + (1 : Int)))), (.int .i64 (p))], [⟨(n), (n)⟩, ⟨(n), (n)⟩, ⟨(n), (n)⟩, ⟨(n), (n)⟩, ⟨(n), (c)⟩, ⟨(n), (c)⟩, ⟨(n), (c)⟩]⟩, [(ms), (ps), (ls), (bs), (js), [(.int .i64 ((f i).at_)), (.int .i64 ((f i).place)), (.int .i64 ((f i).lo)), (.int .i64 ((f i).hi))]], []⟩) ∧
(((↑i : Int) == (↑j : Int)) = false → ((((((0 : Int) ≤ (↑i : Int))) ∧ (((↑i : Int) < (↑n : Int)))) ∧ (((.pointer (.some ⟨((6 : Nat)), ((0 : Nat) + i * (1 : Nat)), .none⟩)) : Value) = (.pointer (.some ⟨((6 : Nat)), ((0 : Nat) + i * (1 : Nat)), .none⟩)))) ∧
(((ps[(0 : Nat) + i * (1 : Nat)]? = some (.int .i64 (g i)))) ∧
((((((0 : Int) ≤ (↑j : Int))) ∧ (((↑j : Int) < (↑n : Int)))) ∧ (((.pointer (.some ⟨((6 : Nat)), ((0 : Nat) + j * (1 : Nat)), .none⟩)) : Value) = (.pointer (.some ⟨((6 : Nat)), ((0 : Nat) + j * (1 : Nat)), .none⟩)))) ∧
(((ps[(0 : Nat) + j * (1 : Nat)]? = some (.int .i64 (g j)))) ∧
(((g i != g j) = true → R ((0 : Nat)) .normal ⟨⟨[(.int .i64 (e1)), (.int .i64 (e2)), (.bool true), (.int .i64 (a)), (.int .i64 (u)), (.int .i64 ((↑i : Int))), (.int .i64 ((↑n : Int))), (.int .i64 ((↑i : Int))), (.int .i64 ((↑n : Int))), (.int .i64 (IntKind.i64.wrap ((↑j : Int) + (1 : Int)))), (.int .i64 (p))], [⟨(n), (n)⟩, ⟨(n), (n)⟩, ⟨(n), (n)⟩, ⟨(n), (n)⟩, ⟨(n), (c)⟩, ⟨(n), (c)⟩, ⟨(n), (c)⟩]⟩, [(ms), (ps), (ls), (bs), (js), [(.int .i64 ((f i).at_)), (.int .i64 ((f i).place)), (.int .i64 ((f i).lo)), (.int .i64 ((f i).hi))]], []⟩) ∧
((g i != g j) = false → R ((0 : Nat)) .normal ⟨⟨[(.int .i64 (e1)), (.int .i64 (e2)), (.bool true), (.int .i64 (a)), (.int .i64 (u)), (.int .i64 ((↑i : Int))), (.int .i64 ((↑n : Int))), (.int .i64 ((↑i : Int))), (.int .i64 ((↑n : Int))), (.int .i64 (IntKind.i64.wrap ((↑j : Int) + (1 : Int)))), (.int .i64 (p))], [⟨(n), (n)⟩, ⟨(n), (n)⟩, ⟨(n), (n)⟩, ⟨(n), (n)⟩, ⟨(n), (c)⟩, ⟨(n), (c)⟩, ⟨(n), (c)⟩]⟩, [(ms), (ps), (ls), (bs), (js), [(.int .i64 ((f i).at_)), (.int .i64 ((f i).place)), (.int .i64 ((f i).lo)), (.int .i64 ((f i).hi))]], []⟩))))))))) ∧
((r) = false → R ((0 : Nat)) .normal ⟨⟨[(.int .i64 (e1)), (.int .i64 (e2)), (.bool false), (.int .i64 (a)), (.int .i64 (u)), (.int .i64 ((↑i : Int))), (.int .i64 ((↑n : Int))), (.int .i64 ((↑i : Int))), (.int .i64 ((↑n : Int))), (.int .i64 (IntKind.i64.wrap ((↑j : Int) + (1 : Int)))), (.int .i64 (p))], [⟨(n), (n)⟩, ⟨(n), (n)⟩, ⟨(n), (n)⟩, ⟨(n), (n)⟩, ⟨(n), (c)⟩, ⟨(n), (c)⟩, ⟨(n), (c)⟩]⟩, [(ms), (ps), (ls), (bs), (js), [(.int .i64 ((f i).at_)), (.int .i64 ((f i).place)), (.int .i64 ((f i).lo)), (.int .i64 ((f i).hi))]], []⟩))) ∧
((decide (IntKind.i64.wrap (IntKind.i64.wrap ((f j).at_ + lg j) + wkI p (f i) (f j)) ≤ (f i).at_)) = false → (((r) = true → ((((↑i : Int) == (↑j : Int)) = true → R ((0 : Nat)) .normal ⟨⟨[(.int .i64 (e1)), (.int .i64 (e2)), (.bool true), (.int .i64 (a)), (.int .i64 (u)), (.int .i64 ((↑i : Int))), (.int .i64 ((↑n : Int))), (.int .i64 ((↑i : Int))), (.int .i64 ((↑n : Int))), (.int .i64 (IntKind.i64.wrap ((↑j : Int) + (1 : Int)))), (.int .i64 (p))], [⟨(n), (n)⟩, ⟨(n), (n)⟩, ⟨(n), (n)⟩, ⟨(n), (n)⟩, ⟨(n), (c)⟩, ⟨(n), (c)⟩, ⟨(n), (c)⟩]⟩, [(ms), (ps), (ls), (bs), (js), [(.int .i64 ((f i).at_)), (.int .i64 ((f i).place)), (.int .i64 ((f i).lo)), (.int .i64 ((f i).hi))]], []⟩) ∧
(((↑i : Int) == (↑j : Int)) = false → ((((((0 : Int) ≤ (↑i : Int))) ∧ (((↑i : Int) < (↑n : Int)))) ∧ (((.pointer (.some ⟨((6 : Nat)), ((0 : Nat) + i * (1 : Nat)), .none⟩)) : Value) = (.pointer (.some ⟨((6 : Nat)), ((0 : Nat) + i * (1 : Nat)), .none⟩)))) ∧
(((ps[(0 : Nat) + i * (1 : Nat)]? = some (.int .i64 (g i)))) ∧
((((((0 : Int) ≤ (↑j : Int))) ∧ (((↑j : Int) < (↑n : Int)))) ∧ (((.pointer (.some ⟨((6 : Nat)), ((0 : Nat) + j * (1 : Nat)), .none⟩)) : Value) = (.pointer (.some ⟨((6 : Nat)), ((0 : Nat) + j * (1 : Nat)), .none⟩)))) ∧
(((ps[(0 : Nat) + j * (1 : Nat)]? = some (.int .i64 (g j)))) ∧
(((g i != g j) = true → R ((0 : Nat)) .normal ⟨⟨[(.int .i64 (e1)), (.int .i64 (e2)), (.bool true), (.int .i64 (a)), (.int .i64 (u)), (.int .i64 ((↑i : Int))), (.int .i64 ((↑n : Int))), (.int .i64 ((↑i : Int))), (.int .i64 ((↑n : Int))), (.int .i64 (IntKind.i64.wrap ((↑j : Int) + (1 : Int)))), (.int .i64 (p))], [⟨(n), (n)⟩, ⟨(n), (n)⟩, ⟨(n), (n)⟩, ⟨(n), (n)⟩, ⟨(n), (c)⟩, ⟨(n), (c)⟩, ⟨(n), (c)⟩]⟩, [(ms), (ps), (ls), (bs), (js), [(.int .i64 ((f i).at_)), (.int .i64 ((f i).place)), (.int .i64 ((f i).lo)), (.int .i64 ((f i).hi))]], []⟩) ∧
((g i != g j) = false → R ((0 : Nat)) .normal ⟨⟨[(.int .i64 (e1)), (.int .i64 (e2)), (.bool true), (.int .i64 (a)), (.int .i64 (u)), (.int .i64 ((↑i : Int))), (.int .i64 ((↑n : Int))), (.int .i64 ((↑i : Int))), (.int .i64 ((↑n : Int))), (.int .i64 (IntKind.i64.wrap ((↑j : Int) + (1 : Int)))), (.int .i64 (p))], [⟨(n), (n)⟩, ⟨(n), (n)⟩, ⟨(n), (n)⟩, ⟨(n), (n)⟩, ⟨(n), (c)⟩, ⟨(n), (c)⟩, ⟨(n), (c)⟩]⟩, [(ms), (ps), (ls), (bs), (js), [(.int .i64 ((f i).at_)), (.int .i64 ((f i).place)), (.int .i64 ((f i).lo)), (.int .i64 ((f i).hi))]], []⟩))))))))) ∧
((r) = false → R ((0 : Nat)) .normal ⟨⟨[(.int .i64 (e1)), (.int .i64 (e2)), (.bool false), (.int .i64 (a)), (.int .i64 (u)), (.int .i64 ((↑i : Int))), (.int .i64 ((↑n : Int))), (.int .i64 ((↑i : Int))), (.int .i64 ((↑n : Int))), (.int .i64 (IntKind.i64.wrap ((↑j : Int) + (1 : Int)))), (.int .i64 (p))], [⟨(n), (n)⟩, ⟨(n), (n)⟩, ⟨(n), (n)⟩, ⟨(n), (n)⟩, ⟨(n), (c)⟩, ⟨(n), (c)⟩, ⟨(n), (c)⟩]⟩, [(ms), (ps), (ls), (bs), (js), [(.int .i64 ((f i).at_)), (.int .i64 ((f i).place)), (.int .i64 ((f i).lo)), (.int .i64 ((f i).hi))]], []⟩)))))))))))))) ∧
((decide (IntKind.i64.wrap (IntKind.i64.wrap ((f i).at_ + lg i) + wkI p (f i) (f j)) ≤ (f j).at_)) = false → ((ConOK Try.prog ((18 : Nat)) (C18x p n c f)) ∧ (Con.pre (C18x p n c f) ⟨⟨[(.int .i64 (p)), (.int .i64 ((↑i : Int))), (.int .i64 ((↑j : Int)))], [⟨(n), (c)⟩]⟩, [(ms)]⟩) ∧ 
(((folV p n f i j == (2 : Int)) = true → R ((0 : Nat)) .ret ⟨⟨[(.int .i64 (e1)), (.int .i64 (e2)), (.bool (r)), (.int .i64 (a)), (.int .i64 (u)), (.int .i64 ((↑i : Int))), (.int .i64 ((↑n : Int))), (.int .i64 ((↑i : Int))), (.int .i64 ((↑n : Int))), (.int .i64 ((↑j : Int))), (.int .i64 (p))], [⟨(n), (n)⟩, ⟨(n), (n)⟩, ⟨(n), (n)⟩, ⟨(n), (n)⟩, ⟨(n), (c)⟩, ⟨(n), (c)⟩, ⟨(n), (c)⟩]⟩, [(ms), (ps), (ls), (bs), (js), [(.int .i64 ((f i).at_)), (.int .i64 ((f i).place)), (.int .i64 ((f i).lo)), (.int .i64 ((f i).hi))]], []⟩) ∧
((folV p n f i j == (2 : Int)) = false → (((folV p n f i j == (0 : Int)) = true → ((((((0 : Int) ≤ (↑j : Int))) ∧ (((↑j : Int) < (↑n : Int)))) ∧ (((.pointer (.some ⟨((7 : Nat)), ((0 : Nat) + j * (1 : Nat)), .none⟩)) : Value) = (.pointer (.some ⟨((7 : Nat)), ((0 : Nat) + j * (1 : Nat)), .none⟩)))) ∧
(((ls[(0 : Nat) + j * (1 : Nat)]? = some (.int .i64 (lg j)))) ∧
((ConOK Try.prog ((17 : Nat)) (C17x p n c f)) ∧ (Con.pre (C17x p n c f) ⟨⟨[(.int .i64 (p)), (.int .i64 ((↑i : Int))), (.int .i64 ((↑j : Int)))], [⟨(n), (c)⟩]⟩, [(ms)]⟩) ∧ 
(((((some (.int .i64 ((f i).at_)) : Option Value) = some (.int .i64 ((f i).at_)))) ∧ (((ls[(0 : Nat) + j * (1 : Nat)]? = some (.int .i64 (lg j)))) ∧ ((((some (.int .i64 ((f j).at_)) : Option Value) = some (.int .i64 ((f j).at_)))) ∧ (True)))) ∧ 
(((decide (IntKind.i64.wrap (IntKind.i64.wrap ((f j).at_ + lg j) + wkI p (f i) (f j)) ≤ (f i).at_)) = true → (((r) = true → ((((↑i : Int) == (↑j : Int)) = true → R ((0 : Nat)) .normal ⟨⟨[(.int .i64 (e1)), (.int .i64 (e2)), (.bool true), (.int .i64 (a)), (.int .i64 (u)), (.int .i64 ((↑i : Int))), (.int .i64 ((↑n : Int))), (.int .i64 ((↑i : Int))), (.int .i64 ((↑n : Int))), (.int .i64 (IntKind.i64.wrap ((↑j : Int) + (1 : Int)))), (.int .i64 (p))], [⟨(n), (n)⟩, ⟨(n), (n)⟩, ⟨(n), (n)⟩, ⟨(n), (n)⟩, ⟨(n), (c)⟩, ⟨(n), (c)⟩, ⟨(n), (c)⟩]⟩, [(ms), (ps), (ls), (bs), (js), [(.int .i64 ((f i).at_)), (.int .i64 ((f i).place)), (.int .i64 ((f i).lo)), (.int .i64 ((f i).hi))]], []⟩) ∧
(((↑i : Int) == (↑j : Int)) = false → ((((((0 : Int) ≤ (↑i : Int))) ∧ (((↑i : Int) < (↑n : Int)))) ∧ (((.pointer (.some ⟨((6 : Nat)), ((0 : Nat) + i * (1 : Nat)), .none⟩)) : Value) = (.pointer (.some ⟨((6 : Nat)), ((0 : Nat) + i * (1 : Nat)), .none⟩)))) ∧
(((ps[(0 : Nat) + i * (1 : Nat)]? = some (.int .i64 (g i)))) ∧
((((((0 : Int) ≤ (↑j : Int))) ∧ (((↑j : Int) < (↑n : Int)))) ∧ (((.pointer (.some ⟨((6 : Nat)), ((0 : Nat) + j * (1 : Nat)), .none⟩)) : Value) = (.pointer (.some ⟨((6 : Nat)), ((0 : Nat) + j * (1 : Nat)), .none⟩)))) ∧
(((ps[(0 : Nat) + j * (1 : Nat)]? = some (.int .i64 (g j)))) ∧
(((g i != g j) = true → R ((0 : Nat)) .normal ⟨⟨[(.int .i64 (e1)), (.int .i64 (e2)), (.bool true), (.int .i64 (a)), (.int .i64 (u)), (.int .i64 ((↑i : Int))), (.int .i64 ((↑n : Int))), (.int .i64 ((↑i : Int))), (.int .i64 ((↑n : Int))), (.int .i64 (IntKind.i64.wrap ((↑j : Int) + (1 : Int)))), (.int .i64 (p))], [⟨(n), (n)⟩, ⟨(n), (n)⟩, ⟨(n), (n)⟩, ⟨(n), (n)⟩, ⟨(n), (c)⟩, ⟨(n), (c)⟩, ⟨(n), (c)⟩]⟩, [(ms), (ps), (ls), (bs), (js), [(.int .i64 ((f i).at_)), (.int .i64 ((f i).place)), (.int .i64 ((f i).lo)), (.int .i64 ((f i).hi))]], []⟩) ∧
((g i != g j) = false → R ((0 : Nat)) .normal ⟨⟨[(.int .i64 (e1)), (.int .i64 (e2)), (.bool true), (.int .i64 (a)), (.int .i64 (u)), (.int .i64 ((↑i : Int))), (.int .i64 ((↑n : Int))), (.int .i64 ((↑i : Int))), (.int .i64 ((↑n : Int))), (.int .i64 (IntKind.i64.wrap ((↑j : Int) + (1 : Int)))), (.int .i64 (p))], [⟨(n), (n)⟩, ⟨(n), (n)⟩, ⟨(n), (n)⟩, ⟨(n), (n)⟩, ⟨(n), (c)⟩, ⟨(n), (c)⟩, ⟨(n), (c)⟩]⟩, [(ms), (ps), (ls), (bs), (js), [(.int .i64 ((f i).at_)), (.int .i64 ((f i).place)), (.int .i64 ((f i).lo)), (.int .i64 ((f i).hi))]], []⟩))))))))) ∧
((r) = false → R ((0 : Nat)) .normal ⟨⟨[(.int .i64 (e1)), (.int .i64 (e2)), (.bool false), (.int .i64 (a)), (.int .i64 (u)), (.int .i64 ((↑i : Int))), (.int .i64 ((↑n : Int))), (.int .i64 ((↑i : Int))), (.int .i64 ((↑n : Int))), (.int .i64 (IntKind.i64.wrap ((↑j : Int) + (1 : Int)))), (.int .i64 (p))], [⟨(n), (n)⟩, ⟨(n), (n)⟩, ⟨(n), (n)⟩, ⟨(n), (n)⟩, ⟨(n), (c)⟩, ⟨(n), (c)⟩, ⟨(n), (c)⟩]⟩, [(ms), (ps), (ls), (bs), (js), [(.int .i64 ((f i).at_)), (.int .i64 ((f i).place)), (.int .i64 ((f i).lo)), (.int .i64 ((f i).hi))]], []⟩))) ∧
((decide (IntKind.i64.wrap (IntKind.i64.wrap ((f j).at_ + lg j) + wkI p (f i) (f j)) ≤ (f i).at_)) = false → (((r) = true → ((((↑i : Int) == (↑j : Int)) = true → R ((0 : Nat)) .normal ⟨⟨[(.int .i64 (e1)), (.int .i64 (e2)), (.bool true), (.int .i64 (a)), (.int .i64 (u)), (.int .i64 ((↑i : Int))), (.int .i64 ((↑n : Int))), (.int .i64 ((↑i : Int))), (.int .i64 ((↑n : Int))), (.int .i64 (IntKind.i64.wrap ((↑j : Int) + (1 : Int)))), (.int .i64 (p))], [⟨(n), (n)⟩, ⟨(n), (n)⟩, ⟨(n), (n)⟩, ⟨(n), (n)⟩, ⟨(n), (c)⟩, ⟨(n), (c)⟩, ⟨(n), (c)⟩]⟩, [(ms), (ps), (ls), (bs), (js), [(.int .i64 ((f i).at_)), (.int .i64 ((f i).place)), (.int .i64 ((f i).lo)), (.int .i64 ((f i).hi))]], []⟩) ∧
(((↑i : Int) == (↑j : Int)) = false → ((((((0 : Int) ≤ (↑i : Int))) ∧ (((↑i : Int) < (↑n : Int)))) ∧ (((.pointer (.some ⟨((6 : Nat)), ((0 : Nat) + i * (1 : Nat)), .none⟩)) : Value) = (.pointer (.some ⟨((6 : Nat)), ((0 : Nat) + i * (1 : Nat)), .none⟩)))) ∧
(((ps[(0 : Nat) + i * (1 : Nat)]? = some (.int .i64 (g i)))) ∧
((((((0 : Int) ≤ (↑j : Int))) ∧ (((↑j : Int) < (↑n : Int)))) ∧ (((.pointer (.some ⟨((6 : Nat)), ((0 : Nat) + j * (1 : Nat)), .none⟩)) : Value) = (.pointer (.some ⟨((6 : Nat)), ((0 : Nat) + j * (1 : Nat)), .none⟩)))) ∧
(((ps[(0 : Nat) + j * (1 : Nat)]? = some (.int .i64 (g j)))) ∧
(((g i != g j) = true → R ((0 : Nat)) .normal ⟨⟨[(.int .i64 (e1)), (.int .i64 (e2)), (.bool true), (.int .i64 (a)), (.int .i64 (u)), (.int .i64 ((↑i : Int))), (.int .i64 ((↑n : Int))), (.int .i64 ((↑i : Int))), (.int .i64 ((↑n : Int))), (.int .i64 (IntKind.i64.wrap ((↑j : Int) + (1 : Int)))), (.int .i64 (p))], [⟨(n), (n)⟩, ⟨(n), (n)⟩, ⟨(n), (n)⟩, ⟨(n), (n)⟩, ⟨(n), (c)⟩, ⟨(n), (c)⟩, ⟨(n), (c)⟩]⟩, [(ms), (ps), (ls), (bs), (js), [(.int .i64 ((f i).at_)), (.int .i64 ((f i).place)), (.int .i64 ((f i).lo)), (.int .i64 ((f i).hi))]], []⟩) ∧
((g i != g j) = false → R ((0 : Nat)) .normal ⟨⟨[(.int .i64 (e1)), (.int .i64 (e2)), (.bool false), (.int .i64 (a)), (.int .i64 (u)), (.int .i64 ((↑i : Int))), (.int .i64 ((↑n : Int))), (.int .i64 ((↑i : Int))), (.int .i64 ((↑n : Int))), (.int .i64 (IntKind.i64.wrap ((↑j : Int) + (1 : Int)))), (.int .i64 (p))], [⟨(n), (n)⟩, ⟨(n), (n)⟩, ⟨(n), (n)⟩, ⟨(n), (n)⟩, ⟨(n), (c)⟩, ⟨(n), (c)⟩, ⟨(n), (c)⟩]⟩, [(ms), (ps), (ls), (bs), (js), [(.int .i64 ((f i).at_)), (.int .i64 ((f i).place)), (.int .i64 ((f i).lo)), (.int .i64 ((f i).hi))]], []⟩))))))))) ∧
((r) = false → R ((0 : Nat)) .normal ⟨⟨[(.int .i64 (e1)), (.int .i64 (e2)), (.bool false), (.int .i64 (a)), (.int .i64 (u)), (.int .i64 ((↑i : Int))), (.int .i64 ((↑n : Int))), (.int .i64 ((↑i : Int))), (.int .i64 ((↑n : Int))), (.int .i64 (IntKind.i64.wrap ((↑j : Int) + (1 : Int)))), (.int .i64 (p))], [⟨(n), (n)⟩, ⟨(n), (n)⟩, ⟨(n), (n)⟩, ⟨(n), (n)⟩, ⟨(n), (c)⟩, ⟨(n), (c)⟩, ⟨(n), (c)⟩]⟩, [(ms), (ps), (ls), (bs), (js), [(.int .i64 ((f i).at_)), (.int .i64 ((f i).place)), (.int .i64 ((f i).lo)), (.int .i64 ((f i).hi))]], []⟩))))))))) ∧
((folV p n f i j == (0 : Int)) = false → ((((((0 : Int) ≤ (↑j : Int))) ∧ (((↑j : Int) < (↑n : Int)))) ∧ (((.pointer (.some ⟨((7 : Nat)), ((0 : Nat) + j * (1 : Nat)), .none⟩)) : Value) = (.pointer (.some ⟨((7 : Nat)), ((0 : Nat) + j * (1 : Nat)), .none⟩)))) ∧
(((ls[(0 : Nat) + j * (1 : Nat)]? = some (.int .i64 (lg j)))) ∧
((ConOK Try.prog ((17 : Nat)) (C17x p n c f)) ∧ (Con.pre (C17x p n c f) ⟨⟨[(.int .i64 (p)), (.int .i64 ((↑i : Int))), (.int .i64 ((↑j : Int)))], [⟨(n), (c)⟩]⟩, [(ms)]⟩) ∧ 
(((((some (.int .i64 ((f i).at_)) : Option Value) = some (.int .i64 ((f i).at_)))) ∧ (((ls[(0 : Nat) + j * (1 : Nat)]? = some (.int .i64 (lg j)))) ∧ ((((some (.int .i64 ((f j).at_)) : Option Value) = some (.int .i64 ((f j).at_)))) ∧ (True)))) ∧ 
(((decide (IntKind.i64.wrap (IntKind.i64.wrap ((f j).at_ + lg j) + wkI p (f i) (f j)) ≤ (f i).at_)) = true → (((r) = true → ((((↑i : Int) == (↑j : Int)) = true → R ((0 : Nat)) .normal ⟨⟨[(.int .i64 (e1)), (.int .i64 (e2)), (.bool true), (.int .i64 (a)), (.int .i64 (u)), (.int .i64 ((↑i : Int))), (.int .i64 ((↑n : Int))), (.int .i64 ((↑i : Int))), (.int .i64 ((↑n : Int))), (.int .i64 (IntKind.i64.wrap ((↑j : Int) + (1 : Int)))), (.int .i64 (p))], [⟨(n), (n)⟩, ⟨(n), (n)⟩, ⟨(n), (n)⟩, ⟨(n), (n)⟩, ⟨(n), (c)⟩, ⟨(n), (c)⟩, ⟨(n), (c)⟩]⟩, [(ms), (ps), (ls), (bs), (js), [(.int .i64 ((f i).at_)), (.int .i64 ((f i).place)), (.int .i64 ((f i).lo)), (.int .i64 ((f i).hi))]], []⟩) ∧
(((↑i : Int) == (↑j : Int)) = false → ((((((0 : Int) ≤ (↑i : Int))) ∧ (((↑i : Int) < (↑n : Int)))) ∧ (((.pointer (.some ⟨((6 : Nat)), ((0 : Nat) + i * (1 : Nat)), .none⟩)) : Value) = (.pointer (.some ⟨((6 : Nat)), ((0 : Nat) + i * (1 : Nat)), .none⟩)))) ∧
(((ps[(0 : Nat) + i * (1 : Nat)]? = some (.int .i64 (g i)))) ∧
((((((0 : Int) ≤ (↑j : Int))) ∧ (((↑j : Int) < (↑n : Int)))) ∧ (((.pointer (.some ⟨((6 : Nat)), ((0 : Nat) + j * (1 : Nat)), .none⟩)) : Value) = (.pointer (.some ⟨((6 : Nat)), ((0 : Nat) + j * (1 : Nat)), .none⟩)))) ∧
(((ps[(0 : Nat) + j * (1 : Nat)]? = some (.int .i64 (g j)))) ∧
(((g i != g j) = true → R ((0 : Nat)) .normal ⟨⟨[(.int .i64 (e1)), (.int .i64 (e2)), (.bool true), (.int .i64 (a)), (.int .i64 (u)), (.int .i64 ((↑i : Int))), (.int .i64 ((↑n : Int))), (.int .i64 ((↑i : Int))), (.int .i64 ((↑n : Int))), (.int .i64 (IntKind.i64.wrap ((↑j : Int) + (1 : Int)))), (.int .i64 (p))], [⟨(n), (n)⟩, ⟨(n), (n)⟩, ⟨(n), (n)⟩, ⟨(n), (n)⟩, ⟨(n), (c)⟩, ⟨(n), (c)⟩, ⟨(n), (c)⟩]⟩, [(ms), (ps), (ls), (bs), (js), [(.int .i64 ((f i).at_)), (.int .i64 ((f i).place)), (.int .i64 ((f i).lo)), (.int .i64 ((f i).hi))]], []⟩) ∧
((g i != g j) = false → R ((0 : Nat)) .normal ⟨⟨[(.int .i64 (e1)), (.int .i64 (e2)), (.bool true), (.int .i64 (a)), (.int .i64 (u)), (.int .i64 ((↑i : Int))), (.int .i64 ((↑n : Int))), (.int .i64 ((↑i : Int))), (.int .i64 ((↑n : Int))), (.int .i64 (IntKind.i64.wrap ((↑j : Int) + (1 : Int)))), (.int .i64 (p))], [⟨(n), (n)⟩, ⟨(n), (n)⟩, ⟨(n), (n)⟩, ⟨(n), (n)⟩, ⟨(n), (c)⟩, ⟨(n), (c)⟩, ⟨(n), (c)⟩]⟩, [(ms), (ps), (ls), (bs), (js), [(.int .i64 ((f i).at_)), (.int .i64 ((f i).place)), (.int .i64 ((f i).lo)), (.int .i64 ((f i).hi))]], []⟩))))))))) ∧
((r) = false → R ((0 : Nat)) .normal ⟨⟨[(.int .i64 (e1)), (.int .i64 (e2)), (.bool false), (.int .i64 (a)), (.int .i64 (u)), (.int .i64 ((↑i : Int))), (.int .i64 ((↑n : Int))), (.int .i64 ((↑i : Int))), (.int .i64 ((↑n : Int))), (.int .i64 (IntKind.i64.wrap ((↑j : Int) + (1 : Int)))), (.int .i64 (p))], [⟨(n), (n)⟩, ⟨(n), (n)⟩, ⟨(n), (n)⟩, ⟨(n), (n)⟩, ⟨(n), (c)⟩, ⟨(n), (c)⟩, ⟨(n), (c)⟩]⟩, [(ms), (ps), (ls), (bs), (js), [(.int .i64 ((f i).at_)), (.int .i64 ((f i).place)), (.int .i64 ((f i).lo)), (.int .i64 ((f i).hi))]], []⟩))) ∧
((decide (IntKind.i64.wrap (IntKind.i64.wrap ((f j).at_ + lg j) + wkI p (f i) (f j)) ≤ (f i).at_)) = false → (((r) = true → ((((↑i : Int) == (↑j : Int)) = true → R ((0 : Nat)) .normal ⟨⟨[(.int .i64 (e1)), (.int .i64 (e2)), (.bool true), (.int .i64 (a)), (.int .i64 (u)), (.int .i64 ((↑i : Int))), (.int .i64 ((↑n : Int))), (.int .i64 ((↑i : Int))), (.int .i64 ((↑n : Int))), (.int .i64 (IntKind.i64.wrap ((↑j : Int) + (1 : Int)))), (.int .i64 (p))], [⟨(n), (n)⟩, ⟨(n), (n)⟩, ⟨(n), (n)⟩, ⟨(n), (n)⟩, ⟨(n), (c)⟩, ⟨(n), (c)⟩, ⟨(n), (c)⟩]⟩, [(ms), (ps), (ls), (bs), (js), [(.int .i64 ((f i).at_)), (.int .i64 ((f i).place)), (.int .i64 ((f i).lo)), (.int .i64 ((f i).hi))]], []⟩) ∧
(((↑i : Int) == (↑j : Int)) = false → ((((((0 : Int) ≤ (↑i : Int))) ∧ (((↑i : Int) < (↑n : Int)))) ∧ (((.pointer (.some ⟨((6 : Nat)), ((0 : Nat) + i * (1 : Nat)), .none⟩)) : Value) = (.pointer (.some ⟨((6 : Nat)), ((0 : Nat) + i * (1 : Nat)), .none⟩)))) ∧
(((ps[(0 : Nat) + i * (1 : Nat)]? = some (.int .i64 (g i)))) ∧
((((((0 : Int) ≤ (↑j : Int))) ∧ (((↑j : Int) < (↑n : Int)))) ∧ (((.pointer (.some ⟨((6 : Nat)), ((0 : Nat) + j * (1 : Nat)), .none⟩)) : Value) = (.pointer (.some ⟨((6 : Nat)), ((0 : Nat) + j * (1 : Nat)), .none⟩)))) ∧
(((ps[(0 : Nat) + j * (1 : Nat)]? = some (.int .i64 (g j)))) ∧
(((g i != g j) = true → R ((0 : Nat)) .normal ⟨⟨[(.int .i64 (e1)), (.int .i64 (e2)), (.bool true), (.int .i64 (a)), (.int .i64 (u)), (.int .i64 ((↑i : Int))), (.int .i64 ((↑n : Int))), (.int .i64 ((↑i : Int))), (.int .i64 ((↑n : Int))), (.int .i64 (IntKind.i64.wrap ((↑j : Int) + (1 : Int)))), (.int .i64 (p))], [⟨(n), (n)⟩, ⟨(n), (n)⟩, ⟨(n), (n)⟩, ⟨(n), (n)⟩, ⟨(n), (c)⟩, ⟨(n), (c)⟩, ⟨(n), (c)⟩]⟩, [(ms), (ps), (ls), (bs), (js), [(.int .i64 ((f i).at_)), (.int .i64 ((f i).place)), (.int .i64 ((f i).lo)), (.int .i64 ((f i).hi))]], []⟩) ∧
((g i != g j) = false → R ((0 : Nat)) .normal ⟨⟨[(.int .i64 (e1)), (.int .i64 (e2)), (.bool false), (.int .i64 (a)), (.int .i64 (u)), (.int .i64 ((↑i : Int))), (.int .i64 ((↑n : Int))), (.int .i64 ((↑i : Int))), (.int .i64 ((↑n : Int))), (.int .i64 (IntKind.i64.wrap ((↑j : Int) + (1 : Int)))), (.int .i64 (p))], [⟨(n), (n)⟩, ⟨(n), (n)⟩, ⟨(n), (n)⟩, ⟨(n), (n)⟩, ⟨(n), (c)⟩, ⟨(n), (c)⟩, ⟨(n), (c)⟩]⟩, [(ms), (ps), (ls), (bs), (js), [(.int .i64 ((f i).at_)), (.int .i64 ((f i).place)), (.int .i64 ((f i).lo)), (.int .i64 ((f i).hi))]], []⟩))))))))) ∧
((r) = false → R ((0 : Nat)) .normal ⟨⟨[(.int .i64 (e1)), (.int .i64 (e2)), (.bool false), (.int .i64 (a)), (.int .i64 (u)), (.int .i64 ((↑i : Int))), (.int .i64 ((↑n : Int))), (.int .i64 ((↑i : Int))), (.int .i64 ((↑n : Int))), (.int .i64 (IntKind.i64.wrap ((↑j : Int) + (1 : Int)))), (.int .i64 (p))], [⟨(n), (n)⟩, ⟨(n), (n)⟩, ⟨(n), (n)⟩, ⟨(n), (n)⟩, ⟨(n), (c)⟩, ⟨(n), (c)⟩, ⟨(n), (c)⟩]⟩, [(ms), (ps), (ls), (bs), (js), [(.int .i64 ((f i).at_)), (.int .i64 ((f i).place)), (.int .i64 ((f i).lo)), (.int .i64 ((f i).hi))]], []⟩)))))))))))))))))))))) ∧
((decide ((↑j : Int) < (↑n : Int))) = false → R ((0 : Nat)) (.exit ((4 : Nat))) ⟨⟨[(.int .i64 (e1)), (.int .i64 (e2)), (.bool (r)), (.int .i64 (a)), (.int .i64 (u)), (.int .i64 ((↑i : Int))), (.int .i64 ((↑n : Int))), (.int .i64 ((↑i : Int))), (.int .i64 ((↑n : Int))), (.int .i64 ((↑j : Int))), (.int .i64 (p))], [⟨(n), (n)⟩, ⟨(n), (n)⟩, ⟨(n), (n)⟩, ⟨(n), (n)⟩, ⟨(n), (c)⟩, ⟨(n), (c)⟩, ⟨(n), (c)⟩]⟩, [(ms), (ps), (ls), (bs), (js), [(.int .i64 ((f i).at_)), (.int .i64 ((f i).place)), (.int .i64 ((f i).lo)), (.int .i64 ((f i).hi))]], []⟩))) := by kernel_rfl

theorem b3c (p e1 e2 a u : Int) (r rr : Bool) (n c i : Nat) (f : Nat → Mv) (g lg xb xl xh : Nat → Int) (ms ps ls bs js : List Value) (R : Nat → AExit → Hw → Prop) : (vx.code none (.l p3c) (leafW [T3c] R) (T3c.inst ⟨⟨[I e1, I e2, .bool r, I a, I u, I n, I i, I p], [(n, n), (n, n), (n, n), (n, n), (n, c), (n, c)]⟩, [ms, ps, ls, bs, js], []⟩) ([(0, .split ((2, .val (.pointer (.some ⟨((0 : Nat)), ((0 : Nat) + i * (4 : Nat)), .none⟩))) :: (0, .val (.agg ⟨[(.int .i64 ((f i).at_)), (.int .i64 ((f i).place)), (.int .i64 ((f i).lo)), (.int .i64 ((f i).hi))]⟩)) :: (5, .val (.pointer (.some ⟨((8 : Nat)), ((0 : Nat) + i * (1 : Nat)), .none⟩))) :: (0, .val (.int .i64 (xb i))) :: (7, .val (.pointer (.some ⟨((9 : Nat)), ((0 : Nat) + i * (2 : Nat)), .none⟩))) :: (1, .val (.int .i64 (xl i))) :: [(0, .split ([(6, Hint.tm (0 : Nat) [])]) ((4, .val (.pointer (.some ⟨((9 : Nat)), ((0 : Nat) + i * (2 : Nat)), .none⟩))) :: (1, .val (.int .i64 (xh i))) :: [(0, .split ([(5, Hint.tm (0 : Nat) [])]) ([(3, .split ((3, .val (.pointer (.some ⟨((9 : Nat)), ((0 : Nat) + i * (2 : Nat)), .none⟩))) :: (1, .val (.int .i64 (xh i))) :: [(0, .split ([(4, Hint.tm (0 : Nat) [])]) ([(6, .split ((6, .val (.pointer (.some ⟨((7 : Nat)), ((0 : Nat) + i * (1 : Nat)), .none⟩))) :: (0, .val (.int .i64 (lg i))) :: [(1, .split ((9, Hint.loopW T3d (AExit.exit (4 : Nat)) T3d fun x => { hs := { vs := [I e1, I e2, Value.bool rr, I a, x.hs.vs[(4 : Nat)]?.getD undef, I (↑i : Int), I (↑n : Int), I (↑i : Int), I (↑n : Int), I (↑n : Int), I p], ns := [(n, n), (n, n), (n, n), (n, n), (n, c), (n, c), (n, c)] }, ls := [ms, ps, ls, bs, js, mvV (f i)], es := [] }) :: [(2, Hint.tm (0 : Nat) [])]) ((6, Hint.loopW T3d (AExit.exit (4 : Nat)) T3d fun x => { hs := { vs := [I e1, I e2, Value.bool rr, I a, x.hs.vs[(4 : Nat)]?.getD undef, I (↑i : Int), I (↑n : Int), I (↑i : Int), I (↑n : Int), I (↑n : Int), I p], ns := [(n, n), (n, n), (n, n), (n, n), (n, c), (n, c), (n, c)] }, ls := [ms, ps, ls, bs, js, mvV (f i)], es := [] }) :: [(2, Hint.tm (0 : Nat) [])]))]) ((7, Hint.loopW T3d (AExit.exit (4 : Nat)) T3d fun x => { hs := { vs := [I e1, I e2, Value.bool rr, I a, x.hs.vs[(4 : Nat)]?.getD undef, I (↑i : Int), I (↑n : Int), I (↑i : Int), I (↑n : Int), I (↑n : Int), I p], ns := [(n, n), (n, n), (n, n), (n, n), (n, c), (n, c), (n, c)] }, ls := [ms, ps, ls, bs, js, mvV (f i)], es := [] }) :: [(2, Hint.tm (0 : Nat) [])]))]))]) ([(7, .split ((6, .val (.pointer (.some ⟨((7 : Nat)), ((0 : Nat) + i * (1 : Nat)), .none⟩))) :: (0, .val (.int .i64 (lg i))) :: [(1, .split ((9, Hint.loopW T3d (AExit.exit (4 : Nat)) T3d fun x => { hs := { vs := [I e1, I e2, Value.bool rr, I a, x.hs.vs[(4 : Nat)]?.getD undef, I (↑i : Int), I (↑n : Int), I (↑i : Int), I (↑n : Int), I (↑n : Int), I p], ns := [(n, n), (n, n), (n, n), (n, n), (n, c), (n, c), (n, c)] }, ls := [ms, ps, ls, bs, js, mvV (f i)], es := [] }) :: [(2, Hint.tm (0 : Nat) [])]) ((6, Hint.loopW T3d (AExit.exit (4 : Nat)) T3d fun x => { hs := { vs := [I e1, I e2, Value.bool rr, I a, x.hs.vs[(4 : Nat)]?.getD undef, I (↑i : Int), I (↑n : Int), I (↑i : Int), I (↑n : Int), I (↑n : Int), I p], ns := [(n, n), (n, n), (n, n), (n, n), (n, c), (n, c), (n, c)] }, ls := [ms, ps, ls, bs, js, mvV (f i)], es := [] }) :: [(2, Hint.tm (0 : Nat) [])]))]) ((7, Hint.loopW T3d (AExit.exit (4 : Nat)) T3d fun x => { hs := { vs := [I e1, I e2, Value.bool rr, I a, x.hs.vs[(4 : Nat)]?.getD undef, I (↑i : Int), I (↑n : Int), I (↑i : Int), I (↑n : Int), I (↑n : Int), I p], ns := [(n, n), (n, n), (n, n), (n, n), (n, c), (n, c), (n, c)] }, ls := [ms, ps, ls, bs, js, mvV (f i)], es := [] }) :: [(2, Hint.tm (0 : Nat) [])]))]))]))]))]) ([(1, Hint.tm (0 : Nat) [])]))])) =
((((decide ((↑i : Int) < (↑n : Int))) = true → ((((((0 : Int) ≤ (↑i : Int))) ∧ (((↑i : Int) < (↑n : Int)))) ∧ (((.pointer (.some ⟨((0 : Nat)), ((0 : Nat) + i * (4 : Nat)), .none⟩)) : Value) = (.pointer (.some ⟨((0 : Nat)), ((0 : Nat) + i * (4 : Nat)), .none⟩)))) ∧
(((((0 : Nat) + i * (4 : Nat) + (4 : Nat) ≤ ms.length)) ∧ (((.agg ⟨[(.int .i64 ((f i).at_)), (.int .i64 ((f i).place)), (.int .i64 ((f i).lo)), (.int .i64 ((f i).hi))]⟩) : Value) = (.agg ⟨(List.take ((4 : Nat)) (List.drop ((0 : Nat) + i * (4 : Nat)) (ms)))⟩))) ∧
((((((0 : Int) ≤ (↑i : Int))) ∧ (((↑i : Int) < (↑n : Int)))) ∧ (((.pointer (.some ⟨((8 : Nat)), ((0 : Nat) + i * (1 : Nat)), .none⟩)) : Value) = (.pointer (.some ⟨((8 : Nat)), ((0 : Nat) + i * (1 : Nat)), .none⟩)))) ∧
(((bs[(0 : Nat) + i * (1 : Nat)]? = some (.int .i64 (xb i)))) ∧
((((((0 : Int) ≤ (↑i : Int))) ∧ (((↑i : Int) < (↑n : Int)))) ∧ (((.pointer (.some ⟨((9 : Nat)), ((0 : Nat) + i * (2 : Nat)), .none⟩)) : Value) = (.pointer (.some ⟨((9 : Nat)), ((0 : Nat) + i * (2 : Nat)), .none⟩)))) ∧
(((js[(0 : Nat) + i * (2 : Nat) + (0 : Nat)]? = some (.int .i64 (xl i)))) ∧
(((decide (IntKind.i64.wrap (xb i - (f i).at_) < xl i)) = true → R ((0 : Nat)) .ret ⟨⟨[(.int .i64 (e1)), (.int .i64 (e2)), (.bool (r)), (.int .i64 (a)), (.int .i64 (u)), (.int .i64 ((↑n : Int))), (.int .i64 ((↑i : Int))), (.int .i64 (p))], [⟨(n), (n)⟩, ⟨(n), (n)⟩, ⟨(n), (n)⟩, ⟨(n), (n)⟩, ⟨(n), (c)⟩, ⟨(n), (c)⟩]⟩, [(ms), (ps), (ls), (bs), (js)], []⟩) ∧
((decide (IntKind.i64.wrap (xb i - (f i).at_) < xl i)) = false → ((((((0 : Int) ≤ (↑i : Int))) ∧ (((↑i : Int) < (↑n : Int)))) ∧ (((.pointer (.some ⟨((9 : Nat)), ((0 : Nat) + i * (2 : Nat)), .none⟩)) : Value) = (.pointer (.some ⟨((9 : Nat)), ((0 : Nat) + i * (2 : Nat)), .none⟩)))) ∧
(((js[(0 : Nat) + i * (2 : Nat) + (1 : Nat)]? = some (.int .i64 (xh i)))) ∧
(((decide (IntKind.i64.wrap (xb i - (f i).at_) > xh i)) = true → R ((0 : Nat)) .ret ⟨⟨[(.int .i64 (e1)), (.int .i64 (e2)), (.bool (r)), (.int .i64 (a)), (.int .i64 (u)), (.int .i64 ((↑n : Int))), (.int .i64 ((↑i : Int))), (.int .i64 (p))], [⟨(n), (n)⟩, ⟨(n), (n)⟩, ⟨(n), (n)⟩, ⟨(n), (n)⟩, ⟨(n), (c)⟩, ⟨(n), (c)⟩]⟩, [(ms), (ps), (ls), (bs), (js)], []⟩) ∧
((decide (IntKind.i64.wrap (xb i - (f i).at_) > xh i)) = false → (((e1 == (4 : Int)) = true → ((((((0 : Int) ≤ (↑i : Int))) ∧ (((↑i : Int) < (↑n : Int)))) ∧ (((.pointer (.some ⟨((9 : Nat)), ((0 : Nat) + i * (2 : Nat)), .none⟩)) : Value) = (.pointer (.some ⟨((9 : Nat)), ((0 : Nat) + i * (2 : Nat)), .none⟩)))) ∧
(((js[(0 : Nat) + i * (2 : Nat) + (1 : Nat)]? = some (.int .i64 (xh i)))) ∧
(((decide (xh i > (0 : Int))) = true → R ((0 : Nat)) .ret ⟨⟨[(.int .i64 (e1)), (.int .i64 (e2)), (.bool (r)), (.int .i64 (a)), (.int .i64 (u)), (.int .i64 ((↑n : Int))), (.int .i64 ((↑i : Int))), (.int .i64 (p))], [⟨(n), (n)⟩, ⟨(n), (n)⟩, ⟨(n), (n)⟩, ⟨(n), (n)⟩, ⟨(n), (c)⟩, ⟨(n), (c)⟩]⟩, [(ms), (ps), (ls), (bs), (js)], []⟩) ∧
((decide (xh i > (0 : Int))) = false → (((decide ((f i).at_ ≤ a)) = true → ((((((0 : Int) ≤ (↑i : Int))) ∧ (((↑i : Int) < (↑n : Int)))) ∧ (((.pointer (.some ⟨((7 : Nat)), ((0 : Nat) + i * (1 : Nat)), .none⟩)) : Value) = (.pointer (.some ⟨((7 : Nat)), ((0 : Nat) + i * (1 : Nat)), .none⟩)))) ∧
(((ls[(0 : Nat) + i * (1 : Nat)]? = some (.int .i64 (lg i)))) ∧
(((decide (a < IntKind.i64.wrap ((f i).at_ + lg i))) = true → ((ClW ⟨⟨[(.int .i64 (e1)), (.int .i64 (e2)), (.bool (r)), (.int .i64 (a)), (.int .i64 (IntKind.i64.wrap (u + (1 : Int)))), (.int .i64 ((↑i : Int))), (.int .i64 ((↑n : Int))), (.int .i64 ((↑i : Int))), (.int .i64 ((↑n : Int))), (.int .i64 ((0 : Int))), (.int .i64 (p))], [⟨(n), (n)⟩, ⟨(n), (n)⟩, ⟨(n), (n)⟩, ⟨(n), (n)⟩, ⟨(n), (c)⟩, ⟨(n), (c)⟩, ⟨(n), (c)⟩]⟩, [(ms), (ps), (ls), (bs), (js), [(.int .i64 ((f i).at_)), (.int .i64 ((f i).place)), (.int .i64 ((f i).lo)), (.int .i64 ((f i).hi))]], []⟩) ∧ (LoopOW Try.prog .none p3d (T3d) ⟨⟨[(.int .i64 (e1)), (.int .i64 (e2)), (.bool (r)), (.int .i64 (a)), (.int .i64 (IntKind.i64.wrap (u + (1 : Int)))), (.int .i64 ((↑i : Int))), (.int .i64 ((↑n : Int))), (.int .i64 ((↑i : Int))), (.int .i64 ((↑n : Int))), (.int .i64 ((0 : Int))), (.int .i64 (p))], [⟨(n), (n)⟩, ⟨(n), (n)⟩, ⟨(n), (n)⟩, ⟨(n), (n)⟩, ⟨(n), (c)⟩, ⟨(n), (c)⟩, ⟨(n), (c)⟩]⟩, [(ms), (ps), (ls), (bs), (js), [(.int .i64 ((f i).at_)), (.int .i64 ((f i).place)), (.int .i64 ((f i).lo)), (.int .i64 ((f i).hi))]], []⟩ (.exit ((4 : Nat))) (T3d) ⟨⟨[(.int .i64 (e1)), (.int .i64 (e2)), (.bool (rr)), (.int .i64 (a)), (.int .i64 (IntKind.i64.wrap (u + (1 : Int)))), (.int .i64 ((↑i : Int))), (.int .i64 ((↑n : Int))), (.int .i64 ((↑i : Int))), (.int .i64 ((↑n : Int))), (.int .i64 ((↑n : Int))), (.int .i64 (p))], [⟨(n), (n)⟩, ⟨(n), (n)⟩, ⟨(n), (n)⟩, ⟨(n), (n)⟩, ⟨(n), (c)⟩, ⟨(n), (c)⟩, ⟨(n), (c)⟩]⟩, [(ms), (ps), (ls), (bs), (js), [(.int .i64 ((f i).at_)), (.int .i64 ((f i).place)), (.int .i64 ((f i).lo)), (.int .i64 ((f i).hi))]], []⟩) ∧ 
R ((0 : Nat)) .normal ⟨⟨[(.int .i64 (e1)), (.int .i64 (e2)), (.bool (rr)), (.int .i64 (a)), (.int .i64 (IntKind.i64.wrap (u + (1 : Int)))), (.int .i64 ((↑n : Int))), (.int .i64 (IntKind.i64.wrap ((↑i : Int) + (1 : Int)))), (.int .i64 (p))], [⟨(n), (n)⟩, ⟨(n), (n)⟩, ⟨(n), (n)⟩, ⟨(n), (n)⟩, ⟨(n), (c)⟩, ⟨(n), (c)⟩]⟩, [(ms), (ps), (ls), (bs), (js)], []⟩)) ∧
((decide (a < IntKind.i64.wrap ((f i).at_ + lg i))) = false → ((ClW ⟨⟨[(.int .i64 (e1)), (.int .i64 (e2)), (.bool (r)), (.int .i64 (a)), (.int .i64 (u)), (.int .i64 ((↑i : Int))), (.int .i64 ((↑n : Int))), (.int .i64 ((↑i : Int))), (.int .i64 ((↑n : Int))), (.int .i64 ((0 : Int))), (.int .i64 (p))], [⟨(n), (n)⟩, ⟨(n), (n)⟩, ⟨(n), (n)⟩, ⟨(n), (n)⟩, ⟨(n), (c)⟩, ⟨(n), (c)⟩, ⟨(n), (c)⟩]⟩, [(ms), (ps), (ls), (bs), (js), [(.int .i64 ((f i).at_)), (.int .i64 ((f i).place)), (.int .i64 ((f i).lo)), (.int .i64 ((f i).hi))]], []⟩) ∧ (LoopOW Try.prog .none p3d (T3d) ⟨⟨[(.int .i64 (e1)), (.int .i64 (e2)), (.bool (r)), (.int .i64 (a)), (.int .i64 (u)), (.int .i64 ((↑i : Int))), (.int .i64 ((↑n : Int))), (.int .i64 ((↑i : Int))), (.int .i64 ((↑n : Int))), (.int .i64 ((0 : Int))), (.int .i64 (p))], [⟨(n), (n)⟩, ⟨(n), (n)⟩, ⟨(n), (n)⟩, ⟨(n), (n)⟩, ⟨(n), (c)⟩, ⟨(n), (c)⟩, ⟨(n), (c)⟩]⟩, [(ms), (ps), (ls), (bs), (js), [(.int .i64 ((f i).at_)), (.int .i64 ((f i).place)), (.int .i64 ((f i).lo)), (.int .i64 ((f i).hi))]], []⟩ (.exit ((4 : Nat))) (T3d) ⟨⟨[(.int .i64 (e1)), (.int .i64 (e2)), (.bool (rr)), (.int .i64 (a)), (.int .i64 (u)), (.int .i64 ((↑i : Int))), (.int .i64 ((↑n : Int))), (.int .i64 ((↑i : Int))), (.int .i64 ((↑n : Int))), (.int .i64 ((↑n : Int))), (.int .i64 (p))], [⟨(n), (n)⟩, ⟨(n), (n)⟩, ⟨(n), (n)⟩, ⟨(n), (n)⟩, ⟨(n), (c)⟩, ⟨(n), (c)⟩, ⟨(n), (c)⟩]⟩, [(ms), (ps), (ls), (bs), (js), [(.int .i64 ((f i).at_)), (.int .i64 ((f i).place)), (.int .i64 ((f i).lo)), (.int .i64 ((f i).hi))]], []⟩) ∧ 
R ((0 : Nat)) .normal ⟨⟨[(.int .i64 (e1)), (.int .i64 (e2)), (.bool (rr)), (.int .i64 (a)), (.int .i64 (u)), (.int .i64 ((↑n : Int))), (.int .i64 (IntKind.i64.wrap ((↑i : Int) + (1 : Int)))), (.int .i64 (p))], [⟨(n), (n)⟩, ⟨(n), (n)⟩, ⟨(n), (n)⟩, ⟨(n), (n)⟩, ⟨(n), (c)⟩, ⟨(n), (c)⟩]⟩, [(ms), (ps), (ls), (bs), (js)], []⟩)))))) ∧
((decide ((f i).at_ ≤ a)) = false → ((ClW ⟨⟨[(.int .i64 (e1)), (.int .i64 (e2)), (.bool (r)), (.int .i64 (a)), (.int .i64 (u)), (.int .i64 ((↑i : Int))), (.int .i64 ((↑n : Int))), (.int .i64 ((↑i : Int))), (.int .i64 ((↑n : Int))), (.int .i64 ((0 : Int))), (.int .i64 (p))], [⟨(n), (n)⟩, ⟨(n), (n)⟩, ⟨(n), (n)⟩, ⟨(n), (n)⟩, ⟨(n), (c)⟩, ⟨(n), (c)⟩, ⟨(n), (c)⟩]⟩, [(ms), (ps), (ls), (bs), (js), [(.int .i64 ((f i).at_)), (.int .i64 ((f i).place)), (.int .i64 ((f i).lo)), (.int .i64 ((f i).hi))]], []⟩) ∧ (LoopOW Try.prog .none p3d (T3d) ⟨⟨[(.int .i64 (e1)), (.int .i64 (e2)), (.bool (r)), (.int .i64 (a)), (.int .i64 (u)), (.int .i64 ((↑i : Int))), (.int .i64 ((↑n : Int))), (.int .i64 ((↑i : Int))), (.int .i64 ((↑n : Int))), (.int .i64 ((0 : Int))), (.int .i64 (p))], [⟨(n), (n)⟩, ⟨(n), (n)⟩, ⟨(n), (n)⟩, ⟨(n), (n)⟩, ⟨(n), (c)⟩, ⟨(n), (c)⟩, ⟨(n), (c)⟩]⟩, [(ms), (ps), (ls), (bs), (js), [(.int .i64 ((f i).at_)), (.int .i64 ((f i).place)), (.int .i64 ((f i).lo)), (.int .i64 ((f i).hi))]], []⟩ (.exit ((4 : Nat))) (T3d) ⟨⟨[(.int .i64 (e1)), (.int .i64 (e2)), (.bool (rr)), (.int .i64 (a)), (.int .i64 (u)), (.int .i64 ((↑i : Int))), (.int .i64 ((↑n : Int))), (.int .i64 ((↑i : Int))), (.int .i64 ((↑n : Int))), (.int .i64 ((↑n : Int))), (.int .i64 (p))], [⟨(n), (n)⟩, ⟨(n), (n)⟩, ⟨(n), (n)⟩, ⟨(n), (n)⟩, ⟨(n), (c)⟩, ⟨(n), (c)⟩, ⟨(n), (c)⟩]⟩, [(ms), (ps), (ls), (bs), (js), [(.int .i64 ((f i).at_)), (.int .i64 ((f i).place)), (.int .i64 ((f i).lo)), (.int .i64 ((f i).hi))]], []⟩) ∧ 
R ((0 : Nat)) .normal ⟨⟨[(.int .i64 (e1)), (.int .i64 (e2)), (.bool (rr)), (.int .i64 (a)), (.int .i64 (u)), (.int .i64 ((↑n : Int))), (.int .i64 (IntKind.i64.wrap ((↑i : Int) + (1 : Int)))), (.int .i64 (p))], [⟨(n), (n)⟩, ⟨(n), (n)⟩, ⟨(n), (n)⟩, ⟨(n), (n)⟩, ⟨(n), (c)⟩, ⟨(n), (c)⟩]⟩, [(ms), (ps), (ls), (bs), (js)], []⟩)))))))) ∧
((e1 == (4 : Int)) = false → (((decide ((f i).at_ ≤ a)) = true → ((((((0 : Int) ≤ (↑i : Int))) ∧ (((↑i : Int) < (↑n : Int)))) ∧ (((.pointer (.some ⟨((7 : Nat)), ((0 : Nat) + i * (1 : Nat)), .none⟩)) : Value) = (.pointer (.some ⟨((7 : Nat)), ((0 : Nat) + i * (1 : Nat)), .none⟩)))) ∧
(((ls[(0 : Nat) + i * (1 : Nat)]? = some (.int .i64 (lg i)))) ∧
(((decide (a < IntKind.i64.wrap ((f i).at_ + lg i))) = true → ((ClW ⟨⟨[(.int .i64 (e1)), (.int .i64 (e2)), (.bool (r)), (.int .i64 (a)), (.int .i64 (IntKind.i64.wrap (u + (1 : Int)))), (.int .i64 ((↑i : Int))), (.int .i64 ((↑n : Int))), (.int .i64 ((↑i : Int))), (.int .i64 ((↑n : Int))), (.int .i64 ((0 : Int))), (.int .i64 (p))], [⟨(n), (n)⟩, ⟨(n), (n)⟩, ⟨(n), (n)⟩, ⟨(n), (n)⟩, ⟨(n), (c)⟩, ⟨(n), (c)⟩, ⟨(n), (c)⟩]⟩, [(ms), (ps), (ls), (bs), (js), [(.int .i64 ((f i).at_)), (.int .i64 ((f i).place)), (.int .i64 ((f i).lo)), (.int .i64 ((f i).hi))]], []⟩) ∧ (LoopOW Try.prog .none p3d (T3d) ⟨⟨[(.int .i64 (e1)), (.int .i64 (e2)), (.bool (r)), (.int .i64 (a)), (.int .i64 (IntKind.i64.wrap (u + (1 : Int)))), (.int .i64 ((↑i : Int))), (.int .i64 ((↑n : Int))), (.int .i64 ((↑i : Int))), (.int .i64 ((↑n : Int))), (.int .i64 ((0 : Int))), (.int .i64 (p))], [⟨(n), (n)⟩, ⟨(n), (n)⟩, ⟨(n), (n)⟩, ⟨(n), (n)⟩, ⟨(n), (c)⟩, ⟨(n), (c)⟩, ⟨(n), (c)⟩]⟩, [(ms), (ps), (ls), (bs), (js), [(.int .i64 ((f i).at_)), (.int .i64 ((f i).place)), (.int .i64 ((f i).lo)), (.int .i64 ((f i).hi))]], []⟩ (.exit ((4 : Nat))) (T3d) ⟨⟨[(.int .i64 (e1)), (.int .i64 (e2)), (.bool (rr)), (.int .i64 (a)), (.int .i64 (IntKind.i64.wrap (u + (1 : Int)))), (.int .i64 ((↑i : Int))), (.int .i64 ((↑n : Int))), (.int .i64 ((↑i : Int))), (.int .i64 ((↑n : Int))), (.int .i64 ((↑n : Int))), (.int .i64 (p))], [⟨(n), (n)⟩, ⟨(n), (n)⟩, ⟨(n), (n)⟩, ⟨(n), (n)⟩, ⟨(n), (c)⟩, ⟨(n), (c)⟩, ⟨(n), (c)⟩]⟩, [(ms), (ps), (ls), (bs), (js), [(.int .i64 ((f i).at_)), (.int .i64 ((f i).place)), (.int .i64 ((f i).lo)), (.int .i64 ((f i).hi))]], []⟩) ∧ 
R ((0 : Nat)) .normal ⟨⟨[(.int .i64 (e1)), (.int .i64 (e2)), (.bool (rr)), (.int .i64 (a)), (.int .i64 (IntKind.i64.wrap (u + (1 : Int)))), (.int .i64 ((↑n : Int))), (.int .i64 (IntKind.i64.wrap ((↑i : Int) + (1 : Int)))), (.int .i64 (p))], [⟨(n), (n)⟩, ⟨(n), (n)⟩, ⟨(n), (n)⟩, ⟨(n), (n)⟩, ⟨(n), (c)⟩, ⟨(n), (c)⟩]⟩, [(ms), (ps), (ls), (bs), (js)], []⟩)) ∧
((decide (a < IntKind.i64.wrap ((f i).at_ + lg i))) = false → ((ClW ⟨⟨[(.int .i64 (e1)), (.int .i64 (e2)), (.bool (r)), (.int .i64 (a)), (.int .i64 (u)), (.int .i64 ((↑i : Int))), (.int .i64 ((↑n : Int))), (.int .i64 ((↑i : Int))), (.int .i64 ((↑n : Int))), (.int .i64 ((0 : Int))), (.int .i64 (p))], [⟨(n), (n)⟩, ⟨(n), (n)⟩, ⟨(n), (n)⟩, ⟨(n), (n)⟩, ⟨(n), (c)⟩, ⟨(n), (c)⟩, ⟨(n), (c)⟩]⟩, [(ms), (ps), (ls), (bs), (js), [(.int .i64 ((f i).at_)), (.int .i64 ((f i).place)), (.int .i64 ((f i).lo)), (.int .i64 ((f i).hi))]], []⟩) ∧ (LoopOW Try.prog .none p3d (T3d) ⟨⟨[(.int .i64 (e1)), (.int .i64 (e2)), (.bool (r)), (.int .i64 (a)), (.int .i64 (u)), (.int .i64 ((↑i : Int))), (.int .i64 ((↑n : Int))), (.int .i64 ((↑i : Int))), (.int .i64 ((↑n : Int))), (.int .i64 ((0 : Int))), (.int .i64 (p))], [⟨(n), (n)⟩, ⟨(n), (n)⟩, ⟨(n), (n)⟩, ⟨(n), (n)⟩, ⟨(n), (c)⟩, ⟨(n), (c)⟩, ⟨(n), (c)⟩]⟩, [(ms), (ps), (ls), (bs), (js), [(.int .i64 ((f i).at_)), (.int .i64 ((f i).place)), (.int .i64 ((f i).lo)), (.int .i64 ((f i).hi))]], []⟩ (.exit ((4 : Nat))) (T3d) ⟨⟨[(.int .i64 (e1)), (.int .i64 (e2)), (.bool (rr)), (.int .i64 (a)), (.int .i64 (u)), (.int .i64 ((↑i : Int))), (.int .i64 ((↑n : Int))), (.int .i64 ((↑i : Int))), (.int .i64 ((↑n : Int))), (.int .i64 ((↑n : Int))), (.int .i64 (p))], [⟨(n), (n)⟩, ⟨(n), (n)⟩, ⟨(n), (n)⟩, ⟨(n), (n)⟩, ⟨(n), (c)⟩, ⟨(n), (c)⟩, ⟨(n), (c)⟩]⟩, [(ms), (ps), (ls), (bs), (js), [(.int .i64 ((f i).at_)), (.int .i64 ((f i).place)), (.int .i64 ((f i).lo)), (.int .i64 ((f i).hi))]], []⟩) ∧ 
R ((0 : Nat)) .normal ⟨⟨[(.int .i64 (e1)), (.int .i64 (e2)), (.bool (rr)), (.int .i64 (a)), (.int .i64 (u)), (.int .i64 ((↑n : Int))), (.int .i64 (IntKind.i64.wrap ((↑i : Int) + (1 : Int)))), (.int .i64 (p))], [⟨(n), (n)⟩, ⟨(n), (n)⟩, ⟨(n), (n)⟩, ⟨(n), (n)⟩, ⟨(n), (c)⟩, ⟨(n), (c)⟩]⟩, [(ms), (ps), (ls), (bs), (js)], []⟩)))))) ∧
((decide ((f i).at_ ≤ a)) = false → ((ClW ⟨⟨[(.int .i64 (e1)), (.int .i64 (e2)), (.bool (r)), (.int .i64 (a)), (.int .i64 (u)), (.int .i64 ((↑i : Int))), (.int .i64 ((↑n : Int))), (.int .i64 ((↑i : Int))), (.int .i64 ((↑n : Int))), (.int .i64 ((0 : Int))), (.int .i64 (p))], [⟨(n), (n)⟩, ⟨(n), (n)⟩, ⟨(n), (n)⟩, ⟨(n), (n)⟩, ⟨(n), (c)⟩, ⟨(n), (c)⟩, ⟨(n), (c)⟩]⟩, [(ms), (ps), (ls), (bs), (js), [(.int .i64 ((f i).at_)), (.int .i64 ((f i).place)), (.int .i64 ((f i).lo)), (.int .i64 ((f i).hi))]], []⟩) ∧ (LoopOW Try.prog .none p3d (T3d) ⟨⟨[(.int .i64 (e1)), (.int .i64 (e2)), (.bool (r)), (.int .i64 (a)), (.int .i64 (u)), (.int .i64 ((↑i : Int))), (.int .i64 ((↑n : Int))), (.int .i64 ((↑i : Int))), (.int .i64 ((↑n : Int))), (.int .i64 ((0 : Int))), (.int .i64 (p))], [⟨(n), (n)⟩, ⟨(n), (n)⟩, ⟨(n), (n)⟩, ⟨(n), (n)⟩, ⟨(n), (c)⟩, ⟨(n), (c)⟩, ⟨(n), (c)⟩]⟩, [(ms), (ps), (ls), (bs), (js), [(.int .i64 ((f i).at_)), (.int .i64 ((f i).place)), (.int .i64 ((f i).lo)), (.int .i64 ((f i).hi))]], []⟩ (.exit ((4 : Nat))) (T3d) ⟨⟨[(.int .i64 (e1)), (.int .i64 (e2)), (.bool (rr)), (.int .i64 (a)), (.int .i64 (u)), (.int .i64 ((↑i : Int))), (.int .i64 ((↑n : Int))), (.int .i64 ((↑i : Int))), (.int .i64 ((↑n : Int))), (.int .i64 ((↑n : Int))), (.int .i64 (p))], [⟨(n), (n)⟩, ⟨(n), (n)⟩, ⟨(n), (n)⟩, ⟨(n), (n)⟩, ⟨(n), (c)⟩, ⟨(n), (c)⟩, ⟨(n), (c)⟩]⟩, [(ms), (ps), (ls), (bs), (js), [(.int .i64 ((f i).at_)), (.int .i64 ((f i).place)), (.int .i64 ((f i).lo)), (.int .i64 ((f i).hi))]], []⟩) ∧ 
R ((0 : Nat)) .normal ⟨⟨[(.int .i64 (e1)), (.int .i64 (e2)), (.bool (rr)), (.int .i64 (a)), (.int .i64 (u)), (.int .i64 ((↑n : Int))), (.int .i64 (IntKind.i64.wrap ((↑i : Int) + (1 : Int)))), (.int .i64 (p))], [⟨(n), (n)⟩, ⟨(n), (n)⟩, ⟨(n), (n)⟩, ⟨(n), (n)⟩, ⟨(n), (c)⟩, ⟨(n), (c)⟩]⟩, [(ms), (ps), (ls), (bs), (js)], []⟩)))))))))))))))))) ∧
((decide ((↑i : Int) < (↑n : Int))) = false → R ((0 : Nat)) (.exit ((2 : Nat))) ⟨⟨[(.int .i64 (e1)), (.int .i64 (e2)), (.bool (r)), (.int .i64 (a)), (.int .i64 (u)), (.int .i64 ((↑n : Int))), (.int .i64 ((↑i : Int))), (.int .i64 (p))], [⟨(n), (n)⟩, ⟨(n), (n)⟩, ⟨(n), (n)⟩, ⟨(n), (n)⟩, ⟨(n), (c)⟩, ⟨(n), (c)⟩]⟩, [(ms), (ps), (ls), (bs), (js)], []⟩))) := by kernel_rfl

section
variable {p : Int} {n : Nat} {f : Nat → Mv}
def backT (p : Int) (f : Nat → Mv) (lg : Nat → Int) (i k : Nat) : Bool := decide ((f k).at_ + lg k + wkI p (f i) (f k) ≤ (f i).at_)
/-- Two moves that are not one horse's, or one can follow the other one. -/
def qT (p : Int) (f : Nat → Mv) (g lg : Nat → Int) (i j : Nat) : Bool := ((i : Int) == (j : Int)) || ((g i != g j) || (canT p f lg i j || backT p f lg i j))
noncomputable def h3d (p e1 e2 a u : Int) (r : Bool) (n c i : Nat) (f : Nat → Mv) (g lg : Nat → Int) (bs js : List Value) (j : Nat) : Hw :=
  ⟨⟨[I e1, I e2, .bool (r && andN (qT p f g lg i) j), I a, I u, I i, I n, I i, I n, I j, I p], [(n, n), (n, n), (n, n), (n, n), (n, c), (n, c), (n, c)]⟩, [mvs n f, ints n g, ints n lg, bs, js, mvV (f i)], []⟩
theorem h3d_cl {e1 e2 a u : Int} {r : Bool} {c i j : Nat} {g lg : Nat → Int} {bs js : List Value} (h3 : ∀ v ∈ bs, atomic v = true) (h4 : ∀ v ∈ js, atomic v = true) : ClW (h3d p e1 e2 a u r n c i f g lg bs js j) := by
  refine clL fun cs hcs => ?_
  simp only [List.mem_cons, List.not_mem_nil, or_false] at hcs
  rcases hcs with rfl | rfl | rfl | rfl | rfl | rfl
  · exact mvs_atom n f
  · exact ints_atom n g
  · exact ints_atom n lg
  · exact h3
  · exact h4
  · exact mvV_atom _
set_option maxHeartbeats 2000000 in
theorem loop3d {e1 e2 a u : Int} {r : Bool} {c i : Nat} {g lg : Nat → Int} {bs js : List Value} (hok : okH p n f = true) (hlg : ∀ i, i < n → (f i).lo ≤ lg i ∧ lg i ≤ (f i).hi) (hi : i < n) (h3 : ∀ v ∈ bs, atomic v = true) (h4 : ∀ v ∈ js, atomic v = true) :
    LoopOW Try.prog none p3d T3d (h3d p e1 e2 a u r n c i f g lg bs js 0) (.exit 4) T3d (h3d p e1 e2 a u r n c i f g lg bs js n) := by
  have hH := okH_iff hok
  have h7 := hH.n7
  refine loop_forW (Ts := [T3d]) (k := 11) (n := n) (st := fun j => (0, h3d p e1 e2 a u r n c i f g lg bs js j)) (e := .exit 4) rfl vx_sound (by simp [T3d]) (by rw [nglob]; omega) ⟨by simp, trivial⟩ (fun j _ => h3d_cl h3 h4)
    (fun j hj R hR => ?_) (fun R hR => ?_) (T0 := T3d) (T1 := T3d) rfl (Nat.le_of_ble_eq_true rfl) (by decide) rfl
  · have hw : IntKind.i64.wrap ((j : Int) + 1) = ((j + 1 : Nat) : Int) := wrapI (by omega) (by omega)
    have hmi := hH.mv i hi
    have hmj := hH.mv j hj
    have a1 := hmi.at0; have a2 := hmi.at1; have a3 := hmi.lo1; have a5 := hmi.hi1
    have b1 := hmj.at0; have b2 := hmj.at1; have b3 := hmj.lo1; have b5 := hmj.hi1
    have li := hlg i hi; have lj := hlg j hj
    have hwl := wkI_le ⟨hH.p0, hH.p3⟩ ⟨hmi.pl0, hmi.pl1⟩ ⟨hmj.pl0, hmj.pl1⟩
    have w1 : IntKind.i64.wrap ((f i).at_ + lg i) = (f i).at_ + lg i := wrapI (by omega) (by omega)
    have w2 : IntKind.i64.wrap ((f j).at_ + lg j) = (f j).at_ + lg j := wrapI (by omega) (by omega)
    have w3 : IntKind.i64.wrap ((f i).at_ + lg i + wkI p (f i) (f j)) = (f i).at_ + lg i + wkI p (f i) (f j) := wrapI (by omega) (by omega)
    have w4 : IntKind.i64.wrap ((f j).at_ + lg j + wkI p (f i) (f j)) = (f j).at_ + lg j + wkI p (f i) (f j) := wrapI (by omega) (by omega)
    have l1 := flatC_bound (k := 4) hj
    have f2 : (folV p n f i j == (2 : Int)) = true → decide ((f i).at_ + lg i + wkI p (f i) (f j) ≤ (f j).at_) = true := fun h => by
      rw [fol_two hH hi hj, decide_eq_true_eq] at h
      exact decide_eq_true (by omega)
    have f0 : (folV p n f i j == (0 : Int)) = true → decide ((f i).at_ + lg i + wkI p (f i) (f j) ≤ (f j).at_) = false := fun h => by
      rw [fol_no hH hi hj, decide_eq_true_eq] at h
      exact decide_eq_false (by omega)
    have e : (r && andN (qT p f g lg i) (j + 1)) = ((r && andN (qT p f g lg i) j) && qT p f g lg i j) := by simp only [andN, Bool.and_assoc]
    simp only [h3d, e] at hR
    simp only [h3d]
    generalize (r && andN (qT p f g lg i) j) = rr at hR
    refine ⟨T3d, _, rfl, (b3d p e1 e2 a u rr n c i j f g lg (mvs n f) (ints n g) (ints n lg) bs js R).mpr ⟨fun _ => ?_, fun h => absurd hj (by simpa using h)⟩⟩
    rw [hw, w1, w2, w3, w4]
    simp only [qT, canT, backT] at hR
    repeat' (first | with_reducible apply And.intro | with_reducible intro)
    all_goals first
      | trivial
      | exact C18x_ok p n c f (by omega) hok h7
      | exact C17x_ok p n c f (by omega) hok
      | exact ⟨i, j, hi, hj, rfl⟩
      | omega
      | rfl
      | (rw [mvs_len]; omega)
      | (rw [mvs_part f hj]; rfl)
      | exact ints_get _ hi
      | exact ints_get _ hj
      | (simp only [*, Bool.true_and, Bool.and_true, Bool.false_and, Bool.or_true, Bool.true_or, Bool.or_false, Bool.false_or] at hR; exact hR)
      | (exfalso; have h1 := f2 ‹_›; simp_all; done)
      | (exfalso; have h1 := f0 ‹_›; simp_all; done)
  · exact ⟨T3d, _, rfl, (b3d p e1 e2 a u _ n c i n f g lg (mvs n f) (ints n g) (ints n lg) bs js R).mpr ⟨fun h => absurd (of_decide_eq_true h) (by omega), fun _ => hR⟩⟩
/-- Is a plan right, in this truth? -/
def allQ (p : Int) (n : Nat) (f : Nat → Mv) (g lg : Nat → Int) (i : Nat) : Bool := andN (fun i => andN (qT p f g lg i) n) i
noncomputable def h3c (p e1 e2 a : Int) (n c : Nat) (f : Nat → Mv) (g lg : Nat → Int) (i : Nat) : Hw :=
  ⟨⟨[I e1, I e2, .bool (allQ p n f g lg i), I a, I (cntN (undB a f lg) i : Nat), I n, I i, I p], [(n, n), (n, n), (n, n), (n, n), (n, c), (n, c)]⟩, [mvs n f, ints n g, ints n lg, ints n (begS p n f g lg), spansC n (latS false p n f g) (latS true p n f g)], []⟩
theorem h3c_cl {e1 e2 a : Int} {c i : Nat} {g lg : Nat → Int} : ClW (h3c p e1 e2 a n c f g lg i) := by
  refine clL fun cs hcs => ?_
  simp only [List.mem_cons, List.not_mem_nil, or_false] at hcs
  rcases hcs with rfl | rfl | rfl | rfl | rfl
  · exact mvs_atom n f
  · exact ints_atom n _
  · exact ints_atom n _
  · exact ints_atom n _
  · exact spansC_atoms n _ _
theorem spans_cell {n i j : Nat} (a b : Nat → Int) (h : i < n) (hj : j < 2) : (spansC n a b)[0 + i * 2 + j]? = [I (a i), I (b i)][j]? := by
  rw [Nat.zero_add]
  exact flatC_get (n := n) (k := 2) (g := fun i => [I (a i), I (b i)]) (fun _ _ => rfl) h hj
set_option maxHeartbeats 2000000 in
theorem loop3c {e1 e2 a : Int} {c : Nat} {g lg : Nat → Int} (hok : okH p n f = true) (hlg : ∀ i, i < n → (f i).lo ≤ lg i ∧ lg i ≤ (f i).hi) (hz : (e1 == (4 : Int)) = true → RightT p n f g (lgS true f)) :
    LoopOW Try.prog none p3c T3c (h3c p e1 e2 a n c f g lg 0) (.exit 2) T3c (h3c p e1 e2 a n c f g lg n) := by
  have hH := okH_iff hok
  have h7 := hH.n7
  have h20 : ∀ i, i < n → 0 ≤ lg i ∧ lg i ≤ 20 := fun i hi => by
    have h1 := (hH.mv i hi).lo1; have h2 := (hH.mv i hi).hi1; have h3 := hlg i hi
    omega
  refine loop_forW (Ts := [T3c]) (k := 10) (n := n) (st := fun i => (0, h3c p e1 e2 a n c f g lg i)) (e := .exit 2) rfl vx_sound (by simp [T3c]) (by rw [nglob]; omega) ⟨by simp, trivial⟩ (fun i _ => h3c_cl)
    (fun i hi R hR => ?_) (fun R hR => ?_) (T0 := T3c) (T1 := T3c) rfl (Nat.le_of_ble_eq_true rfl) (by decide) rfl
  · have hw : IntKind.i64.wrap ((i : Int) + 1) = ((i + 1 : Nat) : Int) := wrapI (by omega) (by omega)
    have hmi := hH.mv i hi
    have a1 := hmi.at0; have a2 := hmi.at1
    have li := hlg i hi; have l20 := h20 i hi
    have l1 := flatC_bound (k := 4) hi
    have w1 : IntKind.i64.wrap ((f i).at_ + lg i) = (f i).at_ + lg i := wrapI (by omega) (by omega)
    have w2 := beg_wrap (g := g) hok h20 hi
    have m1 := begS_mono (g := g) (lg := lgS false f) (lg' := lg) hok (lgS_le hok false) (fun i hi => (hlg i hi).1) i
    have m2 := begS_mono (g := g) (lg := lg) (lg' := lgS true f) hok h20 (fun i hi => (hlg i hi).2) i
    have e1' := lat_eq (g := g) hok false hi
    have e2' := lat_eq (g := g) hok true hi
    have c0 := cntN_le (undB a f lg) i
    have w3 : IntKind.i64.wrap (((cntN (undB a f lg) i : Nat) : Int) + 1) = ((cntN (undB a f lg) i + 1 : Nat) : Int) := wrapI (by omega) (by omega)
    have hl := fun u : Int => loop3d (e1 := e1) (e2 := e2) (a := a) (u := u) (r := allQ p n f g lg i) (c := c) (g := g) (bs := ints n (begS p n f g lg)) (js := spansC n (latS false p n f g) (latS true p n f g)) hok hlg hi (ints_atom n _) (spansC_atoms n _ _)
    have hc := fun u : Int => h3d_cl (p := p) (n := n) (f := f) (e1 := e1) (e2 := e2) (a := a) (u := u) (r := allQ p n f g lg i) (c := c) (i := i) (j := 0) (g := g) (lg := lg) (ints_atom n (begS p n f g lg)) (spansC_atoms n (latS false p n f g) (latS true p n f g))
    have e3 : allQ p n f g lg (i + 1) = (allQ p n f g lg i && andN (qT p f g lg i) n) := rfl
    have e4 : (allQ p n f g lg i && andN (qT p f g lg i) 0) = allQ p n f g lg i := by simp only [andN, Bool.and_true]
    simp only [h3d, e4] at hl hc
    have hu : undB a f lg i = (decide ((f i).at_ ≤ a) && decide (a < (f i).at_ + lg i)) := rfl
    simp only [h3c, e3, cntN, hu] at hR
    simp only [h3c]
    refine ⟨T3c, _, rfl, (b3c p e1 e2 a (cntN (undB a f lg) i : Nat) (allQ p n f g lg i) (allQ p n f g lg i && andN (qT p f g lg i) n) n c i f g lg (begS p n f g lg) (latS false p n f g) (latS true p n f g) (mvs n f) (ints n g) (ints n lg) (ints n (begS p n f g lg)) (spansC n (latS false p n f g) (latS true p n f g)) R).mpr ⟨fun _ => ?_, fun h => absurd hi (by simpa using h)⟩⟩
    rw [hw, w1, w2, w3]
    generalize (allQ p n f g lg i && andN (qT p f g lg i) n) = rr at hR hl
    generalize allQ p n f g lg i = r0 at hl hc
    repeat' (first | with_reducible apply And.intro | with_reducible intro)
    all_goals first
      | trivial
      | exact hc _
      | exact hl _
      | omega
      | rfl
      | (rw [mvs_len]; omega)
      | (rw [mvs_part f hi]; rfl)
      | exact spans_cell _ _ hi (show 0 < 2 by omega)
      | exact spans_cell _ _ hi (show 1 < 2 by omega)
      | exact ints_get _ hi
      | (simp only [*, Bool.and_true, Bool.and_false, Bool.false_and, Bool.and_self, if_true, if_false, Bool.false_eq_true] at hR; exact hR)
      | (exfalso; have h1 := of_decide_eq_true ‹_›; omega)
      | (exfalso; have h1 := lat_zero hok (hz ‹_›) hi; simp_all; done)
  · exact ⟨T3c, _, rfl, (b3c p e1 e2 a _ _ true n c n f g lg (fun _ => 0) (fun _ => 0) (fun _ => 0) (mvs n f) (ints n g) (ints n lg) _ _ R).mpr ⟨fun h => absurd (of_decide_eq_true h) (by omega), fun _ => hR⟩⟩
end
end Go.Ab

/- the law HorseCheck: some moves, some numbers: it returns true. -/
set_option maxRecDepth 100000
namespace Go.Ab
open Go Go.RowKit Go.Proofs
theorem planG_ok {k : Nat} {b : Nat → Int} (hb : ∀ i, i < k → 0 ≤ b i ∧ b i < 256) (i : Nat) : okN (planG k b i) = true := by
  simp only [planG]
  by_cases hk : 0 < k
  · rw [if_pos hk]
    have e : (i : Int).tmod (k : Int) = ((i % k : Nat) : Int) := rfl
    have hlt := Nat.mod_lt i hk
    rw [e, Int.toNat_natCast]
    obtain ⟨h0, h1⟩ := hb _ hlt
    generalize b (i % k) = z at h0 h1
    rw [wrapI (by omega) (by omega)]
    obtain ⟨m, rfl⟩ := Int.eq_ofNat_of_zero_le h0
    have e2 : ((m : Nat) : Int).tmod 7 = ((m % 7 : Nat) : Int) := rfl
    have hm := Nat.mod_lt m (show 0 < 7 by omega)
    simp only [okN, Bool.and_eq_true, decide_eq_true_eq]
    rw [e2]
    omega
  · rw [if_neg hk]; rfl
theorem allFrom_true (q : Nat → Bool) (h : ∀ i, q i = true) : ∀ r m, allFrom q r m = true := by
  intro r
  induction r with
  | zero => intro m; rfl
  | succ r ih => intro m; simp only [allFrom, h, ih, Bool.and_self]
theorem plan_ok {n k : Nat} {b : Nat → Int} (hb : ∀ i, i < k → 0 ≤ b i ∧ b i < 256) : okP n n (planG k b) = true := by
  simp only [okP, bne_self_eq_false, Bool.not_false, Bool.true_and]
  exact allFrom_true _ (planG_ok hb) _ _
end Go.Ab

/- the law's plans, without numbers. -/
set_option maxRecDepth 100000
namespace Go.Ab
open Go Go.RowKit Go.Proofs
noncomputable def st13n (n : Nat) (i : Nat) : Nat × Hx := if i = 0 then (0, ⟨⟨[I n, I (0 : Nat)], []⟩, []⟩) else (1, ⟨⟨[I n, I i], [(i, i)]⟩, [ints i (planG 0 fun _ => 0)]⟩)
theorem loop13n (n : Nat) (h0 : 0 < n) (hn : n ≤ 1000000) : LoopOK Try.prog none p13 N13a ⟨⟨[I n, I (0 : Nat)], []⟩, []⟩ (.exit 0) N13b ⟨⟨[I n, I n], [(n, n)]⟩, [ints n (planG 0 fun _ => 0)]⟩ := by
  have hat : ∀ i, Atoms [ints i (planG 0 fun _ => 0)] := fun i cs hcs => by
    simp only [List.mem_singleton] at hcs
    subst hcs
    exact ints_atom i _
  refine loop_vc (Ts := [N13a, N13b]) (k := 3) (X := Nat) (inv := fun i => i ≤ n) (μ := fun i => n - i) (st := st13n n) (out := fun _ => (.exit 0, 1, ⟨⟨[I n, I n], [(n, n)]⟩, [ints n (planG 0 fun _ => 0)]⟩)) rfl vx_sound (by simp [N13a, N13b]) (by rw [nglob]; omega) (fun i hi => ?_) (Nat.zero_le n) (x := 0) rfl (Nat.le_of_ble_eq_true rfl) (by decide) rfl
  have hw : i < n → IntKind.i64.wrap ((i : Int) + 1) = ((i + 1 : Nat) : Int) := fun _ => wrapI (by omega) (by omega)
  by_cases hz : i = 0
  · subst hz
    refine ⟨N13a, _, rfl, (n13a n 0 _).mpr ⟨fun h => ?_, fun h => ?_⟩⟩
    · refine ⟨⟨?_, trivial⟩, .inl ⟨rfl, 1, by omega, by show n - 1 < n - 0; omega, ?_, rfl⟩⟩
      · have h2 := hat 1
        exact h2
      · rw [hw h0]
        rfl
    · have : ¬ (0 : Nat) < n := by simpa using h
      omega
  · have hst : st13n n i = (1, ⟨⟨[I n, I i], [(i, i)]⟩, [ints i (planG 0 fun _ => 0)]⟩) := by simp only [st13n, if_neg hz]
    rw [hst]
    have hlen := ints_len i (planG 0 fun _ => 0)
    refine ⟨N13b, _, rfl, (n13b n i i (ints i (planG 0 fun _ => 0)) _).mpr ⟨fun h => ?_, fun h => ?_⟩⟩
    · have hi' : i < n := by simpa using h
      have e : ints (i + 1) (planG 0 fun _ => 0) = ints i (planG 0 fun _ => 0) ++ [I (Int.tmod 0 7)] := ints_succ i _
      have ht : List.take (i * 1) (ints i (planG 0 fun _ => 0)) = ints i (planG 0 fun _ => 0) := List.take_of_length_le (by rw [hlen]; omega)
      rw [hw hi', ht]
      have hnext : st13n n (i + 1) = (1, ⟨⟨[I n, I (i + 1 : Nat)], [(i + 1, i + 1)]⟩, [ints (i + 1) (planG 0 fun _ => 0)]⟩) := by simp only [st13n, if_neg (show ¬ i + 1 = 0 by omega)]
      have h2 := hat (i + 1)
      rw [e] at h2 hnext
      exact ⟨⟨by omega, by omega, by omega, by omega⟩, ⟨⟨h2, trivial⟩, .inl ⟨rfl, i + 1, by omega, by show n - (i + 1) < n - i; omega, hnext.trans rfl, rfl⟩⟩⟩
    · have e : i = n := by have : ¬ i < n := by simpa using h
                           omega
      subst e
      exact ⟨⟨hat i, trivial⟩, .inr ⟨by simp, rfl⟩⟩
noncomputable def C13n (p : Int) (n c : Nat) (f : Nat → Mv) : ConN where
  A := .agg (.hole (.slice 0 0 .nil)) (.val nilS .nil)
  bs := [.list 1 .ro]
  pre x := x = ⟨⟨[I p], [(n, c)]⟩, [mvs n f]⟩
  news _ := [(ints n (planG 0 fun _ => 0), 3)]
  one := true
  res _ := [.sl 0 n]
theorem C13n_ok (p : Int) (n c : Nat) (f : Nat → Mv) (h0 : 0 < n) (hn : n ≤ 1000000) : ConNOK Try.prog 13 (C13n p n c f) :=
  conRow_of rfl vx_sound (C := C13n p n c f) (n := n) (cells := ints n (planG 0 fun _ => 0)) (e := 3) ⟨⟨[I p], [(n, c)]⟩, [mvs n f]⟩ (fun x => Iff.rfl) rfl rfl rfl ⟨_, (n13 p n c (mvs n f) (ints n (planG 0 fun _ => 0)) _).mpr ⟨fun _ h => (by cases h), loop13n n h0 hn, rfl⟩⟩ (mvs_atoms n f) (ints_atom n _) rfl (Nat.le_of_ble_eq_true rfl) (by rw [nglob]; exact Nat.zero_le _)
noncomputable def m2n (ms : List Value) : Mem := ⟨fillX [.cells ms 1 .ro, .dead] 0 .nil, 2⟩
noncomputable def m2z (bs : List Value) : Mem := ⟨fillX [.dead, .cells bs 2 .ro] 0 .nil, 2⟩
noncomputable def m2d : Mem := ⟨fillX [.dead, .dead] 0 .nil, 2⟩
noncomputable def hN (p : Int) : Value := .agg ⟨[I p, nilS]⟩
end Go.Ab

/- the law HorseTrue: some moves, all forms of the numbers. -/
set_option maxRecDepth 100000
namespace Go.Ab
open Go Go.RowKit Go.Proofs
theorem far_no3 {n : Nat} (h : n ≤ 7) : decide ((if ((0 : Nat) : Int) > (n : Int) then ((0 : Nat) : Int) else (n : Int)) > (40 : Int)) = false := by
  refine decide_eq_false ?_
  split <;> omega
theorem min_mod3 {m8 : Int} (h : 0 ≤ m8 ∧ m8 < 256) : 0 ≤ (IntKind.i64.wrap m8).tmod 221 ∧ (IntKind.i64.wrap m8).tmod 221 ≤ 220 := by
  rw [wrapI (by omega) (by omega)]
  obtain ⟨m, rfl⟩ := Int.eq_ofNat_of_zero_le h.1
  have e2 : ((m : Nat) : Int).tmod 221 = ((m % 221 : Nat) : Int) := rfl
  have hm := Nat.mod_lt m (show 0 < 221 by omega)
  rw [e2]
  omega
section
variable {p : Int} {n : Nat} {f : Nat → Mv}
theorem backT_eq (lg : Nat → Int) (i k : Nat) : backT p f lg i k = canT p f lg k i := by
  simp only [backT, canT, wk_dist, distI_comm (f i) (f k)]
theorem qT_iff {g lg : Nat → Int} {i j : Nat} : qT p f g lg i j = true ↔ (i ≠ j → g i = g j → canT p f lg i j = true ∨ canT p f lg j i = true) := by
  simp only [qT, backT_eq, Bool.or_eq_true, beq_iff_eq, bne_iff_ne, Int.ofNat_inj, ne_eq]
  constructor
  · rintro (h | h | h) h1 h2
    · exact absurd h h1
    · exact absurd h2 h
    · exact h
  · intro h
    by_cases h1 : i = j
    · exact Or.inl h1
    · by_cases h2 : g i = g j
      · exact Or.inr (Or.inr (h h1 h2))
      · exact Or.inr (Or.inl h2)
theorem allQ_right {g lg : Nat → Int} : allQ p n f g lg n = true ↔ RightT p n f g lg := by
  simp only [allQ, andN_iff, qT_iff]
  exact ⟨fun h i k hi hk hne hg => h i hi k hk hne hg, fun h i hi k hk hne hg => h i k hi hk hne hg⟩
theorem right_mono {g lg lg' : Nat → Int} (h : ∀ i, i < n → lg i ≤ lg' i) (hr : RightT p n f g lg') : RightT p n f g lg := fun i k hi hk hne hg =>
  (hr i k hi hk hne hg).elim (fun x => Or.inl (canT_mono (h i hi) x)) (fun x => Or.inr (canT_mono (h k hk) x))
theorem lgS_false (i : Nat) : lgS false f i = (f i).lo := rfl
theorem lgS_true (i : Nat) : lgS true f i = (f i).hi := rfl
theorem und_le {a : Int} {lg lg' : Nat → Int} (h : ∀ i, i < n → lg i ≤ lg' i) : decide (((cntN (undB a f lg) n : Nat) : Int) ≤ ((cntN (undB a f lg') n : Nat) : Int)) = true :=
  decide_eq_true (Int.ofNat_le.mpr (cntN_mono fun i hi hu => undB_mono (h i hi) hu))
end
theorem f3ssA (p : Int) (n c k d t e : Nat) (m8 : Int) (f : Nat → Mv) (bs : Nat → Int) (ts : Nat → Int) (R : ARes → Prop) : (vx.call 3 [hV p n c, slV 1 k d, slV 2 t e, U8 m8] (retK R) ⟨fillX [.cells (mvs n f) 1 .ro, .cells (u8s k bs) 2 .ro, .cells (u8s t ts) 2 .ro] 0 .nil, 3⟩ ((17, .val (.bool false)) :: (4, Hint.con ((C21 p n c f).when (ARes.ret (Value.bool true)))) :: (6, Hint.conN (C13 p n c k d f bs)) :: (6, Hint.loopW T3a (AExit.exit (0 : Nat)) T3b fun _ => { hs := { vs := [U8 m8, I (↑n : Int), I (↑n : Int), I p], ns := [(t, e), (n, n), (n, n), (n, c), (n, c)] }, ls := [mvs n f, u8s t ts, ints n (planG k bs), ints n (longF t ts f)], es := [] }) :: (3, Hint.conN (C14 p n c n n f (planG k bs) (longF t ts f))) :: (3, Hint.conN (C15 p n c n f (planG k bs))) :: (7, Hint.con ((C16 true p n c n n f (planG k bs)).when (ARes.ret (Value.tuple { toList := [I (0 : Int), I (0 : Int), I (4 : Int)] })))) :: (9, Hint.con ((C16 false p n c n n f (planG k bs)).when (ARes.ret (Value.tuple { toList := [I (0 : Int), I (0 : Int), I (4 : Int)] })))) :: (14, .val (.bool false)) :: (36, Hint.loopW T3c (AExit.exit (2 : Nat)) T3c fun _ => { hs := { vs := [I (4 : Int), I (4 : Int), Value.bool (allQ p n f (planG k bs) (longF t ts f) n), I ((IntKind.i64.wrap m8).tmod (221 : Int)), I (↑(cntN (undB ((IntKind.i64.wrap m8).tmod (221 : Int)) f (longF t ts f)) n) : Int), I (↑n : Int), I (↑n : Int), I p], ns := [(n, n), (n, n), (n, n), (n, n), (n, c), (n, c)] }, ls := [mvs n f, ints n (planG k bs), ints n (longF t ts f), ints n (begS p n f (planG k bs) (longF t ts f)), spansC n (latS false p n f (planG k bs)) (latS true p n f (planG k bs))], es := [] }) :: (2, Hint.con (C19 p ((IntKind.i64.wrap m8).tmod (221 : Int)) n c f (busyV ((IntKind.i64.wrap m8).tmod (221 : Int)) n f))) :: [(6, .split ([(6, .split ([(11, .split ([(5, .split ((2, Hint.con C12) :: []) ([]))]) ([]))]) ([]))]) ([(4, .split ([(11, .split ([(5, .split ((2, Hint.con C12) :: []) ([]))]) ([]))]) ([]))]))])) =
(((((some (.bool (decide ((if (↑(0 : Nat) : Int) > (↑n : Int) then (↑(0 : Nat) : Int) else (↑n : Int)) > (40 : Int)))) : Option Value) = some (.bool false))) ∧
((ConOK Try.prog ((21 : Nat)) ((C21 p n c f).when (ARes.ret (Value.bool true)))) ∧ (Con.pre ((C21 p n c f).when (ARes.ret (Value.bool true))) ⟨⟨[(.int .i64 (p))], [⟨(n), (c)⟩]⟩, [(mvs n f)]⟩) ∧ 
((ConNOK Try.prog ((13 : Nat)) (C13 p n c k d f bs)) ∧ (ConN.pre (C13 p n c k d f bs) ⟨⟨[(.int .i64 (p))], [⟨(n), (c)⟩, ⟨(k), (d)⟩]⟩, [(mvs n f), (u8s k bs)]⟩) ∧ 
((ClW ⟨⟨[(.int .u8 (m8)), (.int .i64 ((↑n : Int))), (.int .i64 ((0 : Int))), (.int .i64 (p))], [⟨(t), (e)⟩, ⟨(n), (n)⟩, ⟨(n), (c)⟩, ⟨(n), (c)⟩]⟩, [(mvs n f), (u8s t ts), (ints n (planG k bs))], []⟩) ∧ (LoopOW Try.prog .none p3a (T3a) ⟨⟨[(.int .u8 (m8)), (.int .i64 ((↑n : Int))), (.int .i64 ((0 : Int))), (.int .i64 (p))], [⟨(t), (e)⟩, ⟨(n), (n)⟩, ⟨(n), (c)⟩, ⟨(n), (c)⟩]⟩, [(mvs n f), (u8s t ts), (ints n (planG k bs))], []⟩ (.exit ((0 : Nat))) (T3b) ⟨⟨[(.int .u8 (m8)), (.int .i64 ((↑n : Int))), (.int .i64 ((↑n : Int))), (.int .i64 (p))], [⟨(t), (e)⟩, ⟨(n), (n)⟩, ⟨(n), (n)⟩, ⟨(n), (c)⟩, ⟨(n), (c)⟩]⟩, [(mvs n f), (u8s t ts), (ints n (planG k bs)), (ints n (longF t ts f))], []⟩) ∧ 
((ConNOK Try.prog ((14 : Nat)) (C14 p n c n n f (planG k bs) (longF t ts f))) ∧ (ConN.pre (C14 p n c n n f (planG k bs) (longF t ts f)) ⟨⟨[(.int .i64 (p))], [⟨(n), (c)⟩, ⟨(n), (n)⟩, ⟨(n), (n)⟩]⟩, [(mvs n f), (ints n (planG k bs)), (ints n (longF t ts f))]⟩) ∧ 
((ConNOK Try.prog ((15 : Nat)) (C15 p n c n f (planG k bs))) ∧ (ConN.pre (C15 p n c n f (planG k bs)) ⟨⟨[(.int .i64 (p))], [⟨(n), (c)⟩, ⟨(n), (n)⟩]⟩, [(mvs n f), (ints n (planG k bs))]⟩) ∧ 
((ConOK Try.prog ((16 : Nat)) ((C16 true p n c n n f (planG k bs)).when (ARes.ret (Value.tuple { toList := [I (0 : Int), I (0 : Int), I (4 : Int)] })))) ∧ (Con.pre ((C16 true p n c n n f (planG k bs)).when (ARes.ret (Value.tuple { toList := [I (0 : Int), I (0 : Int), I (4 : Int)] }))) ⟨⟨[(.int .i64 (p)), (.bool true)], [⟨(n), (c)⟩, ⟨(n), (n)⟩]⟩, [(mvs n f), (ints n (planG k bs))]⟩) ∧ 
((ConOK Try.prog ((16 : Nat)) ((C16 false p n c n n f (planG k bs)).when (ARes.ret (Value.tuple { toList := [I (0 : Int), I (0 : Int), I (4 : Int)] })))) ∧ (Con.pre ((C16 false p n c n n f (planG k bs)).when (ARes.ret (Value.tuple { toList := [I (0 : Int), I (0 : Int), I (4 : Int)] }))) ⟨⟨[(.int .i64 (p)), (.bool false)], [⟨(n), (c)⟩, ⟨(n), (n)⟩]⟩, [(mvs n f), (ints n (planG k bs))]⟩) ∧ 
((((some (.bool ((↑n : Int) != (↑n : Int))) : Option Value) = some (.bool false))) ∧
((ClW ⟨⟨[(.int .i64 ((4 : Int))), (.int .i64 ((4 : Int))), (.bool true), (.int .i64 ((IntKind.i64.wrap m8).tmod (221 : Int))), (.int .i64 ((0 : Int))), (.int .i64 ((↑n : Int))), (.int .i64 ((0 : Int))), (.int .i64 (p))], [⟨(n), (n)⟩, ⟨(n), (n)⟩, ⟨(n), (n)⟩, ⟨(n), (n)⟩, ⟨(n), (c)⟩, ⟨(n), (c)⟩]⟩, [(mvs n f), (ints n (planG k bs)), (ints n (longF t ts f)), (ints n (begS p n f (planG k bs) (longF t ts f))), (spansC n (latS false p n f (planG k bs)) (latS true p n f (planG k bs)))], []⟩) ∧ (LoopOW Try.prog .none p3c (T3c) ⟨⟨[(.int .i64 ((4 : Int))), (.int .i64 ((4 : Int))), (.bool true), (.int .i64 ((IntKind.i64.wrap m8).tmod (221 : Int))), (.int .i64 ((0 : Int))), (.int .i64 ((↑n : Int))), (.int .i64 ((0 : Int))), (.int .i64 (p))], [⟨(n), (n)⟩, ⟨(n), (n)⟩, ⟨(n), (n)⟩, ⟨(n), (n)⟩, ⟨(n), (c)⟩, ⟨(n), (c)⟩]⟩, [(mvs n f), (ints n (planG k bs)), (ints n (longF t ts f)), (ints n (begS p n f (planG k bs) (longF t ts f))), (spansC n (latS false p n f (planG k bs)) (latS true p n f (planG k bs)))], []⟩ (.exit ((2 : Nat))) (T3c) ⟨⟨[(.int .i64 ((4 : Int))), (.int .i64 ((4 : Int))), (.bool (allQ p n f (planG k bs) (longF t ts f) n)), (.int .i64 ((IntKind.i64.wrap m8).tmod (OfNat.ofNat (221 : Nat)))), (.int .i64 ((↑(cntN (undB ((IntKind.i64.wrap m8).tmod (OfNat.ofNat (221 : Nat))) f (longF t ts f)) n) : Int))), (.int .i64 ((↑n : Int))), (.int .i64 ((↑n : Int))), (.int .i64 (p))], [⟨(n), (n)⟩, ⟨(n), (n)⟩, ⟨(n), (n)⟩, ⟨(n), (n)⟩, ⟨(n), (c)⟩, ⟨(n), (c)⟩]⟩, [(mvs n f), (ints n (planG k bs)), (ints n (longF t ts f)), (ints n (begS p n f (planG k bs) (longF t ts f))), (spansC n (latS false p n f (planG k bs)) (latS true p n f (planG k bs)))], []⟩) ∧ 
((ConOK Try.prog ((19 : Nat)) (C19 p ((IntKind.i64.wrap m8).tmod (OfNat.ofNat (221 : Nat))) n c f (busyV ((IntKind.i64.wrap m8).tmod (OfNat.ofNat (221 : Nat))) n f))) ∧ (Con.pre (C19 p ((IntKind.i64.wrap m8).tmod (OfNat.ofNat (221 : Nat))) n c f (busyV ((IntKind.i64.wrap m8).tmod (OfNat.ofNat (221 : Nat))) n f)) ⟨⟨[(.int .i64 (p)), (.int .i64 ((IntKind.i64.wrap m8).tmod (OfNat.ofNat (221 : Nat))))], [⟨(n), (c)⟩]⟩, [(mvs n f)]⟩) ∧ 
(((allQ p n f (planG k bs) (longF t ts f) n) = true → (((allQ p n f (planG k bs) (longF t ts f) n) = true → (((decide ((↑(cntN (undB ((IntKind.i64.wrap m8).tmod (OfNat.ofNat (221 : Nat))) f (lgS false f)) n) : Int) ≤ (↑(cntN (undB ((IntKind.i64.wrap m8).tmod (OfNat.ofNat (221 : Nat))) f (longF t ts f)) n) : Int))) = true → (((decide ((↑(cntN (undB ((IntKind.i64.wrap m8).tmod (OfNat.ofNat (221 : Nat))) f (longF t ts f)) n) : Int) ≤ (↑(cntN (undB ((IntKind.i64.wrap m8).tmod (OfNat.ofNat (221 : Nat))) f (lgS true f)) n) : Int))) = true → ((ConOK Try.prog ((12 : Nat)) (C12)) ∧ (Con.pre (C12) ⟨⟨[], []⟩, []⟩) ∧ 
R (.ret (.bool true)))) ∧
((decide ((↑(cntN (undB ((IntKind.i64.wrap m8).tmod (OfNat.ofNat (221 : Nat))) f (longF t ts f)) n) : Int) ≤ (↑(cntN (undB ((IntKind.i64.wrap m8).tmod (OfNat.ofNat (221 : Nat))) f (lgS true f)) n) : Int))) = false → R (.ret (.bool false))))) ∧
((decide ((↑(cntN (undB ((IntKind.i64.wrap m8).tmod (OfNat.ofNat (221 : Nat))) f (lgS false f)) n) : Int) ≤ (↑(cntN (undB ((IntKind.i64.wrap m8).tmod (OfNat.ofNat (221 : Nat))) f (longF t ts f)) n) : Int))) = false → R (.ret (.bool false))))) ∧
((allQ p n f (planG k bs) (longF t ts f) n) = false → R (.ret (.bool false))))) ∧
((allQ p n f (planG k bs) (longF t ts f) n) = false → (((allQ p n f (planG k bs) (longF t ts f) n) = true → (((decide ((↑(cntN (undB ((IntKind.i64.wrap m8).tmod (OfNat.ofNat (221 : Nat))) f (lgS false f)) n) : Int) ≤ (↑(cntN (undB ((IntKind.i64.wrap m8).tmod (OfNat.ofNat (221 : Nat))) f (longF t ts f)) n) : Int))) = true → (((decide ((↑(cntN (undB ((IntKind.i64.wrap m8).tmod (OfNat.ofNat (221 : Nat))) f (longF t ts f)) n) : Int) ≤ (↑(cntN (undB ((IntKind.i64.wrap m8).tmod (OfNat.ofNat (221 : Nat))) f (lgS true f)) n) : Int))) = true → ((ConOK Try.prog ((12 : Nat)) (C12)) ∧ (Con.pre (C12) ⟨⟨[], []⟩, []⟩) ∧ 
R (.ret (.bool true)))) ∧
((decide ((↑(cntN (undB ((IntKind.i64.wrap m8).tmod (OfNat.ofNat (221 : Nat))) f (longF t ts f)) n) : Int) ≤ (↑(cntN (undB ((IntKind.i64.wrap m8).tmod (OfNat.ofNat (221 : Nat))) f (lgS true f)) n) : Int))) = false → R (.ret (.bool false))))) ∧
((decide ((↑(cntN (undB ((IntKind.i64.wrap m8).tmod (OfNat.ofNat (221 : Nat))) f (lgS false f)) n) : Int) ≤ (↑(cntN (undB ((IntKind.i64.wrap m8).tmod (OfNat.ofNat (221 : Nat))) f (longF t ts f)) n) : Int))) = false → R (.ret (.bool false))))) ∧
((allQ p n f (planG k bs) (longF t ts f) n) = false → R (.ret (.bool false)))))))))))))))))) := by kernel_rfl

theorem f3ssB (p : Int) (n c k d t e : Nat) (m8 : Int) (f : Nat → Mv) (bs : Nat → Int) (ts : Nat → Int) (a1 b1 : Int) (R : ARes → Prop) : (vx.call 3 [hV p n c, slV 1 k d, slV 2 t e, U8 m8] (retK R) ⟨fillX [.cells (mvs n f) 1 .ro, .cells (u8s k bs) 2 .ro, .cells (u8s t ts) 2 .ro] 0 .nil, 3⟩ ((17, .val (.bool false)) :: (4, Hint.con ((C21 p n c f).when (ARes.ret (Value.bool true)))) :: (6, Hint.conN (C13 p n c k d f bs)) :: (6, Hint.loopW T3a (AExit.exit (0 : Nat)) T3b fun _ => { hs := { vs := [U8 m8, I (↑n : Int), I (↑n : Int), I p], ns := [(t, e), (n, n), (n, n), (n, c), (n, c)] }, ls := [mvs n f, u8s t ts, ints n (planG k bs), ints n (longF t ts f)], es := [] }) :: (3, Hint.conN (C14 p n c n n f (planG k bs) (longF t ts f))) :: (3, Hint.conN (C15 p n c n f (planG k bs))) :: (7, Hint.con ((C16 true p n c n n f (planG k bs)).when (ARes.ret (Value.tuple { toList := [I a1, I b1, I (0 : Int)] })))) :: (9, Hint.con ((C16 false p n c n n f (planG k bs)).when (ARes.ret (Value.tuple { toList := [I (0 : Int), I (0 : Int), I (4 : Int)] })))) :: (14, .val (.bool false)) :: (32, Hint.loopW T3c (AExit.exit (2 : Nat)) T3c fun _ => { hs := { vs := [I (0 : Int), I (4 : Int), Value.bool (allQ p n f (planG k bs) (longF t ts f) n), I ((IntKind.i64.wrap m8).tmod (221 : Int)), I (↑(cntN (undB ((IntKind.i64.wrap m8).tmod (221 : Int)) f (longF t ts f)) n) : Int), I (↑n : Int), I (↑n : Int), I p], ns := [(n, n), (n, n), (n, n), (n, n), (n, c), (n, c)] }, ls := [mvs n f, ints n (planG k bs), ints n (longF t ts f), ints n (begS p n f (planG k bs) (longF t ts f)), spansC n (latS false p n f (planG k bs)) (latS true p n f (planG k bs))], es := [] }) :: (2, Hint.con (C19 p ((IntKind.i64.wrap m8).tmod (221 : Int)) n c f (busyV ((IntKind.i64.wrap m8).tmod (221 : Int)) n f))) :: [(6, .split ([(6, .split ([(11, .split ([(5, .split ((2, Hint.con C12) :: []) ([]))]) ([]))]) ([(13, .split ([(5, .split ((2, Hint.con C12) :: []) ([]))]) ([]))]))]) ([(4, .split ([(11, .split ([(5, .split ((2, Hint.con C12) :: []) ([]))]) ([]))]) ([(13, .split ([(5, .split ((2, Hint.con C12) :: []) ([]))]) ([]))]))]))])) =
(((((some (.bool (decide ((if (↑(0 : Nat) : Int) > (↑n : Int) then (↑(0 : Nat) : Int) else (↑n : Int)) > (40 : Int)))) : Option Value) = some (.bool false))) ∧
((ConOK Try.prog ((21 : Nat)) ((C21 p n c f).when (ARes.ret (Value.bool true)))) ∧ (Con.pre ((C21 p n c f).when (ARes.ret (Value.bool true))) ⟨⟨[(.int .i64 (p))], [⟨(n), (c)⟩]⟩, [(mvs n f)]⟩) ∧ 
((ConNOK Try.prog ((13 : Nat)) (C13 p n c k d f bs)) ∧ (ConN.pre (C13 p n c k d f bs) ⟨⟨[(.int .i64 (p))], [⟨(n), (c)⟩, ⟨(k), (d)⟩]⟩, [(mvs n f), (u8s k bs)]⟩) ∧ 
((ClW ⟨⟨[(.int .u8 (m8)), (.int .i64 ((↑n : Int))), (.int .i64 ((0 : Int))), (.int .i64 (p))], [⟨(t), (e)⟩, ⟨(n), (n)⟩, ⟨(n), (c)⟩, ⟨(n), (c)⟩]⟩, [(mvs n f), (u8s t ts), (ints n (planG k bs))], []⟩) ∧ (LoopOW Try.prog .none p3a (T3a) ⟨⟨[(.int .u8 (m8)), (.int .i64 ((↑n : Int))), (.int .i64 ((0 : Int))), (.int .i64 (p))], [⟨(t), (e)⟩, ⟨(n), (n)⟩, ⟨(n), (c)⟩, ⟨(n), (c)⟩]⟩, [(mvs n f), (u8s t ts), (ints n (planG k bs))], []⟩ (.exit ((0 : Nat))) (T3b) ⟨⟨[(.int .u8 (m8)), (.int .i64 ((↑n : Int))), (.int .i64 ((↑n : Int))), (.int .i64 (p))], [⟨(t), (e)⟩, ⟨(n), (n)⟩, ⟨(n), (n)⟩, ⟨(n), (c)⟩, ⟨(n), (c)⟩]⟩, [(mvs n f), (u8s t ts), (ints n (planG k bs)), (ints n (longF t ts f))], []⟩) ∧ 
((ConNOK Try.prog ((14 : Nat)) (C14 p n c n n f (planG k bs) (longF t ts f))) ∧ (ConN.pre (C14 p n c n n f (planG k bs) (longF t ts f)) ⟨⟨[(.int .i64 (p))], [⟨(n), (c)⟩, ⟨(n), (n)⟩, ⟨(n), (n)⟩]⟩, [(mvs n f), (ints n (planG k bs)), (ints n (longF t ts f))]⟩) ∧ 
((ConNOK Try.prog ((15 : Nat)) (C15 p n c n f (planG k bs))) ∧ (ConN.pre (C15 p n c n f (planG k bs)) ⟨⟨[(.int .i64 (p))], [⟨(n), (c)⟩, ⟨(n), (n)⟩]⟩, [(mvs n f), (ints n (planG k bs))]⟩) ∧ 
((ConOK Try.prog ((16 : Nat)) ((C16 true p n c n n f (planG k bs)).when (ARes.ret (Value.tuple { toList := [I a1, I b1, I (0 : Int)] })))) ∧ (Con.pre ((C16 true p n c n n f (planG k bs)).when (ARes.ret (Value.tuple { toList := [I a1, I b1, I (0 : Int)] }))) ⟨⟨[(.int .i64 (p)), (.bool true)], [⟨(n), (c)⟩, ⟨(n), (n)⟩]⟩, [(mvs n f), (ints n (planG k bs))]⟩) ∧ 
((ConOK Try.prog ((16 : Nat)) ((C16 false p n c n n f (planG k bs)).when (ARes.ret (Value.tuple { toList := [I (0 : Int), I (0 : Int), I (4 : Int)] })))) ∧ (Con.pre ((C16 false p n c n n f (planG k bs)).when (ARes.ret (Value.tuple { toList := [I (0 : Int), I (0 : Int), I (4 : Int)] }))) ⟨⟨[(.int .i64 (p)), (.bool false)], [⟨(n), (c)⟩, ⟨(n), (n)⟩]⟩, [(mvs n f), (ints n (planG k bs))]⟩) ∧ 
((((some (.bool ((↑n : Int) != (↑n : Int))) : Option Value) = some (.bool false))) ∧
((ClW ⟨⟨[(.int .i64 ((0 : Int))), (.int .i64 ((4 : Int))), (.bool true), (.int .i64 ((IntKind.i64.wrap m8).tmod (221 : Int))), (.int .i64 ((0 : Int))), (.int .i64 ((↑n : Int))), (.int .i64 ((0 : Int))), (.int .i64 (p))], [⟨(n), (n)⟩, ⟨(n), (n)⟩, ⟨(n), (n)⟩, ⟨(n), (n)⟩, ⟨(n), (c)⟩, ⟨(n), (c)⟩]⟩, [(mvs n f), (ints n (planG k bs)), (ints n (longF t ts f)), (ints n (begS p n f (planG k bs) (longF t ts f))), (spansC n (latS false p n f (planG k bs)) (latS true p n f (planG k bs)))], []⟩) ∧ (LoopOW Try.prog .none p3c (T3c) ⟨⟨[(.int .i64 ((0 : Int))), (.int .i64 ((4 : Int))), (.bool true), (.int .i64 ((IntKind.i64.wrap m8).tmod (221 : Int))), (.int .i64 ((0 : Int))), (.int .i64 ((↑n : Int))), (.int .i64 ((0 : Int))), (.int .i64 (p))], [⟨(n), (n)⟩, ⟨(n), (n)⟩, ⟨(n), (n)⟩, ⟨(n), (n)⟩, ⟨(n), (c)⟩, ⟨(n), (c)⟩]⟩, [(mvs n f), (ints n (planG k bs)), (ints n (longF t ts f)), (ints n (begS p n f (planG k bs) (longF t ts f))), (spansC n (latS false p n f (planG k bs)) (latS true p n f (planG k bs)))], []⟩ (.exit ((2 : Nat))) (T3c) ⟨⟨[(.int .i64 ((0 : Int))), (.int .i64 ((4 : Int))), (.bool (allQ p n f (planG k bs) (longF t ts f) n)), (.int .i64 ((IntKind.i64.wrap m8).tmod (OfNat.ofNat (221 : Nat)))), (.int .i64 ((↑(cntN (undB ((IntKind.i64.wrap m8).tmod (OfNat.ofNat (221 : Nat))) f (longF t ts f)) n) : Int))), (.int .i64 ((↑n : Int))), (.int .i64 ((↑n : Int))), (.int .i64 (p))], [⟨(n), (n)⟩, ⟨(n), (n)⟩, ⟨(n), (n)⟩, ⟨(n), (n)⟩, ⟨(n), (c)⟩, ⟨(n), (c)⟩]⟩, [(mvs n f), (ints n (planG k bs)), (ints n (longF t ts f)), (ints n (begS p n f (planG k bs) (longF t ts f))), (spansC n (latS false p n f (planG k bs)) (latS true p n f (planG k bs)))], []⟩) ∧ 
((ConOK Try.prog ((19 : Nat)) (C19 p ((IntKind.i64.wrap m8).tmod (OfNat.ofNat (221 : Nat))) n c f (busyV ((IntKind.i64.wrap m8).tmod (OfNat.ofNat (221 : Nat))) n f))) ∧ (Con.pre (C19 p ((IntKind.i64.wrap m8).tmod (OfNat.ofNat (221 : Nat))) n c f (busyV ((IntKind.i64.wrap m8).tmod (OfNat.ofNat (221 : Nat))) n f)) ⟨⟨[(.int .i64 (p)), (.int .i64 ((IntKind.i64.wrap m8).tmod (OfNat.ofNat (221 : Nat))))], [⟨(n), (c)⟩]⟩, [(mvs n f)]⟩) ∧ 
(((allQ p n f (planG k bs) (longF t ts f) n) = true → (((allQ p n f (planG k bs) (longF t ts f) n) = true → (((decide ((↑(cntN (undB ((IntKind.i64.wrap m8).tmod (OfNat.ofNat (221 : Nat))) f (lgS false f)) n) : Int) ≤ (↑(cntN (undB ((IntKind.i64.wrap m8).tmod (OfNat.ofNat (221 : Nat))) f (longF t ts f)) n) : Int))) = true → (((decide ((↑(cntN (undB ((IntKind.i64.wrap m8).tmod (OfNat.ofNat (221 : Nat))) f (longF t ts f)) n) : Int) ≤ (↑(cntN (undB ((IntKind.i64.wrap m8).tmod (OfNat.ofNat (221 : Nat))) f (lgS true f)) n) : Int))) = true → ((ConOK Try.prog ((12 : Nat)) (C12)) ∧ (Con.pre (C12) ⟨⟨[], []⟩, []⟩) ∧ 
R (.ret (.bool true)))) ∧
((decide ((↑(cntN (undB ((IntKind.i64.wrap m8).tmod (OfNat.ofNat (221 : Nat))) f (longF t ts f)) n) : Int) ≤ (↑(cntN (undB ((IntKind.i64.wrap m8).tmod (OfNat.ofNat (221 : Nat))) f (lgS true f)) n) : Int))) = false → R (.ret (.bool false))))) ∧
((decide ((↑(cntN (undB ((IntKind.i64.wrap m8).tmod (OfNat.ofNat (221 : Nat))) f (lgS false f)) n) : Int) ≤ (↑(cntN (undB ((IntKind.i64.wrap m8).tmod (OfNat.ofNat (221 : Nat))) f (longF t ts f)) n) : Int))) = false → R (.ret (.bool false))))) ∧
((allQ p n f (planG k bs) (longF t ts f) n) = false → (((decide ((↑(cntN (undB ((IntKind.i64.wrap m8).tmod (OfNat.ofNat (221 : Nat))) f (lgS false f)) n) : Int) ≤ (↑(cntN (undB ((IntKind.i64.wrap m8).tmod (OfNat.ofNat (221 : Nat))) f (longF t ts f)) n) : Int))) = true → (((decide ((↑(cntN (undB ((IntKind.i64.wrap m8).tmod (OfNat.ofNat (221 : Nat))) f (longF t ts f)) n) : Int) ≤ (↑(cntN (undB ((IntKind.i64.wrap m8).tmod (OfNat.ofNat (221 : Nat))) f (lgS true f)) n) : Int))) = true → ((ConOK Try.prog ((12 : Nat)) (C12)) ∧ (Con.pre (C12) ⟨⟨[], []⟩, []⟩) ∧ 
R (.ret (.bool true)))) ∧
((decide ((↑(cntN (undB ((IntKind.i64.wrap m8).tmod (OfNat.ofNat (221 : Nat))) f (longF t ts f)) n) : Int) ≤ (↑(cntN (undB ((IntKind.i64.wrap m8).tmod (OfNat.ofNat (221 : Nat))) f (lgS true f)) n) : Int))) = false → R (.ret (.bool false))))) ∧
((decide ((↑(cntN (undB ((IntKind.i64.wrap m8).tmod (OfNat.ofNat (221 : Nat))) f (lgS false f)) n) : Int) ≤ (↑(cntN (undB ((IntKind.i64.wrap m8).tmod (OfNat.ofNat (221 : Nat))) f (longF t ts f)) n) : Int))) = false → R (.ret (.bool false))))))) ∧
((allQ p n f (planG k bs) (longF t ts f) n) = false → (((allQ p n f (planG k bs) (longF t ts f) n) = true → (((decide ((↑(cntN (undB ((IntKind.i64.wrap m8).tmod (OfNat.ofNat (221 : Nat))) f (lgS false f)) n) : Int) ≤ (↑(cntN (undB ((IntKind.i64.wrap m8).tmod (OfNat.ofNat (221 : Nat))) f (longF t ts f)) n) : Int))) = true → (((decide ((↑(cntN (undB ((IntKind.i64.wrap m8).tmod (OfNat.ofNat (221 : Nat))) f (longF t ts f)) n) : Int) ≤ (↑(cntN (undB ((IntKind.i64.wrap m8).tmod (OfNat.ofNat (221 : Nat))) f (lgS true f)) n) : Int))) = true → ((ConOK Try.prog ((12 : Nat)) (C12)) ∧ (Con.pre (C12) ⟨⟨[], []⟩, []⟩) ∧ 
R (.ret (.bool true)))) ∧
((decide ((↑(cntN (undB ((IntKind.i64.wrap m8).tmod (OfNat.ofNat (221 : Nat))) f (longF t ts f)) n) : Int) ≤ (↑(cntN (undB ((IntKind.i64.wrap m8).tmod (OfNat.ofNat (221 : Nat))) f (lgS true f)) n) : Int))) = false → R (.ret (.bool false))))) ∧
((decide ((↑(cntN (undB ((IntKind.i64.wrap m8).tmod (OfNat.ofNat (221 : Nat))) f (lgS false f)) n) : Int) ≤ (↑(cntN (undB ((IntKind.i64.wrap m8).tmod (OfNat.ofNat (221 : Nat))) f (longF t ts f)) n) : Int))) = false → R (.ret (.bool false))))) ∧
((allQ p n f (planG k bs) (longF t ts f) n) = false → (((decide ((↑(cntN (undB ((IntKind.i64.wrap m8).tmod (OfNat.ofNat (221 : Nat))) f (lgS false f)) n) : Int) ≤ (↑(cntN (undB ((IntKind.i64.wrap m8).tmod (OfNat.ofNat (221 : Nat))) f (longF t ts f)) n) : Int))) = true → (((decide ((↑(cntN (undB ((IntKind.i64.wrap m8).tmod (OfNat.ofNat (221 : Nat))) f (longF t ts f)) n) : Int) ≤ (↑(cntN (undB ((IntKind.i64.wrap m8).tmod (OfNat.ofNat (221 : Nat))) f (lgS true f)) n) : Int))) = true → ((ConOK Try.prog ((12 : Nat)) (C12)) ∧ (Con.pre (C12) ⟨⟨[], []⟩, []⟩) ∧ 
R (.ret (.bool true)))) ∧
((decide ((↑(cntN (undB ((IntKind.i64.wrap m8).tmod (OfNat.ofNat (221 : Nat))) f (longF t ts f)) n) : Int) ≤ (↑(cntN (undB ((IntKind.i64.wrap m8).tmod (OfNat.ofNat (221 : Nat))) f (lgS true f)) n) : Int))) = false → R (.ret (.bool false))))) ∧
((decide ((↑(cntN (undB ((IntKind.i64.wrap m8).tmod (OfNat.ofNat (221 : Nat))) f (lgS false f)) n) : Int) ≤ (↑(cntN (undB ((IntKind.i64.wrap m8).tmod (OfNat.ofNat (221 : Nat))) f (longF t ts f)) n) : Int))) = false → R (.ret (.bool false)))))))))))))))))))) := by kernel_rfl

theorem f3ssC (p : Int) (n c k d t e : Nat) (m8 : Int) (f : Nat → Mv) (bs : Nat → Int) (ts : Nat → Int) (a1 b1 : Int) (a2 b2 : Int) (R : ARes → Prop) : (vx.call 3 [hV p n c, slV 1 k d, slV 2 t e, U8 m8] (retK R) ⟨fillX [.cells (mvs n f) 1 .ro, .cells (u8s k bs) 2 .ro, .cells (u8s t ts) 2 .ro] 0 .nil, 3⟩ ((17, .val (.bool false)) :: (4, Hint.con ((C21 p n c f).when (ARes.ret (Value.bool true)))) :: (6, Hint.conN (C13 p n c k d f bs)) :: (6, Hint.loopW T3a (AExit.exit (0 : Nat)) T3b fun _ => { hs := { vs := [U8 m8, I (↑n : Int), I (↑n : Int), I p], ns := [(t, e), (n, n), (n, n), (n, c), (n, c)] }, ls := [mvs n f, u8s t ts, ints n (planG k bs), ints n (longF t ts f)], es := [] }) :: (3, Hint.conN (C14 p n c n n f (planG k bs) (longF t ts f))) :: (3, Hint.conN (C15 p n c n f (planG k bs))) :: (7, Hint.con ((C16 true p n c n n f (planG k bs)).when (ARes.ret (Value.tuple { toList := [I a1, I b1, I (0 : Int)] })))) :: (9, Hint.con ((C16 false p n c n n f (planG k bs)).when (ARes.ret (Value.tuple { toList := [I a2, I b2, I (0 : Int)] })))) :: (14, .val (.bool false)) :: (30, Hint.loopW T3c (AExit.exit (2 : Nat)) T3c fun _ => { hs := { vs := [I (0 : Int), I (0 : Int), Value.bool (allQ p n f (planG k bs) (longF t ts f) n), I ((IntKind.i64.wrap m8).tmod (221 : Int)), I (↑(cntN (undB ((IntKind.i64.wrap m8).tmod (221 : Int)) f (longF t ts f)) n) : Int), I (↑n : Int), I (↑n : Int), I p], ns := [(n, n), (n, n), (n, n), (n, n), (n, c), (n, c)] }, ls := [mvs n f, ints n (planG k bs), ints n (longF t ts f), ints n (begS p n f (planG k bs) (longF t ts f)), spansC n (latS false p n f (planG k bs)) (latS true p n f (planG k bs))], es := [] }) :: (2, Hint.con (C19 p ((IntKind.i64.wrap m8).tmod (221 : Int)) n c f (busyV ((IntKind.i64.wrap m8).tmod (221 : Int)) n f))) :: [(6, .split ([]) ([(4, .split ([(11, .split ([(5, .split ((2, Hint.con C12) :: []) ([]))]) ([]))]) ([(13, .split ([(5, .split ((2, Hint.con C12) :: []) ([]))]) ([]))]))]))])) =
(((((some (.bool (decide ((if (↑(0 : Nat) : Int) > (↑n : Int) then (↑(0 : Nat) : Int) else (↑n : Int)) > (40 : Int)))) : Option Value) = some (.bool false))) ∧
((ConOK Try.prog ((21 : Nat)) ((C21 p n c f).when (ARes.ret (Value.bool true)))) ∧ (Con.pre ((C21 p n c f).when (ARes.ret (Value.bool true))) ⟨⟨[(.int .i64 (p))], [⟨(n), (c)⟩]⟩, [(mvs n f)]⟩) ∧ 
((ConNOK Try.prog ((13 : Nat)) (C13 p n c k d f bs)) ∧ (ConN.pre (C13 p n c k d f bs) ⟨⟨[(.int .i64 (p))], [⟨(n), (c)⟩, ⟨(k), (d)⟩]⟩, [(mvs n f), (u8s k bs)]⟩) ∧ 
((ClW ⟨⟨[(.int .u8 (m8)), (.int .i64 ((↑n : Int))), (.int .i64 ((0 : Int))), (.int .i64 (p))], [⟨(t), (e)⟩, ⟨(n), (n)⟩, ⟨(n), (c)⟩, ⟨(n), (c)⟩]⟩, [(mvs n f), (u8s t ts), (ints n (planG k bs))], []⟩) ∧ (LoopOW Try.prog .none p3a (T3a) ⟨⟨[(.int .u8 (m8)), (.int .i64 ((↑n : Int))), (.int .i64 ((0 : Int))), (.int .i64 (p))], [⟨(t), (e)⟩, ⟨(n), (n)⟩, ⟨(n), (c)⟩, ⟨(n), (c)⟩]⟩, [(mvs n f), (u8s t ts), (ints n (planG k bs))], []⟩ (.exit ((0 : Nat))) (T3b) ⟨⟨[(.int .u8 (m8)), (.int .i64 ((↑n : Int))), (.int .i64 ((↑n : Int))), (.int .i64 (p))], [⟨(t), (e)⟩, ⟨(n), (n)⟩, ⟨(n), (n)⟩, ⟨(n), (c)⟩, ⟨(n), (c)⟩]⟩, [(mvs n f), (u8s t ts), (ints n (planG k bs)), (ints n (longF t ts f))], []⟩) ∧ 
((ConNOK Try.prog ((14 : Nat)) (C14 p n c n n f (planG k bs) (longF t ts f))) ∧ (ConN.pre (C14 p n c n n f (planG k bs) (longF t ts f)) ⟨⟨[(.int .i64 (p))], [⟨(n), (c)⟩, ⟨(n), (n)⟩, ⟨(n), (n)⟩]⟩, [(mvs n f), (ints n (planG k bs)), (ints n (longF t ts f))]⟩) ∧ 
((ConNOK Try.prog ((15 : Nat)) (C15 p n c n f (planG k bs))) ∧ (ConN.pre (C15 p n c n f (planG k bs)) ⟨⟨[(.int .i64 (p))], [⟨(n), (c)⟩, ⟨(n), (n)⟩]⟩, [(mvs n f), (ints n (planG k bs))]⟩) ∧ 
((ConOK Try.prog ((16 : Nat)) ((C16 true p n c n n f (planG k bs)).when (ARes.ret (Value.tuple { toList := [I a1, I b1, I (0 : Int)] })))) ∧ (Con.pre ((C16 true p n c n n f (planG k bs)).when (ARes.ret (Value.tuple { toList := [I a1, I b1, I (0 : Int)] }))) ⟨⟨[(.int .i64 (p)), (.bool true)], [⟨(n), (c)⟩, ⟨(n), (n)⟩]⟩, [(mvs n f), (ints n (planG k bs))]⟩) ∧ 
((ConOK Try.prog ((16 : Nat)) ((C16 false p n c n n f (planG k bs)).when (ARes.ret (Value.tuple { toList := [I a2, I b2, I (0 : Int)] })))) ∧ (Con.pre ((C16 false p n c n n f (planG k bs)).when (ARes.ret (Value.tuple { toList := [I a2, I b2, I (0 : Int)] }))) ⟨⟨[(.int .i64 (p)), (.bool false)], [⟨(n), (c)⟩, ⟨(n), (n)⟩]⟩, [(mvs n f), (ints n (planG k bs))]⟩) ∧ 
((((some (.bool ((↑n : Int) != (↑n : Int))) : Option Value) = some (.bool false))) ∧
((ClW ⟨⟨[(.int .i64 ((0 : Int))), (.int .i64 ((0 : Int))), (.bool true), (.int .i64 ((IntKind.i64.wrap m8).tmod (221 : Int))), (.int .i64 ((0 : Int))), (.int .i64 ((↑n : Int))), (.int .i64 ((0 : Int))), (.int .i64 (p))], [⟨(n), (n)⟩, ⟨(n), (n)⟩, ⟨(n), (n)⟩, ⟨(n), (n)⟩, ⟨(n), (c)⟩, ⟨(n), (c)⟩]⟩, [(mvs n f), (ints n (planG k bs)), (ints n (longF t ts f)), (ints n (begS p n f (planG k bs) (longF t ts f))), (spansC n (latS false p n f (planG k bs)) (latS true p n f (planG k bs)))], []⟩) ∧ (LoopOW Try.prog .none p3c (T3c) ⟨⟨[(.int .i64 ((0 : Int))), (.int .i64 ((0 : Int))), (.bool true), (.int .i64 ((IntKind.i64.wrap m8).tmod (221 : Int))), (.int .i64 ((0 : Int))), (.int .i64 ((↑n : Int))), (.int .i64 ((0 : Int))), (.int .i64 (p))], [⟨(n), (n)⟩, ⟨(n), (n)⟩, ⟨(n), (n)⟩, ⟨(n), (n)⟩, ⟨(n), (c)⟩, ⟨(n), (c)⟩]⟩, [(mvs n f), (ints n (planG k bs)), (ints n (longF t ts f)), (ints n (begS p n f (planG k bs) (longF t ts f))), (spansC n (latS false p n f (planG k bs)) (latS true p n f (planG k bs)))], []⟩ (.exit ((2 : Nat))) (T3c) ⟨⟨[(.int .i64 ((0 : Int))), (.int .i64 ((0 : Int))), (.bool (allQ p n f (planG k bs) (longF t ts f) n)), (.int .i64 ((IntKind.i64.wrap m8).tmod (OfNat.ofNat (221 : Nat)))), (.int .i64 ((↑(cntN (undB ((IntKind.i64.wrap m8).tmod (OfNat.ofNat (221 : Nat))) f (longF t ts f)) n) : Int))), (.int .i64 ((↑n : Int))), (.int .i64 ((↑n : Int))), (.int .i64 (p))], [⟨(n), (n)⟩, ⟨(n), (n)⟩, ⟨(n), (n)⟩, ⟨(n), (n)⟩, ⟨(n), (c)⟩, ⟨(n), (c)⟩]⟩, [(mvs n f), (ints n (planG k bs)), (ints n (longF t ts f)), (ints n (begS p n f (planG k bs) (longF t ts f))), (spansC n (latS false p n f (planG k bs)) (latS true p n f (planG k bs)))], []⟩) ∧ 
((ConOK Try.prog ((19 : Nat)) (C19 p ((IntKind.i64.wrap m8).tmod (OfNat.ofNat (221 : Nat))) n c f (busyV ((IntKind.i64.wrap m8).tmod (OfNat.ofNat (221 : Nat))) n f))) ∧ (Con.pre (C19 p ((IntKind.i64.wrap m8).tmod (OfNat.ofNat (221 : Nat))) n c f (busyV ((IntKind.i64.wrap m8).tmod (OfNat.ofNat (221 : Nat))) n f)) ⟨⟨[(.int .i64 (p)), (.int .i64 ((IntKind.i64.wrap m8).tmod (OfNat.ofNat (221 : Nat))))], [⟨(n), (c)⟩]⟩, [(mvs n f)]⟩) ∧ 
(((allQ p n f (planG k bs) (longF t ts f) n) = true → R (.ret (.bool false))) ∧
((allQ p n f (planG k bs) (longF t ts f) n) = false → (((allQ p n f (planG k bs) (longF t ts f) n) = true → (((decide ((↑(cntN (undB ((IntKind.i64.wrap m8).tmod (OfNat.ofNat (221 : Nat))) f (lgS false f)) n) : Int) ≤ (↑(cntN (undB ((IntKind.i64.wrap m8).tmod (OfNat.ofNat (221 : Nat))) f (longF t ts f)) n) : Int))) = true → (((decide ((↑(cntN (undB ((IntKind.i64.wrap m8).tmod (OfNat.ofNat (221 : Nat))) f (longF t ts f)) n) : Int) ≤ (↑(cntN (undB ((IntKind.i64.wrap m8).tmod (OfNat.ofNat (221 : Nat))) f (lgS true f)) n) : Int))) = true → ((ConOK Try.prog ((12 : Nat)) (C12)) ∧ (Con.pre (C12) ⟨⟨[], []⟩, []⟩) ∧ 
R (.ret (.bool true)))) ∧
((decide ((↑(cntN (undB ((IntKind.i64.wrap m8).tmod (OfNat.ofNat (221 : Nat))) f (longF t ts f)) n) : Int) ≤ (↑(cntN (undB ((IntKind.i64.wrap m8).tmod (OfNat.ofNat (221 : Nat))) f (lgS true f)) n) : Int))) = false → R (.ret (.bool false))))) ∧
((decide ((↑(cntN (undB ((IntKind.i64.wrap m8).tmod (OfNat.ofNat (221 : Nat))) f (lgS false f)) n) : Int) ≤ (↑(cntN (undB ((IntKind.i64.wrap m8).tmod (OfNat.ofNat (221 : Nat))) f (longF t ts f)) n) : Int))) = false → R (.ret (.bool false))))) ∧
((allQ p n f (planG k bs) (longF t ts f) n) = false → (((decide ((↑(cntN (undB ((IntKind.i64.wrap m8).tmod (OfNat.ofNat (221 : Nat))) f (lgS false f)) n) : Int) ≤ (↑(cntN (undB ((IntKind.i64.wrap m8).tmod (OfNat.ofNat (221 : Nat))) f (longF t ts f)) n) : Int))) = true → (((decide ((↑(cntN (undB ((IntKind.i64.wrap m8).tmod (OfNat.ofNat (221 : Nat))) f (longF t ts f)) n) : Int) ≤ (↑(cntN (undB ((IntKind.i64.wrap m8).tmod (OfNat.ofNat (221 : Nat))) f (lgS true f)) n) : Int))) = true → ((ConOK Try.prog ((12 : Nat)) (C12)) ∧ (Con.pre (C12) ⟨⟨[], []⟩, []⟩) ∧ 
R (.ret (.bool true)))) ∧
((decide ((↑(cntN (undB ((IntKind.i64.wrap m8).tmod (OfNat.ofNat (221 : Nat))) f (longF t ts f)) n) : Int) ≤ (↑(cntN (undB ((IntKind.i64.wrap m8).tmod (OfNat.ofNat (221 : Nat))) f (lgS true f)) n) : Int))) = false → R (.ret (.bool false))))) ∧
((decide ((↑(cntN (undB ((IntKind.i64.wrap m8).tmod (OfNat.ofNat (221 : Nat))) f (lgS false f)) n) : Int) ≤ (↑(cntN (undB ((IntKind.i64.wrap m8).tmod (OfNat.ofNat (221 : Nat))) f (longF t ts f)) n) : Int))) = false → R (.ret (.bool false)))))))))))))))))))) := by kernel_rfl

theorem f3xss (p : Int) (n c k d t e : Nat) (m8 : Int) (f : Nat → Mv) (bs : Nat → Int) (ts : Nat → Int) (R : ARes → Prop) : (vx.call 3 [hV p n c, slV 1 k d, slV 2 t e, U8 m8] (retK R) ⟨fillX [.cells (mvs n f) 1 .ro, .cells (u8s k bs) 2 .ro, .cells (u8s t ts) 2 .ro] 0 .nil, 3⟩ ([(17, .split ((7, Hint.con C12) :: []) ((4, Hint.con ((C21 p n c f).when (ARes.ret (Value.bool false)))) :: (4, Hint.con C12) :: []))])) =
((((decide ((if (↑(0 : Nat) : Int) > (↑n : Int) then (↑(0 : Nat) : Int) else (↑n : Int)) > (40 : Int))) = true → ((ConOK Try.prog ((12 : Nat)) (C12)) ∧ (Con.pre (C12) ⟨⟨[], []⟩, []⟩) ∧ 
R (.ret (.bool true)))) ∧
((decide ((if (↑(0 : Nat) : Int) > (↑n : Int) then (↑(0 : Nat) : Int) else (↑n : Int)) > (40 : Int))) = false → ((ConOK Try.prog ((21 : Nat)) ((C21 p n c f).when (ARes.ret (Value.bool false)))) ∧ (Con.pre ((C21 p n c f).when (ARes.ret (Value.bool false))) ⟨⟨[(.int .i64 (p))], [⟨(n), (c)⟩]⟩, [(mvs n f)]⟩) ∧ 
((ConOK Try.prog ((12 : Nat)) (C12)) ∧ (Con.pre (C12) ⟨⟨[], []⟩, []⟩) ∧ 
R (.ret (.bool true))))))) := by kernel_rfl

set_option maxHeartbeats 4000000 in
theorem law3ss (p : Int) (n c k d t e : Nat) (m8 : Int) (f : Nat → Mv) (bs : Nat → Int) (ts : Nat → Int) (h0 : 0 < n) (hn : n ≤ 1000000) (hb : ∀ i, i < k → 0 ≤ bs i ∧ bs i < 256) (ht : ∀ i, i < t → 0 ≤ ts i ∧ ts i < 256) (hm8 : 0 ≤ m8 ∧ m8 < 256) :
    ∃ hs, vx.call 3 [hV p n c, slV 1 k d, slV 2 t e, U8 m8] (retK fun r => r = .ret (.bool true)) ⟨fillX [.cells (mvs n f) 1 .ro, .cells (u8s k bs) 2 .ro, .cells (u8s t ts) 2 .ro] 0 .nil, 3⟩ hs := by
  have hwhen : ∀ r, ConOK Try.prog 21 ((C21 p n c f).when r) := fun r => con_when (C21_ok p n c f hn) r
  have key : ∀ R : ARes → Prop, R (.ret (.bool true)) → ∃ hs, vx.call 3 [hV p n c, slV 1 k d, slV 2 t e, U8 m8] (retK R) ⟨fillX [.cells (mvs n f) 1 .ro, .cells (u8s k bs) 2 .ro, .cells (u8s t ts) 2 .ro] 0 .nil, 3⟩ hs := by
    intro R hR
    cases hok : okH p n f with
    | false =>
      have hr : (C21 p n c f).res ⟨⟨[I p], [(n, c)]⟩, [mvs n f]⟩ = .ret (.bool false) := by show ARes.ret (.bool (okH p n f)) = _; rw [hok]
      exact ⟨_, (f3xss p n c k d t e m8 f bs ts R).mpr ⟨fun _ => ⟨C12_ok, rfl, hR⟩, fun _ => ⟨hwhen _, ⟨rfl, hr⟩, C12_ok, rfl, hR⟩⟩⟩
    | true =>
      have hr : (C21 p n c f).res ⟨⟨[I p], [(n, c)]⟩, [mvs n f]⟩ = .ret (.bool true) := by show ARes.ret (.bool (okH p n f)) = _; rw [hok]
      have h7 := (okH_iff hok).n7
      have hpl : okP n n (planG k bs) = true := plan_ok (n := n) hb
      obtain ⟨ma, mb⟩ := min_mod3 hm8
      have hlg : ∀ i, i < n → (f i).lo ≤ (longF t ts f) i ∧ (longF t ts f) i ≤ (f i).hi := fun i hi => longF_le hok ht hi
      have hl20 := longF_20 hok ht
      have hl3a := loop3a (p := p) (m := m8) (c := c) (d := e) (g := (planG k bs)) h0 hok ht
      have hc3a := st3a_cl p m8 n c t e f ts (planG k bs) 0
      simp only [st3a, if_neg (show ¬ n = 0 by omega), if_true] at hl3a hc3a
      have hl3c := fun (e1 e2 : Int) (hz : (e1 == (4 : Int)) = true → RightT p n f (planG k bs) (lgS true f)) => loop3c (e1 := e1) (e2 := e2) (a := (IntKind.i64.wrap m8).tmod 221) (c := c) (g := (planG k bs)) hok hlg hz
      have hc3c := fun e1 e2 : Int => h3c_cl (p := p) (n := n) (f := f) (e1 := e1) (e2 := e2) (a := (IntKind.i64.wrap m8).tmod 221) (c := c) (i := 0) (g := (planG k bs)) (lg := (longF t ts f))
      have e0 : allQ p n f (planG k bs) (longF t ts f) 0 = true := rfl
      have h16 : ∀ sure r, ConOK Try.prog 16 ((C16 sure p n c n n f (planG k bs)).when r) := fun sure r => con_when (C16_ok sure p n c n n f _ hok hpl h7 h7) r
      have u1 := und_le (n := n) (f := f) (a := (IntKind.i64.wrap m8).tmod 221) (lg := lgS false f) (lg' := (longF t ts f)) (fun i hi => (hlg i hi).1)
      have u2 := und_le (n := n) (f := f) (a := (IntKind.i64.wrap m8).tmod 221) (lg := (longF t ts f)) (lg' := lgS true f) (fun i hi => (hlg i hi).2)
      have q1 : RightT p n f (planG k bs) (lgS true f) → RightT p n f (planG k bs) (longF t ts f) := right_mono fun i hi => (hlg i hi).2
      have q2 : RightT p n f (planG k bs) (longF t ts f) → RightT p n f (planG k bs) (lgS false f) := right_mono fun i hi => (hlg i hi).1
      cases hsT : pairS (planG k bs) (ordF true p n f n) n n 0 with
      | none =>
        have rT := (right_of hok true).mp hsT
        have hsF := (right_of hok false).mpr (q2 (q1 rT))
        have hq := allQ_right.mpr (q1 rT)
        have v1 : (C16 true p n c n n f (planG k bs)).res ⟨⟨[I p, .bool true], [(n, c), (n, n)]⟩, [mvs n f, ints n (planG k bs)]⟩ = .ret (.tuple ⟨[I 0, I 0, I 4]⟩) := by show ARes.ret (checkV true p n n f _) = _; simp only [checkV, hsT]
        have v2 : (C16 false p n c n n f (planG k bs)).res ⟨⟨[I p, .bool false], [(n, c), (n, n)]⟩, [mvs n f, ints n (planG k bs)]⟩ = .ret (.tuple ⟨[I 0, I 0, I 4]⟩) := by show ARes.ret (checkV false p n n f _) = _; simp only [checkV, hsF]
        have hl3c := hl3c 4 4 (fun _ => rT)
        have hc3c := hc3c 4 4
        simp only [h3c, e0] at hl3c hc3c
        refine ⟨_, (f3ssA p n c k d t e m8 f bs ts R).mpr ?_⟩
        repeat' (first | with_reducible apply And.intro | with_reducible intro)
        all_goals first
          | (rw [far_no3 h7]; done)
          | exact hwhen _
          | exact ⟨rfl, hr⟩
          | exact C13_ok p n c k d f bs h0 hn
          | exact hc3a
          | exact hl3a
          | exact C14_ok p n c n n f _ _ hok hl20
          | exact C15_ok p n c n f _ h0 hok hpl
          | exact h16 _ _
          | exact ⟨rfl, v1⟩
          | exact ⟨rfl, v2⟩
          | exact C19_ok p _ n c f hok ma mb
          | exact hc3c
          | exact hl3c
          | exact C12_ok
          | trivial
          | exact hR
          | omega
          | rfl
          | (rw [bne_self_eq_false]; done)
          | (change (_ : Hx) = _; kernel_rfl)
          | (exfalso; rw [u1] at *; simp_all; done)
          | (exfalso; simp_all; done)
      | some mT =>
        have v1 : (C16 true p n c n n f (planG k bs)).res ⟨⟨[I p, .bool true], [(n, c), (n, n)]⟩, [mvs n f, ints n (planG k bs)]⟩ = .ret (.tuple ⟨[I mT.1, I mT.2, I 0]⟩) := by show ARes.ret (checkV true p n n f _) = _; simp only [checkV, hsT]
        cases hsF : pairS (planG k bs) (ordF false p n f n) n n 0 with
        | none =>
          have v2 : (C16 false p n c n n f (planG k bs)).res ⟨⟨[I p, .bool false], [(n, c), (n, n)]⟩, [mvs n f, ints n (planG k bs)]⟩ = .ret (.tuple ⟨[I 0, I 0, I 4]⟩) := by show ARes.ret (checkV false p n n f _) = _; simp only [checkV, hsF]
          have hl3c := hl3c 0 4 (fun h => by cases h)
          have hc3c := hc3c 0 4
          simp only [h3c, e0] at hl3c hc3c
          refine ⟨_, (f3ssB p n c k d t e m8 f bs ts mT.1 mT.2 R).mpr ?_⟩
          repeat' (first | with_reducible apply And.intro | with_reducible intro)
          all_goals first
            | (rw [far_no3 h7]; done)
            | exact hwhen _
            | exact ⟨rfl, hr⟩
            | exact C13_ok p n c k d f bs h0 hn
            | exact hc3a
            | exact hl3a
            | exact C14_ok p n c n n f _ _ hok hl20
            | exact C15_ok p n c n f _ h0 hok hpl
            | exact h16 _ _
            | exact ⟨rfl, v1⟩
            | exact ⟨rfl, v2⟩
            | exact C19_ok p _ n c f hok ma mb
            | exact hc3c
            | exact hl3c
            | exact C12_ok
            | trivial
            | exact hR
            | omega
            | rfl
            | (rw [bne_self_eq_false]; done)
            | (change (_ : Hx) = _; kernel_rfl)
            | (exfalso; rw [u1] at *; simp_all; done)
            | (exfalso; simp_all; done)
        | some mF =>
          have v2 : (C16 false p n c n n f (planG k bs)).res ⟨⟨[I p, .bool false], [(n, c), (n, n)]⟩, [mvs n f, ints n (planG k bs)]⟩ = .ret (.tuple ⟨[I mF.1, I mF.2, I 0]⟩) := by show ARes.ret (checkV false p n n f _) = _; simp only [checkV, hsF]
          have hq : allQ p n f (planG k bs) (longF t ts f) n = false := by
            cases hq : allQ p n f (planG k bs) (longF t ts f) n with
            | false => rfl
            | true =>
              have := (right_of hok false).mpr (q2 (allQ_right.mp hq))
              rw [hsF] at this
              cases this
          have hl3c := hl3c 0 0 (fun h => by cases h)
          have hc3c := hc3c 0 0
          simp only [h3c, e0] at hl3c hc3c
          refine ⟨_, (f3ssC p n c k d t e m8 f bs ts mT.1 mT.2 mF.1 mF.2 R).mpr ?_⟩
          repeat' (first | with_reducible apply And.intro | with_reducible intro)
          all_goals first
            | (rw [far_no3 h7]; done)
            | exact hwhen _
            | exact ⟨rfl, hr⟩
            | exact C13_ok p n c k d f bs h0 hn
            | exact hc3a
            | exact hl3a
            | exact C14_ok p n c n n f _ _ hok hl20
            | exact C15_ok p n c n f _ h0 hok hpl
            | exact h16 _ _
            | exact ⟨rfl, v1⟩
            | exact ⟨rfl, v2⟩
            | exact C19_ok p _ n c f hok ma mb
            | exact hc3c
            | exact hl3c
            | exact C12_ok
            | trivial
            | exact hR
            | omega
            | rfl
            | (rw [bne_self_eq_false]; done)
            | (change (_ : Hx) = _; kernel_rfl)
            | (exfalso; rw [u1] at *; simp_all; done)
            | (exfalso; simp_all; done)
  exact key _ rfl
end Go.Ab

