/- Matching, as numbers: each job with one that comes next. -/
import Init
import Derived.Test.YtamfplmmfbbabaaUY
import Derived.Test.YtamfplmmfbbabaaVA
namespace Go.Ab
structure Ms where
  T : Nat
  M : List (Nat × Nat)
def getN : List (Nat × Nat) → Nat → Option Nat
  | [], _ => none
  | e :: l, h => if h = e.1 then some e.2 else getN l h
def setN : List (Nat × Nat) → Nat → Nat → List (Nat × Nat)
  | [], h, a => [(h, a)]
  | e :: l, h, a => if h = e.1 then (h, a) :: l else e :: setN l h a
theorem getN_set (M : List (Nat × Nat)) (h h' a : Nat) : getN (setN M h a) h' = if h' = h then some a else getN M h' := by
  induction M with
  | nil => simp only [setN, getN]
  | cons e l ih =>
    simp only [setN]
    split
    · rename_i he
      subst he
      simp only [getN]
      split <;> rfl
    · rename_i he
      simp only [getN, ih]
      by_cases h1 : h' = e.1
      · subst h1
        rw [if_pos rfl, if_neg (fun hh => he hh.symm), if_pos rfl]
      · rw [if_neg h1]
        split
        · rfl
        · rfl
theorem mem_setN {M : List (Nat × Nat)} {h a : Nat} {e : Nat × Nat} (he : e ∈ setN M h a) : e = (h, a) ∨ e ∈ M := by
  induction M with
  | nil => simp only [setN, List.mem_singleton] at he; exact .inl he
  | cons x l ih =>
    simp only [setN] at he
    split at he
    · rcases List.mem_cons.1 he with rfl | he
      · exact .inl rfl
      · exact .inr (List.mem_cons_of_mem _ he)
    · rcases List.mem_cons.1 he with rfl | he
      · exact .inr List.mem_cons_self
      · exact (ih he).imp id (List.mem_cons_of_mem _)
theorem getN_mem {M : List (Nat × Nat)} {h a : Nat} (he : getN M h = some a) : (h, a) ∈ M := by
  induction M with
  | nil => cases he
  | cons x l ih =>
    simp only [getN] at he
    split at he
    · rename_i h1
      cases he
      subst h1
      exact List.mem_cons_self
    · exact List.mem_cons_of_mem _ (ih he)
section
variable (can : Nat → Nat → Bool) (q : Nat → Nat) (n : Nat)
def markN (σ : Ms) (s : Nat) : Ms := ⟨σ.T ||| 2 ^ q s, σ.M⟩
def putN (σ : Ms) (s a : Nat) : Ms := ⟨σ.T, setN σ.M s a⟩
def goF (rec : Nat → Ms → Bool × Ms) (a : Nat) : Nat → Nat → Ms → Bool × Ms
  | 0, _, σ => (false, σ)
  | r + 1, s, σ =>
    if σ.T.testBit (q s) || !(can a s) then goF rec a r (s + 1) σ
    else match getN σ.M s with
      | none => (true, putN (markN q σ s) s a)
      | some b => match rec b (markN q σ s) with
        | (true, σ2) => (true, putN σ2 s a)
        | (false, σ2) => goF rec a r (s + 1) σ2
def matchF : Nat → Nat → Ms → Bool × Ms
  | 0 => fun _ σ => (false, σ)
  | k + 1 => fun a σ => goF can q (matchF k) a n 0 σ
def unt (σ : Ms) : Nat := ((List.range n).filter fun s => !σ.T.testBit (q s)).length
structure MsOK (σ : Ms) : Prop where
  T : σ.T < 128
  keys : ∀ e ∈ σ.M, e.1 < n ∧ e.2 < n
variable {can q n}
theorem MsOK.mark (hq : ∀ s, s < n → q s < 7) {σ : Ms} (h : MsOK n σ) {s : Nat} (hs : s < n) : MsOK n (markN q σ s) := by
  refine ⟨?_, h.keys⟩
  have h1 : 2 ^ q s < 2 ^ 7 := Nat.pow_lt_pow_right (by omega) (hq s hs)
  exact Nat.or_lt_two_pow (n := 7) h.T h1
theorem MsOK.put {σ : Ms} (h : MsOK n σ) {s a : Nat} (hs : s < n) (ha : a < n) : MsOK n (putN σ s a) := by
  refine ⟨h.T, fun e he => ?_⟩
  rcases mem_setN he with rfl | he
  · exact ⟨hs, ha⟩
  · exact h.keys e he
theorem MsOK.get {σ : Ms} (h : MsOK n σ) {s b : Nat} (hg : getN σ.M s = some b) : b < n := (h.keys _ (getN_mem hg)).2
structure Steps (can : Nat → Nat → Bool) (q : Nat → Nat) (n : Nat) (rec : Nat → Ms → Bool × Ms) : Prop where
  ok : ∀ a σ, a < n → MsOK n σ → MsOK n (rec a σ).2
  mono : ∀ a σ j, σ.T.testBit j = true → (rec a σ).2.T.testBit j = true
theorem mark_mono (σ : Ms) (s j : Nat) (h : σ.T.testBit j = true) : (markN q σ s).T.testBit j = true := by
  simp only [markN, Nat.testBit_or, h, Bool.true_or]
theorem mark_self (σ : Ms) (s : Nat) : (markN q σ s).T.testBit (q s) = true := by
  simp only [markN, Nat.testBit_or, Nat.testBit_two_pow_self, Bool.or_true]
theorem goF_steps (hq : ∀ s, s < n → q s < 7) {rec : Nat → Ms → Bool × Ms} (h : Steps can q n rec) (a r : Nat) : ∀ s σ, (a < n → s + r ≤ n → MsOK n σ → MsOK n (goF can q rec a r s σ).2) ∧ ∀ j, σ.T.testBit j = true → (goF can q rec a r s σ).2.T.testBit j = true := by
  induction r with
  | zero => intro s σ; exact ⟨fun _ _ h => h, fun _ h => h⟩
  | succ r ih =>
    intro s σ
    simp only [goF]
    split
    · exact ⟨fun ha hs hσ => (ih (s + 1) σ).1 ha (by omega) hσ, (ih (s + 1) σ).2⟩
    · split
      · exact ⟨fun ha hs hσ => (hσ.mark hq (by omega)).put (by omega) ha, fun j hj => mark_mono σ s j hj⟩
      · rename_i b hb
        split
        · rename_i σ2 h2
          refine ⟨fun ha hs hσ => ?_, fun j hj => ?_⟩
          · have := h.ok b (markN q σ s) (hσ.get hb) (hσ.mark hq (by omega))
            rw [h2] at this
            exact this.put (by omega) ha
          · have := h.mono b (markN q σ s) j (mark_mono σ s j hj)
            rw [h2] at this
            exact this
        · rename_i σ2 h2
          refine ⟨fun ha hs hσ => ?_, fun j hj => ?_⟩
          · have := h.ok b (markN q σ s) (hσ.get hb) (hσ.mark hq (by omega))
            rw [h2] at this
            exact (ih (s + 1) σ2).1 ha (by omega) this
          · have := h.mono b (markN q σ s) j (mark_mono σ s j hj)
            rw [h2] at this
            exact (ih (s + 1) σ2).2 j this
theorem matchF_steps (hq : ∀ s, s < n → q s < 7) (k : Nat) : Steps can q n (matchF can q n k) := by
  induction k with
  | zero => exact ⟨fun _ _ _ h => h, fun _ _ _ h => h⟩
  | succ k ih => exact ⟨fun a σ ha hσ => (goF_steps hq ih a n 0 σ).1 ha (by omega) hσ, fun a σ => (goF_steps hq ih a n 0 σ).2⟩
theorem unt_mono {σ σ' : Ms} (h : ∀ j, σ.T.testBit j = true → σ'.T.testBit j = true) : unt q n σ' ≤ unt q n σ := by
  unfold unt
  induction n with
  | zero => simp
  | succ m ih =>
    simp only [List.range_succ, List.filter_append, List.length_append]
    have : ([m].filter fun s => !σ'.T.testBit (q s)).length ≤ ([m].filter fun s => !σ.T.testBit (q s)).length := by
      cases h1 : σ.T.testBit (q m) with
      | true => simp [h1, h _ h1]
      | false => cases h2 : σ'.T.testBit (q m) <;> simp [h1, h2]
    omega
theorem unt_mark {σ : Ms} {s : Nat} (hs : s < n) (h : σ.T.testBit (q s) = false) : unt q n (markN q σ s) < unt q n σ := by
  unfold unt
  induction n with
  | zero => omega
  | succ m ih =>
    simp only [List.range_succ, List.filter_append, List.length_append]
    have h1 : ∀ j, σ.T.testBit j = true → (markN q σ s).T.testBit j = true := fun j hj => mark_mono σ s j hj
    by_cases e : s = m
    · subst e
      have h2 := unt_mono (q := q) (n := s) h1
      unfold unt at h2
      simp only [List.filter_cons, h, mark_self, Bool.not_true, Bool.false_eq_true, if_false, Bool.not_false, if_true, List.filter_nil, List.length_cons, List.length_nil]
      omega
    · have h3 := ih (by omega)
      have : ([m].filter fun t => !(markN q σ s).T.testBit (q t)).length ≤ ([m].filter fun t => !σ.T.testBit (q t)).length := by
        cases h4 : σ.T.testBit (q m) with
        | true => simp [h4, h1 _ h4]
        | false => cases h5 : (markN q σ s).T.testBit (q m) <;> simp [h4, h5]
      omega
theorem goF_skip {rec : Nat → Ms → Bool × Ms} {a r s : Nat} {σ : Ms} (h : (σ.T.testBit (q s) || !(can a s)) = true) : goF can q rec a (r + 1) s σ = goF can q rec a r (s + 1) σ := by
  simp only [goF, h, if_true]
theorem goF_none {rec : Nat → Ms → Bool × Ms} {a r s : Nat} {σ : Ms} (h : (σ.T.testBit (q s) || !(can a s)) = false) (hg : getN σ.M s = none) : goF can q rec a (r + 1) s σ = (true, putN (markN q σ s) s a) := by
  simp only [goF, h, Bool.false_eq_true, if_false, hg]
theorem goF_true {rec : Nat → Ms → Bool × Ms} {a r s b : Nat} {σ σ2 : Ms} (h : (σ.T.testBit (q s) || !(can a s)) = false) (hg : getN σ.M s = some b) (hr : rec b (markN q σ s) = (true, σ2)) : goF can q rec a (r + 1) s σ = (true, putN σ2 s a) := by
  simp only [goF, h, Bool.false_eq_true, if_false, hg, hr]
theorem goF_false {rec : Nat → Ms → Bool × Ms} {a r s b : Nat} {σ σ2 : Ms} (h : (σ.T.testBit (q s) || !(can a s)) = false) (hg : getN σ.M s = some b) (hr : rec b (markN q σ s) = (false, σ2)) : goF can q rec a (r + 1) s σ = goF can q rec a r (s + 1) σ2 := by
  simp only [goF, h, Bool.false_eq_true, if_false, hg, hr]
theorem unt_le (σ : Ms) : unt q n σ ≤ n := by
  unfold unt
  have := List.length_filter_le (fun s => !σ.T.testBit (q s)) (List.range n)
  rwa [List.length_range] at this
variable (can q n) in
def fewS : Nat → Ms × Nat
  | 0 => (⟨0, []⟩, 0)
  | j + 1 => ((matchF can q n 8 j ⟨0, (fewS j).1.M⟩).2, if (matchF can q n 8 j ⟨0, (fewS j).1.M⟩).1 = true then (fewS j).2 else (fewS j).2 + 1)
variable (can q n) in
def fewN : Nat := (fewS can q n n).2
theorem fewS_ok (hq : ∀ s, s < n → q s < 7) (j : Nat) (hj : j ≤ n) : MsOK n (fewS can q n j).1 ∧ (fewS can q n j).2 ≤ j := by
  induction j with
  | zero => exact ⟨⟨by simp [fewS], fun e he => by simp [fewS] at he⟩, Nat.le_refl _⟩
  | succ j ih =>
    obtain ⟨h1, h2⟩ := ih (by omega)
    refine ⟨(matchF_steps hq 8).ok j ⟨0, (fewS can q n j).1.M⟩ (by omega) ⟨Nat.zero_lt_succ _, h1.keys⟩, ?_⟩
    simp only [fewS]
    split <;> omega
end
end Go.Ab
set_option maxRecDepth 100000
namespace Go.Ab
open Go Go.RowKit Go.Proofs
noncomputable def jobU (f : Nat → Mv) (q : Nat → Nat) (k : Nat) : List Value := [I (f k).at_, I (f k).place, I (f k).lo, I (f k).hi, I (q k : Nat)]
noncomputable def jobsU (m : Nat) (f : Nat → Mv) (q : Nat → Nat) : List Value := flatC m (jobU f q)
noncomputable def jU (f : Nat → Mv) (q : Nat → Nat) (k : Nat) : Value := .agg ⟨jobU f q k⟩
def pN (j : Nat) : Value := .pointer (some ⟨j, 0, none⟩)
def T5h (l : TL) : TL := .agg (.hole (.hole (.hole (.hole (.hole .nil))))) l
def T7h (l : TL) : TL := .agg (.hole (.hole (.hole (.hole (.hole (.hole (.hole .nil))))))) l
noncomputable def canV (o : Nat → Int) : Value := .func (.func 77) ⟨[.agg ⟨ints 7 o⟩]⟩ ⟨[]⟩
noncomputable def capV : Value := .func (.func 95) ⟨[]⟩ ⟨[pN 0, pN 1, pN 2, pN 3, pN 4]⟩
noncomputable def m95 (o : Nat → Int) (n c : Nat) (js : List Value) (tr : Int) (es : List (Value × Value)) : Mem :=
  ⟨fillX [.cells [.slice (some ⟨5, 0, none⟩) n c] 93 .ro, .cells [I tr] 83 .var, .cells [canV o] 124 .ro, .cells [.map (some 6)] 144 .ro, .cells [capV] 145 .ro, .cells js 97 .ro, .map es] 0 .nil, 7⟩
def P5n : TL := .ptr 0 0 (.ptr 1 0 (.ptr 2 0 (.ptr 3 0 (.ptr 4 0 .nil))))
def CanT : TL := .func 77 (T7h .nil) .nil .nil
def CapT : TL := .func 95 .nil P5n .nil
def bs95 : List TBc := [.rcells (.slice 5 0 .nil) 93, .wlist 83 .var, .rcells CanT 124, .rcells (.map 6 .nil) 144, .rcells CapT 145, .rlist 97, .wmap]
noncomputable def CW95 (o : Nat → Int) (n c : Nat) (js : List Value) (u1 u2 u3 u4 : Int) (a : Nat) (tr : Int) (es : List (Value × Value)) (b : Bool) (tr2 : Int) (es2 : List (Value × Value)) : ConW where
  A := T5h P5n
  bs := bs95
  pre x := x = ⟨⟨[I u1, I u2, I u3, I u4, I a] ++ ints 7 o, [(n, c)]⟩, [[I tr], js], [es]⟩
  out _ := [.lst [I tr2], .mp es2]
  res _ := .ret (.bool b)
noncomputable def C77 (o : Nat → Int) (u1 u2 u3 u4 : Int) (a : Nat) (v1 v2 v3 v4 : Int) (b : Nat) : Con where
  A := T7h (T5h (T5h .nil))
  bs := []
  pre x := x = ⟨⟨ints 7 o ++ [I u1, I u2, I u3, I u4, I a] ++ [I v1, I v2, I v3, I v4, I b], []⟩, []⟩
  res _ := .ret (.bool (hasI (o a) b))
def p95 : Loc := .l (.r (.l (.r (.top 95))))
noncomputable def T95 : Tw := ⟨52, mkS 52 [(2, .ptr 1 0 .nil), (3, .ptr 2 0 .nil), (4, .ptr 3 0 .nil), (5, .ptr 4 0 .nil), (6, .ptr 7 0 .nil), (12, .slice 5 0 .nil), (13, .hole .nil), (14, .hole .nil)], 8,
  [.cells (.slice 5 0 .nil) 93 .ro, .list 83 .var, .cells CanT 124 .ro, .cells (.map 6 .nil) 144 .ro, .cells CapT 145 .ro, .list 97 .ro, .map, .list 97 .var]⟩
noncomputable def R95 : Tw := ⟨52, mkS 52 [(7, .hole .nil)], 8, [.dead, .list 83 .var, .dead, .dead, .dead, .dead, .map, .dead]⟩
noncomputable def st95 (o : Nat → Int) (n c : Nat) (js : List Value) (u : List Value) (tr : Int) (es : List (Value × Value)) (i : Nat) : Hw := ⟨⟨[I n, I i] ++ ints 7 o, [(n, c), (n, c)]⟩, [[I tr], js, u], [es]⟩
noncomputable def m83 (js : List Value) : Mem := ⟨fillX [.cells js 97 .ro] 0 .nil, 1⟩
def p83 : Loc := .l (.r (.l (.r (.r (.r (.r (.r (.r (.top 83)))))))))
noncomputable def T83 : Tw := ⟨27, mkS 27 [(6, .ptr 5 0 .nil), (7, .ptr 6 0 .nil), (8, .hole .nil), (13, .slice 0 0 .nil), (14, .hole .nil), (15, .hole .nil)], 7,
  [.list 97 .ro, .cells (.slice 0 0 .nil) 93 .var, .cells CanT 124 .var, .map, .cells (.map 3 .nil) 144 .var, .list 83 .var, .cells (.func 95 .nil (.ptr 1 0 (.ptr 5 0 (.ptr 2 0 (.ptr 4 0 (.ptr 6 0 .nil))))) .nil) 145 .var]⟩
noncomputable def st83 (o : Nat → Int) (n c : Nat) (js : List Value) (many : Int) (tr : Int) (es : List (Value × Value)) (j : Nat) : Hw := ⟨⟨[I many, I n, I j] ++ ints 7 o, [(n, c), (n, c)]⟩, [js, [I tr]], [es]⟩
noncomputable def T83z : Tw := ⟨27, mkS 27 [(8, .hole .nil), (14, .hole .nil), (15, .hole .nil)], 6, [.dead, .dead, .dead, .dead, .dead, .dead]⟩
noncomputable def C72 (o : Nat → Int) (a b : Nat) : Con where
  A := T7h (.hole (.hole .nil))
  bs := []
  pre x := x = ⟨⟨ints 7 o ++ [I a, I b], []⟩, []⟩
  res _ := .ret (.bool (linkB o a b))
def p97 : Loc := .l (.r (.l (.r (.top 97))))
noncomputable def T97 : Tw := ⟨28, mkS 28 [(2, .hole .nil), (3, .hole .nil), (5, .ptr 2 0 .nil), (13, .hole .nil), (14, .hole .nil)], 3, [.dead, .dead, .cells (.hole (.hole (.hole (.hole (.hole (.hole (.hole .nil))))))) 85 .var]⟩
noncomputable def R97 : Tw := ⟨28, mkS 28 [(8, .hole .nil)], 3, [.dead, .dead, .dead]⟩
noncomputable def st97 (o : Nat → Int) (n : Nat) (D : Int) (m i : Nat) : Hw := ⟨⟨[I D, I m, I n, I i] ++ ints 7 o, []⟩, [], []⟩
def fitsF (o : Nat → Int) (n : Nat) (D : Int) (m : Nat) : Bool := allFrom (fun k => !(hasI D k && !linkB o k m)) n 0
noncomputable def C97 (p : Int) (n c : Nat) (o : Nat → Int) (D : Int) (m : Nat) : Con where
  A := .agg (.hole (.slice 0 0 .nil)) (T7h (.hole (.hole .nil)))
  bs := [.dead]
  pre x := x = ⟨⟨I p :: ints 7 o ++ [I D, I m], [(n, c)]⟩, []⟩
  res _ := .ret (.bool (fitsF o n D m))
def P6n : TL := .ptr 0 0 (.ptr 1 0 (.ptr 2 0 (.ptr 3 0 (.ptr 4 0 (.ptr 5 0 .nil)))))
noncomputable def cap96 : Value := .func (.func 96) ⟨[]⟩ ⟨[pN 0, pN 1, pN 2, pN 3, pN 4, pN 5]⟩
noncomputable def m96 (p : Int) (n c many : Nat) (o : Nat → Int) (Dl Pl : List Value) : Mem :=
  ⟨fillX [.cells [I p, .slice (some ⟨6, 0, none⟩) n c] 73 .ro, .cells [I many] 3 .ro, .cells Dl 84 .var, .cells (ints 7 o) 85 .ro, .cells Pl 147 .var, .cells [cap96] 61 .ro, .dead] 0 .nil, 7⟩
def bs96 : List TBc := [.rcells (.hole (.slice 6 0 .nil)) 73, .rcells (.hole .nil) 3, .wlist 84 .var, .rcells (.hole (.hole (.hole (.hole (.hole (.hole (.hole .nil))))))) 85, .wlist 147 .var, .rcells (.func 96 .nil P6n .nil) 61, .dead]
noncomputable def CW96 (p : Int) (n c many : Nat) (o : Nat → Int) (m : Int) (Dl Pl : List Value) (b : Bool) (Dl2 Pl2 : List Value) : ConW where
  A := .hole P6n
  bs := bs96
  pre x := x = ⟨⟨[I m, I p, I many] ++ ints 7 o, [(n, c)]⟩, [Dl, Pl], []⟩
  out _ := [.lst Dl2, .lst Pl2]
  res _ := .ret (.bool b)
def p96 : Loc := .l (.r (.l (.r (.r (.top 96)))))
noncomputable def T96 : Tw := ⟨48, mkS 48 [(0, .hole .nil), (1, .ptr 0 0 .nil), (3, .ptr 2 0 .nil), (4, .ptr 3 0 .nil), (5, .ptr 4 0 .nil), (6, .ptr 5 0 .nil), (17, .hole .nil), (18, .hole .nil)], 7,
  [.cells (.hole (.slice 6 0 .nil)) 73 .ro, .cells (.hole .nil) 3 .ro, .list 84 .var, .cells (.hole (.hole (.hole (.hole (.hole (.hole (.hole .nil))))))) 85 .ro, .list 147 .var, .cells (.func 96 .nil P6n .nil) 61 .ro, .dead]⟩
noncomputable def R96 : Tw := ⟨48, mkS 48 [(8, .hole .nil)], 7, [.dead, .dead, .list 84 .var, .dead, .list 147 .var, .dead, .dead]⟩
noncomputable def st96 (p : Int) (n c many : Nat) (o : Nat → Int) (m : Nat) (Dl Pl : List Value) (h : Nat) : Hw := ⟨⟨[I m, I many, I h, I p, I many] ++ ints 7 o, [(n, c)]⟩, [Dl, Pl], []⟩
def p88 : Loc := .l (.r (.l (.r (.top 88))))
noncomputable def T88 : Tw := ⟨22, mkS 22 [(1, .hole .nil), (7, T7h .nil), (8, .hole .nil)], 1, [.dead]⟩
noncomputable def R88 : Tw := ⟨22, mkS 22 [(4, .hole .nil)], 1, [.dead]⟩
noncomputable def st88 (o : Nat → Int) (s : Int) (i : Nat) : Hw := ⟨⟨[I s] ++ ints 7 o ++ [I i], []⟩, [], []⟩
def apartI (o : Nat → Int) (s : Int) (i : Nat) : Bool := !(hasI s i && bits .and .i64 s (o i) != 0)
noncomputable def C88 (o : Nat → Int) (s : Int) : Con where
  A := T7h (.hole .nil)
  bs := []
  pre x := x = ⟨⟨ints 7 o ++ [I s], []⟩, []⟩
  res _ := .ret (.bool (allFrom (apartI o s) 7 0))
def popN (x : Nat) : Nat := ((List.range 7).filter fun i => x.testBit i).length
noncomputable def C82 (x : Nat) : Con where
  A := .hole .nil
  bs := []
  pre y := y = ⟨⟨[I x], []⟩, []⟩
  res _ := .ret (I (popN x : Nat))
noncomputable def C89 (a b : Nat) : Con where
  A := .hole (.hole .nil)
  bs := []
  pre y := y = ⟨⟨[I a, I b], []⟩, []⟩
  res _ := .ret (.bool (decide ((popN a : Int) > (popN b : Int))))
def p87 : Loc := .l (.r (.l (.r (.r (.r (.top 87))))))
def p93 : Loc := .l (.r (.top 93))
noncomputable def T93 : Tw := ⟨15, mkS 15 [(0, .yield 5 .nil), (6, .hole .nil), (7, .hole .nil)], 6,
  [.dead, .cells (.func 88 (T7h .nil) .nil (.func 89 .nil .nil .nil)) 135 .var, .list 83 .var, .list 4 .var, .defs, .loop 27 (mkS 27 [(2, .ptr 1 0 .nil), (5, .ptr 2 0 .nil), (6, .ptr 3 0 .nil)]) #[9] p87]⟩
noncomputable def st93 (o : Nat → Int) (N i found : Nat) (bg : Bool) : Hw := ⟨⟨[I N, I i] ++ ints 7 o, []⟩, [[I found], [.bool bg]], []⟩
noncomputable def fitV (o : Nat → Int) : Value := .agg ⟨[.func (.func 88) ⟨[.agg ⟨ints 7 o⟩]⟩ ⟨[]⟩, .func (.func 89) ⟨[]⟩ ⟨[]⟩]⟩
noncomputable def C87 (n : Nat) (o : Nat → Int) (found : Nat) : Con where
  A := .agg (.func 88 (T7h .nil) .nil (.func 89 .nil .nil .nil)) (.func 93 .nil (.ptr 0 0 .nil) .nil)
  bs := [.cells (.hole .nil) 3 .ro]
  pre x := x = ⟨⟨ints 7 o ++ [I n], []⟩, []⟩
  res _ := .ret (I found)
noncomputable def C25 (sure : Bool) (p : Int) (n c : Nat) (f : Nat → Mv) (found : Nat) : Con where
  A := .agg (.hole (.slice 0 0 .nil)) (.hole .nil)
  bs := [.list 1 .ro]
  pre x := x = ⟨⟨[I p, .bool sure], [(n, c)]⟩, [mvs n f]⟩
  res _ := .ret (.tuple ⟨[I found, I 0]⟩)
noncomputable def C24 (sure : Bool) (p : Int) (n c : Nat) (f : Nat → Mv) (many : Nat) (P : Nat → Nat) : ConN where
  A := .agg (.hole (.slice 0 0 .nil)) (.hole .nil)
  bs := [.list 1 .ro]
  pre x := x = ⟨⟨[I p, .bool sure], [(n, c)]⟩, [mvs n f]⟩
  news _ := [(ints n fun i => (P i : Int), 3)]
  one := false
  res _ := [.cv (I many), .sl 0 n, .cv (I 0)]
noncomputable def C83c (o : Nat → Int) (n c : Nat) (js : List Value) (many : Nat) : Con where
  A := .slice 0 0 CanT
  bs := [.list 97 .ro]
  pre x := x = ⟨⟨ints 7 o, [(n, c)]⟩, [js]⟩
  res _ := .ret (I many)
noncomputable def C86c (p : Int) (n c : Nat) (ms : List Value) (o : Nat → Int) (many : Nat) (pl : List Value) : ConN where
  A := .agg (.hole (.slice 0 0 .nil)) (T7h (.hole .nil))
  bs := [.list 1 .ro]
  pre x := x = ⟨⟨I p :: ints 7 o ++ [I many], [(n, c)]⟩, [ms]⟩
  news _ := [(pl, 3)]
  one := true
  res _ := [.sl 0 n]
end Go.Ab
set_option maxRecDepth 100000
namespace Go.Ab
open Go Go.RowKit Go.Proofs
noncomputable def C29 (x : Nat) : Con where
  A := .hole .nil
  bs := []
  pre y := y = ⟨⟨[I x], []⟩, []⟩
  res _ := .ret (I (popN x : Nat))
def p29 : Loc := .l (.l (.r (.r (.top 29))))
noncomputable def T29 : Tw := ⟨13, mkS 13 [(0, .hole .nil), (3, .hole .nil)], 0, []⟩
noncomputable def C24c (sure : Bool) (p : Int) (n c : Nat) (ms : List Value) (many : Nat) (pl : List Value) : ConN where
  A := .agg (.hole (.slice 0 0 .nil)) (.hole .nil)
  bs := [.list 1 .ro]
  pre x := x = ⟨⟨[I p, .bool sure], [(n, c)]⟩, [ms]⟩
  news _ := [(pl, 3)]
  one := false
  res _ := [.cv (I many), .sl 0 n, .cv (I 0)]
end Go.Ab
set_option maxRecDepth 100000
namespace Go.Ab
open Go Go.RowKit Go.Proofs
def p84 : Loc := .l (.r (.l (.r (.r (.top 84)))))
noncomputable def T84a : Tw := ⟨26, mkS 26 [(1, .hole .nil), (5, .val (.slice none 0 0) .nil), (9, .slice 2 0 .nil), (10, .hole .nil), (11, .hole .nil)], 3, [.dead, .dead, .list 97 .row]⟩
noncomputable def T84b : Tw := ⟨26, mkS 26 [(1, .hole .nil), (5, .slice 3 0 .nil), (9, .slice 2 0 .nil), (10, .hole .nil), (11, .hole .nil)], 3, [.dead, .dead, .list 97 .row, .list 97 .row]⟩
noncomputable def jobsL (f : Nat → Mv) (l : List Nat) : List Value := l.flatMap (jobV f)
noncomputable def ha84 (s : Int) (n c i : Nat) (f : Nat → Mv) : Hw := ⟨⟨[I s, I n, I i], [(n, c)]⟩, [jobsC n f], []⟩
noncomputable def hb84 (s : Int) (n c i j : Nat) (f : Nat → Mv) (ls : List Value) : Hw := ⟨⟨[I s, I n, I i], [(j, j), (n, c)]⟩, [jobsC n f, ls], []⟩
noncomputable def C84 (p s : Int) (n c m : Nat) (ms js : List Value) : ConN where
  A := .agg (.hole (.slice 0 0 .nil)) (.hole .nil)
  bs := [.list 1 .ro]
  pre x := x = ⟨⟨[I p, I s], [(n, c)]⟩, [ms]⟩
  news _ := [(js, 97)]
  one := true
  res _ := [.sl 0 m]
def p59 : Loc := .l (.r (.l (.r (.r (.r (.l (.r (.top 59))))))))
def p59i : Loc := .l (.r (.r (.l (.l (.r (.r (.l (.l (.r (.l (.r (.r (.r (.l (.r (.top 59))))))))))))))))
noncomputable def B59 : List TBw := [.list 1 .ro, .cells (.hole (.slice 0 0 .nil)) 73 .var, .cells (.hole (.hole (.hole (.hole (.hole (.hole (.hole .nil))))))) 85 .var, .cells (.hole .nil) 3 .var, .list 83 .var]
noncomputable def T59 (j : Nat) : Tw := ⟨41, mkS 41 [(3, .ptr 1 0 .nil), (4, .ptr 2 0 .nil), (5, .ptr 3 0 .nil), (7, .hole .nil), (8, .ptr 4 0 .nil), (17, .hole .nil), (18, .hole .nil)], 5, B59 ++ List.replicate j .coll⟩
noncomputable def st59 (p : Int) (n c many : Nat) (ms : List Value) (o : Nat → Int) (left : Int) (k : Nat) : Hw := ⟨⟨[I n, I n, I k, I p] ++ ints 7 o ++ [I many], [(n, c)]⟩, [ms, [I left]], []⟩
noncomputable def T59s (j : Nat) : List (Nat × TL) := [(3, .ptr 1 0 .nil), (4, .ptr 2 0 .nil), (5, .ptr 3 0 .nil), (8, .ptr 4 0 .nil), (9, .ptr (5 + j) 0 .nil)]
noncomputable def T9k (j : Nat) : Tw := ⟨15, mkS 15 [(0, .yield (8 + j) .nil), (6, .hole .nil), (7, .hole .nil)], 9 + j,
  B59 ++ List.replicate j .defs ++ [.cells (.hole .nil) 3 .var, .dead, .defs, .loop 41 (mkS 41 (T59s j)) #[23] p59i]⟩
noncomputable def R9k (j : Nat) : Tw := ⟨15, mkS 15 [], 9 + j,
  B59 ++ List.replicate j .defs ++ [.dead, .dead, .defs, .ended (some 0) 41 (mkS 41 []) #[23] p59i]⟩
noncomputable def st9k (p : Int) (n c many : Nat) (ms : List Value) (o : Nat → Int) (left : Int) (k N s : Nat) : Hw := ⟨⟨[I N, I s, I p] ++ ints 7 o ++ [I many, I k], [(n, c)]⟩, [ms, [I left]], []⟩
noncomputable def rt9k (p : Int) (n c many : Nat) (ms : List Value) (o : Nat → Int) (left : Int) : Hw := ⟨⟨[I p] ++ ints 7 o ++ [I many], [(n, c)]⟩, [ms, [I left]], []⟩
noncomputable def C80 (n : Nat) : Con where
  A := .hole .nil
  bs := []
  pre y := y = ⟨⟨[I n], []⟩, []⟩
  res _ := .ret (I (2 ^ n - 1 : Nat))
end Go.Ab
set_option maxRecDepth 100000
namespace Go.Ab
open Go Go.RowKit Go.Proofs
noncomputable def C24n (sure : Bool) (p : Int) : ConN where
  A := .agg (.hole (.val nilS .nil)) (.hole .nil)
  bs := []
  pre x := x = ⟨⟨[I p, .bool sure], []⟩, []⟩
  news _ := [([], 3)]
  one := false
  res _ := [.cv (I 0), .sl 0 0, .cv (I 0)]
noncomputable def C30i (p : Int) (sure : Bool) (n c : Nat) (mz sz : Int) (v : Bool) (ms : List Value) : Con where
  A := .hole (.ptr 0 0 (.ptr 1 0 (.ptr 2 0 .nil)))
  bs := [.cells (.hole (.slice 3 0 .nil)) 24 .ro, .cells (.hole .nil) 4 .ro, .cells (.hole .nil) 3 .ro, .list 1 .ro]
  pre x := x = ⟨⟨[I sz, I p, .bool sure, I mz], [(n, c)]⟩, [ms]⟩
  res _ := .ret (.bool v)
noncomputable def C23 (sure : Bool) (p : Int) (n c many : Nat) (f : Nat → Mv) (left : Nat) : Con where
  A := .agg (.hole (.slice 0 0 .nil)) (.hole (.hole .nil))
  bs := [.list 1 .ro]
  pre x := x = ⟨⟨[I p, I many, .bool sure], [(n, c)]⟩, [mvs n f]⟩
  res _ := .ret (.tuple ⟨[I left, I 0]⟩)
noncomputable def C23i (sure : Bool) (p : Int) (n c : Nat) (mz : Int) (f : Nat → Mv) (left : Nat) : Con where
  A := .agg (.hole (.slice 0 0 .nil)) (.hole (.hole .nil))
  bs := [.list 1 .ro]
  pre x := x = ⟨⟨[I p, I mz, .bool sure], [(n, c)]⟩, [mvs n f]⟩
  res _ := .ret (.tuple ⟨[I left, I 0]⟩)
noncomputable def C23n (sure : Bool) (p mz : Int) : Con where
  A := .agg (.hole (.val nilS .nil)) (.hole (.hole .nil))
  bs := []
  pre x := x = ⟨⟨[I p, I mz, .bool sure], []⟩, []⟩
  res _ := .ret (.tuple ⟨[I 0, I 0]⟩)
def p8 : Loc := .l (.r (.l (.r (.r (.r (.r (.r (.r (.r (.r (.top 8)))))))))))
noncomputable def T8 : Tw := ⟨130, mkS 130 [(3, .hole .nil), (10, .hole .nil), (15, .func 30 .nil (.ptr 1 0 (.ptr 2 0 (.ptr 5 0 .nil))) .nil), (16, .hole .nil), (78, .hole .nil), (79, .hole .nil)], 7,
  [.list 1 .ro, .cells (.hole (.slice 0 0 .nil)) 24 .var, .cells (.hole .nil) 4 .var, .dead, .dead, .cells (.hole .nil) 3 .var, .dead]⟩
noncomputable def R8 : Tw := ⟨130, mkS 130 [(8, .hole .nil)], 7, [.dead, .dead, .dead, .dead, .dead, .dead, .dead]⟩
noncomputable def st8 (p b : Int) (sure : Bool) (n c : Nat) (mz : Int) (left : Nat) (ev : Int) (ms : List Value) (i : Nat) : Hw := ⟨⟨[.int .u8 b, I left, I ev, I n, I i, I p, .bool sure, I mz], [(n, c)]⟩, [ms], []⟩
end Go.Ab
namespace Go.Ab
structure Gs where
  D : Nat → Nat
  P : Nat → Nat
def updN (g : Nat → Nat) (i v : Nat) : Nat → Nat := fun k => if k = i then v else g k
section
variable (fits : Nat → Nat → Bool) (n many : Nat)
def giveH (rec : Gs → Bool × Gs) (m : Nat) : Nat → Nat → Gs → Bool × Gs
  | 0, _, σ => (false, σ)
  | r + 1, h, σ =>
    if fits (σ.D h) m then
      if (rec ⟨updN σ.D h (σ.D h ||| 2 ^ m), updN σ.P m h⟩).1 then (true, (rec ⟨updN σ.D h (σ.D h ||| 2 ^ m), updN σ.P m h⟩).2)
      else giveH rec m r (h + 1) ⟨updN (rec ⟨updN σ.D h (σ.D h ||| 2 ^ m), updN σ.P m h⟩).2.D h (σ.D h), (rec ⟨updN σ.D h (σ.D h ||| 2 ^ m), updN σ.P m h⟩).2.P⟩
    else giveH rec m r (h + 1) σ
def giveF : Nat → Nat → Gs → Bool × Gs
  | 0, _, σ => (true, σ)
  | k + 1, m, σ => if m = n then (true, σ) else giveH fits (giveF k (m + 1)) m many 0 σ
def GsOK (σ : Gs) : Prop := ∀ h, σ.D h < 128
variable {fits n many}
theorem GsOK.upd {σ : Gs} (h : GsOK σ) {i v : Nat} (hv : v < 128) (P : Nat → Nat) : GsOK ⟨updN σ.D i v, P⟩ := by
  intro k
  show updN σ.D i v k < 128
  unfold updN
  split
  · exact hv
  · exact h k
theorem GsOK.add {σ : Gs} (h : GsOK σ) {i m : Nat} (hm : m < 7) (P : Nat → Nat) : GsOK ⟨updN σ.D i (σ.D i ||| 2 ^ m), P⟩ :=
  h.upd (Nat.or_lt_two_pow (n := 7) (h i) (Nat.pow_lt_pow_right (by omega) hm)) P
theorem giveH_ok {rec : Gs → Bool × Gs} {m : Nat} (hm : m < 7) (hr : ∀ σ, GsOK σ → GsOK (rec σ).2) (r : Nat) : ∀ h σ, GsOK σ → GsOK (giveH fits rec m r h σ).2 := by
  induction r with
  | zero => intro h σ hσ; exact hσ
  | succ r ih =>
    intro h σ hσ
    simp only [giveH]
    split
    · split
      · exact hr _ (hσ.add hm _)
      · exact ih _ _ ((hr _ (hσ.add hm (updN σ.P m h))).upd (hσ h) _)
    · exact ih _ _ hσ
theorem giveF_ok (hn : n ≤ 7) (k : Nat) : ∀ m σ, m ≤ n → GsOK σ → GsOK (giveF fits n many k m σ).2 := by
  induction k with
  | zero => intro m σ _ h; exact h
  | succ k ih =>
    intro m σ hm hσ
    simp only [giveF]
    split
    · exact hσ
    · exact giveH_ok (by omega) (fun σ h => ih (m + 1) σ (by omega) h) many 0 σ hσ
theorem giveH_skip {rec : Gs → Bool × Gs} {m r h : Nat} {σ : Gs} (hf : fits (σ.D h) m = false) : giveH fits rec m (r + 1) h σ = giveH fits rec m r (h + 1) σ := by
  simp only [giveH, hf, Bool.false_eq_true, if_false]
theorem giveH_true {rec : Gs → Bool × Gs} {m r h : Nat} {σ σ' : Gs} (hf : fits (σ.D h) m = true) (hr : rec ⟨updN σ.D h (σ.D h ||| 2 ^ m), updN σ.P m h⟩ = (true, σ')) : giveH fits rec m (r + 1) h σ = (true, σ') := by
  simp only [giveH, hf, if_true, hr]
theorem giveH_false {rec : Gs → Bool × Gs} {m r h : Nat} {σ σ' : Gs} (hf : fits (σ.D h) m = true) (hr : rec ⟨updN σ.D h (σ.D h ||| 2 ^ m), updN σ.P m h⟩ = (false, σ')) : giveH fits rec m (r + 1) h σ = giveH fits rec m r (h + 1) ⟨updN σ'.D h (σ.D h), σ'.P⟩ := by
  simp only [giveH, hf, if_true, hr, Bool.false_eq_true, if_false]
end
end Go.Ab
