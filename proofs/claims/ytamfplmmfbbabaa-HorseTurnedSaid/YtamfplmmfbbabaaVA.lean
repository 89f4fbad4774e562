/- What is left of moves, by numbers; the first set of the fewest. -/
import Init
import Derived.Test.YtamfplmmfbbabaaUU
import Derived.Test.YtamfplmmfbbabaaUY
import Derived.Test.YtamfplmmfbbabaaUS
namespace Go.Ab
def kept (s : Nat) : Nat → List Nat
  | 0 => []
  | i + 1 => if s.testBit i then kept s i else kept s i ++ [i]
def keptN (s n k : Nat) : Nat := (kept s n).getD k 0
theorem kept_mem {s i k : Nat} : k ∈ kept s i ↔ k < i ∧ s.testBit k = false := by
  induction i with
  | zero => simp [kept]
  | succ i ih =>
    simp only [kept]
    split
    · rename_i h
      rw [ih]
      constructor
      · intro ⟨a, b⟩; exact ⟨by omega, b⟩
      · intro ⟨a, b⟩
        refine ⟨?_, b⟩
        have : k ≠ i := fun e => by subst e; rw [h] at b; cases b
        omega
    · rename_i h
      simp only [List.mem_append, ih, List.mem_singleton]
      constructor
      · rintro (⟨a, b⟩ | rfl)
        · exact ⟨by omega, b⟩
        · exact ⟨by omega, by simpa using h⟩
      · intro ⟨a, b⟩
        by_cases e : k = i
        · exact .inr e
        · exact .inl ⟨by omega, b⟩
theorem kept_len (s i : Nat) : (kept s i).length ≤ i := by
  induction i with
  | zero => exact Nat.le_refl _
  | succ i ih =>
    simp only [kept]
    split
    · omega
    · rw [List.length_append, List.length_singleton]; omega
theorem kept_nodup (s i : Nat) : (kept s i).Nodup := by
  induction i with
  | zero => exact List.nodup_nil
  | succ i ih =>
    simp only [kept]
    split
    · exact ih
    · rw [List.nodup_append]
      refine ⟨ih, by simp, fun a ha b hb => ?_⟩
      simp only [List.mem_singleton] at hb
      subst hb
      have := (kept_mem.1 ha).1
      omega
theorem keptN_mem {s n k : Nat} (h : k < (kept s n).length) : keptN s n k ∈ kept s n := by
  unfold keptN
  rw [List.getD_eq_getElem?_getD, List.getElem?_eq_getElem h]
  exact List.getElem_mem h
theorem keptN_lt {s n k : Nat} (h : k < (kept s n).length) : keptN s n k < n := (kept_mem.1 (keptN_mem h)).1
theorem keptN_not {s n k : Nat} (h : k < (kept s n).length) : s.testBit (keptN s n k) = false := (kept_mem.1 (keptN_mem h)).2
theorem keptN_inj {s n i j : Nat} (hi : i < (kept s n).length) (hj : j < (kept s n).length) (h : keptN s n i = keptN s n j) : i = j := by
  unfold keptN at h
  rw [List.getD_eq_getElem?_getD, List.getD_eq_getElem?_getD, List.getElem?_eq_getElem hi, List.getElem?_eq_getElem hj] at h
  have h : (kept s n)[i] = (kept s n)[j] := by simpa using h
  have hp := List.pairwise_iff_getElem.1 (kept_nodup s n)
  rcases Nat.lt_trichotomy i j with h1 | h1 | h1
  · exact absurd h (hp i j hi hj h1)
  · exact h1
  · exact absurd h.symm (hp j i hj hi h1)
theorem kept_all (n : Nat) : kept (2 ^ n - 1) n = [] := by
  rw [List.eq_nil_iff_forall_not_mem]
  intro k hk
  obtain ⟨h1, h2⟩ := kept_mem.1 hk
  rw [Nat.testBit_two_pow_sub_one] at h2
  simp [h1] at h2
def atS (good : Nat → Bool) (pop : Nat → Nat) (k : Nat) : Nat → Nat → Option Nat
  | 0, _ => none
  | r + 1, s => if pop s = k ∧ good s = true then some s else atS good pop k r (s + 1)
def sizeS (good : Nat → Bool) (pop : Nat → Nat) (N dflt : Nat) : Nat → Nat → Nat
  | 0, _ => dflt
  | r + 1, k => match atS good pop k N 0 with | some s => s | none => sizeS good pop N dflt r (k + 1)
section
variable {good : Nat → Bool} {pop : Nat → Nat}
theorem atS_some {k : Nat} : ∀ {r s t : Nat}, atS good pop k r s = some t → s ≤ t ∧ t < s + r ∧ pop t = k ∧ good t = true ∧ ∀ u, s ≤ u → u < t → ¬ (pop u = k ∧ good u = true) := by
  intro r
  induction r with
  | zero => intro s t h; cases h
  | succ r ih =>
    intro s t h
    simp only [atS] at h
    split at h
    · rename_i hc
      cases h
      exact ⟨Nat.le_refl _, by omega, hc.1, hc.2, fun u h1 h2 => by omega⟩
    · rename_i hc
      obtain ⟨a, b, c, d, e⟩ := ih h
      refine ⟨by omega, by omega, c, d, fun u h1 h2 => ?_⟩
      by_cases hu : u = s
      · subst hu; exact hc
      · exact e u (by omega) h2
theorem atS_none {k : Nat} : ∀ {r s : Nat}, atS good pop k r s = none → ∀ u, s ≤ u → u < s + r → ¬ (pop u = k ∧ good u = true) := by
  intro r
  induction r with
  | zero => intro s _ u h1 h2; omega
  | succ r ih =>
    intro s h u h1 h2
    simp only [atS] at h
    split at h
    · cases h
    · rename_i hc
      by_cases hu : u = s
      · subst hu; exact hc
      · exact ih h u (by omega) (by omega)
structure Least (good : Nat → Bool) (pop : Nat → Nat) (n : Nat) (x : Nat) : Prop where
  lt : x < 2 ^ n
  is : good x = true
  min : ∀ u, u < 2 ^ n → good u = true → pop x < pop u ∨ (pop x = pop u ∧ x ≤ u)
theorem sizeS_least {n : Nat} (hall : good (2 ^ n - 1) = true) (hpop : ∀ u, u < 2 ^ n → pop u = n → u = 2 ^ n - 1) (hle : ∀ u, u < 2 ^ n → pop u ≤ n) (hpa : pop (2 ^ n - 1) = n) : ∀ r k, k + r = n → (∀ u, u < 2 ^ n → good u = true → k ≤ pop u) →
    Least good pop n (sizeS good pop (2 ^ n) (2 ^ n - 1) r k) := by
  have hp : 0 < 2 ^ n := Nat.two_pow_pos n
  intro r
  induction r with
  | zero =>
    intro k hk h
    refine ⟨by simp only [sizeS]; omega, hall, fun u hu hg => ?_⟩
    simp only [sizeS]
    have h1 := h u hu hg
    have h2 := hle u hu
    have h3 := hpop u hu (by omega)
    rw [h3]
    exact .inr ⟨rfl, Nat.le_refl _⟩
  | succ r ih =>
    intro k hk h
    simp only [sizeS]
    cases hx : atS good pop k (2 ^ n) 0 with
    | some s =>
      obtain ⟨a, b, c, d, e⟩ := atS_some hx
      refine ⟨by simpa using b, d, fun u hu hg => ?_⟩
      have h1 := h u hu hg
      by_cases h2 : pop u = k
      · refine .inr ⟨by simp only [c, h2], ?_⟩
        rcases Nat.lt_or_ge u s with h3 | h3
        · exact absurd ⟨h2, hg⟩ (e u (Nat.zero_le _) h3)
        · exact h3
      · left
        show pop s < pop u
        omega
    | none =>
      refine ih (k + 1) (by omega) fun u hu hg => ?_
      have h1 := h u hu hg
      have := atS_none hx u (Nat.zero_le _) (by omega)
      rcases Nat.lt_or_ge k (pop u) with h2 | h2
      · exact h2
      · exact absurd ⟨by omega, hg⟩ this
end
end Go.Ab
set_option maxRecDepth 100000
namespace Go.Ab
open Go Go.RowKit Go.Proofs
def swp (τ : Nat → Nat) (a b : Nat) : Nat → Nat := fun k => if k = a then τ b else if k = b then τ a else τ k
def sink (A : Nat → Int) : Nat → (Nat → Nat) → (Nat → Nat)
  | 0, τ => τ
  | j + 1, τ => if A (τ (j + 1)) < A (τ j) then sink A j (swp τ (j + 1) j) else τ
def srt (A : Nat → Int) : Nat → Nat → Nat
  | 0 => fun k => k
  | i + 1 => sink A i (srt A i)
def Lx (A : Nat → Int) (x y : Nat) : Prop := A x < A y ∨ (A x = A y ∧ x < y)
theorem Lx.trans {A : Nat → Int} {x y z : Nat} (h : Lx A x y) (g : Lx A y z) : Lx A x z := by
  unfold Lx at *; omega
theorem Lx.irrefl {A : Nat → Int} {x : Nat} (h : Lx A x x) : False := by
  unfold Lx at h; omega
structure Srt (A : Nat → Int) (i : Nat) (τ : Nat → Nat) : Prop where
  out : ∀ k, i ≤ k → τ k = k
  lt : ∀ k, k < i → τ k < i
  all : ∀ m, m < i → ∃ k, k < i ∧ τ k = m
  srt : ∀ a b, a < b → b < i → Lx A (τ a) (τ b)
theorem Srt.inj {A : Nat → Int} {i : Nat} {τ : Nat → Nat} (h : Srt A i τ) {a b : Nat} (ha : a < i) (hb : b < i) (he : τ a = τ b) : a = b := by
  rcases Nat.lt_trichotomy a b with h1 | h1 | h1
  · have := h.srt a b h1 hb; rw [he] at this; exact this.irrefl.elim
  · exact h1
  · have := h.srt b a h1 ha; rw [he] at this; exact this.irrefl.elim
end Go.Ab
set_option maxRecDepth 100000
namespace Go.Ab
open Go Go.RowKit Go.Proofs
section
variable {α : Type}
def getA : List (Int × α) → Int → Option α
  | [], _ => none
  | e :: l, h => if h = e.1 then some e.2 else getA l h
def setA : List (Int × α) → Int → α → List (Int × α)
  | [], h, a => [(h, a)]
  | e :: l, h, a => if h = e.1 then (h, a) :: l else e :: setA l h a
theorem get_set (M : List (Int × α)) (h h' : Int) (a : α) : getA (setA M h a) h' = if h' = h then some a else getA M h' := by
  induction M with
  | nil => simp only [setA, getA]
  | cons e l ih =>
    simp only [setA]
    split
    · rename_i he
      subst he
      simp only [getA]
      split <;> rfl
    · rename_i he
      simp only [getA, ih]
      by_cases h1 : h' = e.1
      · subst h1
        rw [if_pos rfl, if_neg (fun hh => he hh.symm), if_pos rfl]
      · rw [if_neg h1]
        split
        · rfl
        · rfl
end
theorem flatC_congr {n : Nat} {g g' : Nat → List Value} (h : ∀ i, i < n → g i = g' i) : flatC n g = flatC n g' := by
  induction n with
  | zero => rfl
  | succ n ih => rw [flatC_succ, flatC_succ, ih (fun i hi => h i (by omega)), h n (by omega)]
theorem flatC_set {n k : Nat} {g : Nat → List Value} (hk : ∀ i, i < n → (g i).length = k) {i : Nat} (hi : i < n) {v : List Value} (hv : v.length = k) :
    (flatC n g).take (i * k) ++ v ++ (flatC n g).drop (i * k + k) = flatC n fun x => if x = i then v else g x := by
  induction n with
  | zero => omega
  | succ n ih =>
    have hl := flatC_len (n := n) (g := g) (k := k) fun i hi => hk i (by omega)
    rw [flatC_succ, flatC_succ]
    by_cases h : i = n
    · subst h
      rw [if_pos rfl, List.take_append_of_le_length (by omega), List.take_of_length_le (by omega), List.drop_append, List.drop_eq_nil_of_le (by omega), List.nil_append, hl, List.drop_eq_nil_of_le (by rw [hk i (by omega)]; omega), List.append_nil]
      congr 1
      exact flatC_congr fun x hx => by rw [if_neg (by omega)]
    · have h2 := ih (fun i hi => hk i (by omega)) (by omega)
      have h3 := flatC_bound (n := n) (k := k) (i := i) (by omega)
      rw [if_neg (fun e => h e.symm), List.take_append_of_le_length (by omega), List.drop_append_of_le_length (by omega), ← List.append_assoc, h2]
theorem ints_put {n i : Nat} (o : Nat → Int) (v : Int) (hi : i < n) : (ints n o).take (0 + i * 1) ++ [I v] ++ (ints n o).drop (0 + i * 1 + 1) = ints n (updF o i v) := by
  have h := flatC_set (n := n) (k := 1) (g := fun i => [I (o i)]) (fun _ _ => rfl) hi (v := [I v]) rfl
  rw [Nat.zero_add]
  refine (show _ = _ from h).trans ?_
  refine flatC_congr fun x _ => ?_
  simp only [updF]
  split <;> rfl
end Go.Ab
namespace Go.Ab
open Go Go.RowKit
variable [TT] [PR]
section
variable {P : Program} {ro : Option Nat} {N : Nat} {V : Vx}
theorem loop_forW (htt : TT.tt = true) (hV : VSound P N V) {p : Loc} {Ts : List Tw} {k n : Nat} {st : Nat → Nat × Hw} {e : AExit} (hk : ∀ T ∈ Ts, T.k = k) (hg : P.globals.size ≤ k) (he : e ≠ .normal ∧ exitOK e) (hcl : ∀ i, i ≤ n → ClW (st i).2)
    (round : ∀ i, i < n → ∀ R : Nat → AExit → Hw → Prop, R (st (i + 1)).1 .normal (st (i + 1)).2 → ∃ T hs, Ts[(st i).1]? = some T ∧ V.code ro (.l p) (leafW Ts R) (T.inst (st i).2) hs)
    (last : ∀ R : Nat → AExit → Hw → Prop, R (st n).1 e (st n).2 → ∃ T hs, Ts[(st n).1]? = some T ∧ V.code ro (.l p) (leafW Ts R) (T.inst (st n).2) hs)
    {T0 T1 : Tw} (h0 : Ts[(st 0).1]? = some T0) (h0k : T0.blocks.length ≤ k) (hs0 : k ≤ 1000000) (h1 : Ts[(st n).1]? = some T1) : LoopOW P ro p T0 (st 0).2 e T1 (st n).2 := by
  refine loop_vcW htt hV (Ts := Ts) (k := k) (X := Nat) (inv := fun i => i ≤ n) (μ := fun i => n - i) (st := st) (out := fun _ => (e, (st n).1, (st n).2)) hk hg (fun i hi => ?_) (Nat.zero_le n) (x := 0) h0 h0k hs0 h1
  by_cases h : i = n
  · subst h
    exact last _ ⟨⟨hcl i (Nat.le_refl i), he.2⟩, .inr ⟨he.1, rfl⟩⟩
  · exact round i (by omega) _ ⟨⟨hcl (i + 1) (by omega), trivial⟩, .inl ⟨rfl, i + 1, by omega, by show n - (i + 1) < n - i; omega, rfl, rfl⟩⟩
def runX (ex : Nat → Option (AExit × Nat × Hw)) (fin : AExit × Nat × Hw) : Nat → Nat → AExit × Nat × Hw
  | 0, _ => fin
  | r + 1, i => match ex i with | some o => o | none => runX ex fin r (i + 1)
theorem loop_untilW (htt : TT.tt = true) (hV : VSound P N V) {p : Loc} {Ts : List Tw} {k n : Nat} {st : Nat → Nat × Hw} {e : AExit} {ex : Nat → Option (AExit × Nat × Hw)} (hk : ∀ T ∈ Ts, T.k = k) (hg : P.globals.size ≤ k) (he : e ≠ .normal ∧ exitOK e) (hcl : ∀ i, i ≤ n → ClW (st i).2)
    (hex : ∀ i o, i < n → ex i = some o → o.1 ≠ .normal ∧ exitOK o.1 ∧ ClW o.2.2)
    (round : ∀ i, i < n → ∀ R : Nat → AExit → Hw → Prop, (ex i = none → R (st (i + 1)).1 .normal (st (i + 1)).2) → (∀ o, ex i = some o → R o.2.1 o.1 o.2.2) → ∃ T hs, Ts[(st i).1]? = some T ∧ V.code ro (.l p) (leafW Ts R) (T.inst (st i).2) hs)
    (last : ∀ R : Nat → AExit → Hw → Prop, R (st n).1 e (st n).2 → ∃ T hs, Ts[(st n).1]? = some T ∧ V.code ro (.l p) (leafW Ts R) (T.inst (st n).2) hs)
    {s : Nat} (hsn : s ≤ n) {T0 T1 : Tw} (h0 : Ts[(st s).1]? = some T0) (h0k : T0.blocks.length ≤ k) (hs0 : k ≤ 1000000) (h1 : Ts[(runX ex (e, (st n).1, (st n).2) (n - s) s).2.1]? = some T1) :
    LoopOW P ro p T0 (st s).2 (runX ex (e, (st n).1, (st n).2) (n - s) s).1 T1 (runX ex (e, (st n).1, (st n).2) (n - s) s).2.2 := by
  refine loop_vcW htt hV (Ts := Ts) (k := k) (X := Nat) (inv := fun i => i ≤ n) (μ := fun i => n - i) (st := st) (out := fun i => runX ex (e, (st n).1, (st n).2) (n - i) i) hk hg (fun i hi => ?_) hsn (x := s) h0 h0k hs0 h1
  have step : i < n → runX ex (e, (st n).1, (st n).2) (n - i) i = match ex i with | some o => o | none => runX ex (e, (st n).1, (st n).2) (n - (i + 1)) (i + 1) := fun h => by
    have e1 : n - i = (n - (i + 1)) + 1 := by omega
    rw [e1]; rfl
  by_cases h : i = n
  · subst h
    refine last _ ⟨⟨hcl i (Nat.le_refl i), he.2⟩, .inr ⟨he.1, ?_⟩⟩
    simp only [Nat.sub_self, runX]
  · refine round i (by omega) _ (fun hx => ⟨⟨hcl (i + 1) (by omega), trivial⟩, .inl ⟨rfl, i + 1, by omega, by show n - (i + 1) < n - i; omega, rfl, ?_⟩⟩) (fun o hx => ⟨⟨(hex i o (by omega) hx).2.2, (hex i o (by omega) hx).2.1⟩, .inr ⟨(hex i o (by omega) hx).1, ?_⟩⟩)
    · have h2 := step (by omega)
      rw [hx] at h2
      exact h2.symm
    · have h2 := step (by omega)
      rw [hx] at h2
      exact h2
end
end Go.Ab
namespace Go.Ab
open Go Go.RowKit
variable [TT] [PR] {P : Program}
end Go.Ab
namespace Go.Ab
open Go Go.RowKit
noncomputable def getW : List TBc → Nat → Tr XB → Option (List WB)
  | [], _, _ => some []
  | .wlist e k :: l, j, t => (t.get j).bind fun b => (cellsX b).bind fun x => cond (Nat.beq e x.2.1 && kEq k x.2.2) ((getW l (Nat.succ j) t).bind fun r => some (.lst x.1 :: r)) none
  | .wmap :: l, j, t => (t.get j).bind fun b => (mapX b).bind fun es => (getW l (Nat.succ j) t).bind fun r => some (.mp es :: r)
  | _ :: l, j, t => getW l (Nat.succ j) t
noncomputable def retW (bs : List TBc) (R : ARes → List WB → Prop) : ARes → Mem → HS → Prop := fun r m _ =>
  match getW bs 0 m.h with
  | some ws => R r ws
  | none => False
noncomputable def rowT3 (N : Nat) (e : TypeId) : Tm := ⟨1, [some (.tuple (.hole (.slice N 0 (.hole .nil))) .nil)], N, List.replicate N .dead ++ [.list e .row]⟩
variable [TT] [PR] {P : Program}
theorem getW_sound (l : List TBc) : ∀ {i : Nat} {t : Tr XB} {ws : List WB}, getW l i t = some ws → ∀ p ∈ putG l i ws, t.get p.1 = some p.2 := by
  have _ := TT.tt
  have _ := PR.prog
  induction l with
  | nil => intro i t ws _ p hp; cases hp
  | cons o l ih =>
    intro i t ws h p hp
    cases o with
    | dead => exact ih h p hp
    | rlist e => exact ih h p hp
    | rcells T e => exact ih h p hp
    | wlist e k =>
      simp only [getW] at h
      obtain ⟨b, eb, h⟩ := bindSome h
      obtain ⟨y, ey, h⟩ := bindSome h
      obtain ⟨hc, h⟩ := condSome h
      obtain ⟨r, er, h⟩ := bindSome h
      cases h
      simp only [Bool.and_eq_true] at hc
      simp only [putG, List.head?_cons, List.tail_cons, List.mem_cons] at hp
      rcases hp with rfl | hp
      · rw [eb, cellsX_eq ey, Nat.eq_of_beq_eq_true hc.1, kEq_eq2 hc.2]; rfl
      · exact ih er p hp
    | wmap =>
      simp only [getW] at h
      obtain ⟨b, eb, h⟩ := bindSome h
      obtain ⟨y, ey, h⟩ := bindSome h
      obtain ⟨r, er, h⟩ := bindSome h
      cases h
      have hb : b = .map y := by unfold mapX at ey; split at ey <;> cases ey; rfl
      simp only [putG, List.head?_cons, List.tail_cons, List.mem_cons] at hp
      rcases hp with rfl | hp
      · rw [eb, hb]; rfl
      · exact ih er p hp
theorem conW_of {N : Nat} {V : Vx} (hV : VSound P N V) {f : FuncId} {C : ConW} (hcall : Callable P f) (h : ∀ x, C.pre x → ∃ hs, V.call f (C.args x) (retW C.bs fun r ws => r = C.res x ∧ ws = C.out x) (C.mem x) hs)
    (hc : ∀ x, C.pre x → clR 50 (C.res x) = true ∧ ∀ b ∈ C.out x, b.ok) (ha : ∀ x, C.pre x → ClW x) (hs : C.bs.length ≤ 1000000) (hg : P.globals.size ≤ C.bs.length) : ConWOK P f C where
  calls := hcall
  says x hp := by
    obtain ⟨hs, hv⟩ := h x hp
    refine (hV.call hv).2.mono ?_
    rintro r H ⟨m, hs', hk, rfl⟩
    unfold retW at hk
    split at hk
    · rename_i ws hw
      obtain ⟨rfl, rfl⟩ := hk
      exact ⟨rfl, fun p hp => Mem.get_H (getW_sound _ hw p hp)⟩
    · exact hk.elim
  closed := hc
  atoms := ha
  small := hs
  glob := hg
theorem conRow3_of {N : Nat} {V : Vx} (htt : TT.tt = true) (hV : VSound P N V) {f : FuncId} {C : ConN} {e : TypeId} {cells : List Value} {n : Nat} {y0 z : Int} (x0 : Hx) (hx0 : ∀ x, C.pre x ↔ x = x0) (hone : C.one = false) (hres : C.res x0 = [.cv (.int .i64 y0), .sl 0 n, .cv (.int .i64 z)]) (hnews : C.news x0 = [(cells, e)])
    (h : ∃ hs, V.call f (C.con.args x0) (retN (rowT3 C.bs.length e) fun y => y = ⟨⟨[.int .i64 y0, .int .i64 z], [(n, n)]⟩, [cells]⟩) (C.con.mem x0) hs) (ha : Atoms x0.ls) (hat : ∀ v ∈ cells, atomic v = true)
    (hr : allRo C.bs = true) (hs : C.bs.length ≤ 100000) (hg : P.globals.size ≤ C.bs.length) : ConNOK P f C where
  calls := by obtain ⟨hs, hv⟩ := h; exact (hV.call hv).1
  says x hp := by
    cases (hx0 x).1 hp
    obtain ⟨hs', hv⟩ := h
    have hlen : (rowT3 C.bs.length e).blocks.length = C.bs.length + 1 := by simp [rowT3]
    have hval : ((rowT3 C.bs.length e).inst ⟨⟨[.int .i64 y0, .int .i64 z], [(n, n)]⟩, [cells]⟩).a.f 0 = some (.tuple ⟨[.int .i64 y0, .slice (some ⟨C.bs.length, 0, none⟩) n n, .int .i64 z]⟩) := rfl
    refine (retN_says htt hV (T := rowT3 C.bs.length e) rfl (by exact hg) (fun j hj => ?_) (fun cs hcs => by simp only [List.mem_singleton] at hcs; subst hcs; exact hat) hv hval).mono ?_
    · have hj' : C.bs.length ≤ j := hj
      have := Con.mem_H (C := C.con) (x := x0) (by show C.bs.length ≤ _; omega) j
      rw [this, List.getElem?_eq_none (by rw [instB_len]; exact hj')]
      rfl
    · rintro r H' ⟨rfl, rfl⟩
      refine ⟨?_, fun t cs e' ht => ?_⟩
      · rw [hone, hres]; rfl
      · rw [hnews] at ht
        match t, ht with
        | 0, ht =>
          simp only [List.getElem?_cons_zero, Option.some.injEq, Prod.mk.injEq] at ht
          obtain ⟨rfl, rfl⟩ := ht
          rw [Nat.add_zero, Tm.inst_H (by rw [hlen]; omega)]
          have key : ∀ (k : Nat) (h : Hx), (instB (List.replicate k .dead ++ [.list e .row]) h).1[k]? = some (.cells (h.ls.headD []) e .row) := by
            intro k
            induction k with
            | zero => intro h; rfl
            | succ k ih => intro h; exact ih h
          show Option.map XB.a ((instB (List.replicate C.bs.length .dead ++ [.list e .row]) _).1[C.bs.length]?) = _
          rw [key]
          rfl
  closed x hp := by cases (hx0 x).1 hp; rw [hres, hnews]; exact ⟨rfl, fun h => (by rw [hone] at h; cases h)⟩
  atoms x hp := by
    cases (hx0 x).1 hp
    refine ⟨ha, fun y hy => ?_⟩
    rw [hnews] at hy
    simp only [List.mem_singleton] at hy
    subst hy
    exact hat
  ro := hr
  small := by omega
  glob := hg
end Go.Ab
