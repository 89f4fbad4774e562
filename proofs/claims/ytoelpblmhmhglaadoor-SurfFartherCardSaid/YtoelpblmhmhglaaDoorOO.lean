/- ABSTRACT MEMORY, 51: cells of so many elements; numbers that fit; what a contract asks. -/
import Derived.Test.YtoelpblmhmhglaaDoorON
import Derived.IntWalk
import Derived.Test.YtoelpblmhmhglaaDoorOI
namespace Go.Ab
open Go Go.RowKit
section
theorem flatC_len {n k : Nat} {g : Nat → List Value} (hk : ∀ i, i < n → (g i).length = k) : (flatC n g).length = n * k := by
 induction n with
 | zero => simp [flatC]
 | succ n ih =>
  have h1 := ih (fun i hi => hk i (by omega))
  simp only [flatC, List.range_succ, List.flatMap_append, List.length_append] at h1 ⊢
  rw [h1]
  simp only [List.flatMap_cons, List.flatMap_nil, List.append_nil, hk n (by omega), Nat.succ_mul]
theorem flatC_succ {n : Nat} {g : Nat → List Value} : flatC (n + 1) g = flatC n g ++ g n := by simp [flatC, List.range_succ]
theorem flatC_part {n k : Nat} {g : Nat → List Value} (hk : ∀ i, i < n → (g i).length = k) {i : Nat} (hi : i < n) : ((flatC n g).drop (i * k)).take k = g i := by
 induction n with
 | zero => omega
 | succ n ih =>
  have hl := flatC_len (n := n) (g := g) (k := k) fun i hi => hk i (by omega)
  rw [flatC_succ]
  by_cases h : i = n
  · subst h
    rw [List.drop_append_of_le_length (by omega), List.drop_eq_nil_of_le (by omega)]
    have := hk i (by omega)
    rw [List.nil_append, ← this, List.take_length]
  · have h2 := ih (fun i hi => hk i (by omega)) (by omega)
    have h3 : i * k + k ≤ n * k := by
     have : (i + 1) * k ≤ n * k := Nat.mul_le_mul_right k (by omega)
     rw [Nat.succ_mul] at this; exact this
    rw [List.drop_append_of_le_length (by omega), List.take_append_of_le_length (by rw [List.length_drop]; omega)]
    exact h2
theorem flatC_get {n k : Nat} {g : Nat → List Value} (hk : ∀ i, i < n → (g i).length = k) {i j : Nat} (hi : i < n) (hj : j < k) : (flatC n g)[i * k + j]? = (g i)[j]? := by
 have h := flatC_part hk hi
 have : (((flatC n g).drop (i * k)).take k)[j]? = (g i)[j]? := by rw [h]
 rw [List.getElem?_take_of_lt hj, List.getElem?_drop] at this
 exact this
theorem flatC_bound {n k i : Nat} (h : i < n) : i * k + k ≤ n * k := by
 have : (i + 1) * k ≤ n * k := Nat.mul_le_mul_right k (by omega)
 rw [Nat.succ_mul] at this; exact this
theorem flatC_atomic {n : Nat} {g : Nat → List Value} (h : ∀ i, i < n → ∀ v ∈ g i, atomic v = true) : ∀ v ∈ flatC n g, atomic v = true := by
 intro v hv
 simp only [flatC, List.mem_flatMap, List.mem_range] at hv
 obtain ⟨i, hi, hv⟩ := hv
 exact h i hi v hv
theorem wrapI {x : Int} (h1 : -9223372036854775808 ≤ x) (h2 : x < 9223372036854775808) : IntKind.i64.wrap x = x := Go.IntWalk.i64_in x ⟨h1, by omega⟩
theorem wrS {i : Nat} (h : i < 100000) : IntKind.i64.wrap ((i : Int) + 1) = ((i + 1 : Nat) : Int) := wrapI (by omega) (by omega)
end
variable [TT] [PR] {P : Program}
theorem con_of {N : Nat} {V : Vx} (hV : VSound P N V) {f : FuncId} {C : Con} (x0 : Hx) (h : ∀ x, C.pre x → ∃ hs, V.call f (C.args x) (retK fun r => r = C.res x) (C.mem x) hs) (hx : C.pre x0) (hc : ∀ x, C.pre x → clR 50 (C.res x) = true) (ha : ∀ x, C.pre x → Atoms x.ls)
    (hr : allRo C.bs = true) (hs : C.bs.length ≤ 1000000) (hg : P.globals.size ≤ C.bs.length) : ConOK P f C where
 calls := by obtain ⟨hs, hv⟩ := h x0 hx; exact (hV.call hv).1
 says x hp := by
  obtain ⟨hs, hv⟩ := h x hp
  refine (hV.call hv).2.mono ?_
  rintro r H ⟨m, hs', hk, rfl⟩
  exact hk
 closed := hc
 atoms := ha
 ro := hr
 small := hs
 glob := hg
end Go.Ab
namespace Go.Ab
open Go Go.RowKit
noncomputable def retN (T : Tm) (R : Hx → Prop) : ARes → Mem → HS → Prop := fun r m hs =>
 match r with
 | .ret v => match tick hs with
  | (some (.tm _ π), _) => match T.ext π ⟨1, Tr.set 40 .nil 0 (some v), [], m⟩ with
   | some x => R x
   | none => False
  | _ => False
 | .pan _ => False
variable [TT] [PR] {P : Program}
theorem retN_says {N : Nat} {V : Vx} (htt : TT.tt = true) (hV : VSound P N V) {f : FuncId} {args : List Value} {m : Mem} {T : Tm} {y : Hx} {hs : HS} (hT : T.n = 1) (hg : P.globals.size ≤ T.k) (hk : ∀ j, T.k ≤ j → m.H j = none) (hat : Atoms y.ls)
    (h : V.call f args (retN T fun x => x = y) m hs) {v : Value} (hv : (T.inst y).a.f 0 = some v) : SCalls P f args m.H fun r' H' => r' = .ret v ∧ H' = (T.inst y).H := by
 intro B0 m0 w ws hr hvs k
 refine ((hV.call h).2 B0 m0 w ws hr hvs k).mono ?_
 rintro e w1 ⟨r, H1, m1, ⟨m', hs', hq, rfl⟩, hE, hr1, hB1, hres⟩
 unfold retN at hq
 split at hq
 · rename_i u
   split at hq
   · rename_i i π _ _
     split at hq
     · rename_i x hx
       subst hq
       obtain ⟨u', rfl, hu⟩ := hres
       have har : ARel m1 (⟨1, Tr.set 40 .nil 0 (some u), [], m'⟩ : St).a ⟨#[u'], []⟩ := by
        refine ⟨⟨rfl, fun t z hz => ?_⟩, .nil⟩
        have hz' : tF (Tr.set 40 .nil 0 (some u)) t = some z := hz
        rw [tF_set (by rfl)] at hz'
        by_cases h0 : t = 0
        · subst h0
          simp only [if_true, Option.some.injEq] at hz'
          subst hz'
          exact hu
        · simp only [if_neg h0] at hz'
          have hz2 : z = undef := by
           simp only [tF, Tr.get_nil] at hz'
           cases hz'; rfl
          subst hz2
          have : (#[u'] : Array Value).getD t undef = undef := by
           simp only [Array.getD]
           rw [dif_neg (by simp only [List.size_toArray, List.length_cons, List.length_nil]; omega)]
          show VRel m1 undef ((#[u'] : Array Value).getD t undef)
          rw [this]
          exact .tuple .nil .nil
       obtain ⟨m2, q1, q2, q3⟩ := Tm.ext_sound (P := P) hx hat hg B0 m1 w1 ⟨#[u'], []⟩ hr1 har
       refine ⟨.ret v, (T.inst x).H, m2, ⟨rfl, rfl⟩, hE.renew htt hr hk q1, q2, hB1, u', rfl, ?_⟩
       exact q3.1.2 0 v hv
     · exact hq.elim
   · exact hq.elim
 · exact hq.elim
end Go.Ab
namespace Go.Ab
open Go Go.RowKit
variable [TT] [PR]
section
variable {P : Program} {ro : Option Nat} {N : Nat} {V : Vx}
theorem loop_forW (htt : TT.tt = true) (hV : VSound P N V) {p : Loc} {Ts : List Tw} {k n : Nat} {st : Nat → Nat × Hw} {e : AExit} (hk : ∀ T ∈ Ts, T.k = k) (hg : P.globals.size ≤ k) (he : e ≠ .normal ∧ exitOK e) (hcl : ∀ i, i ≤ n → ClW (st i).2)
    (round : ∀ i, i < n → ∀ R : Nat → AExit → Hw → Prop, R (st (i + 1)).1 .normal (st (i + 1)).2 → ∃ T hs, Ts[(st i).1]? = some T ∧ V.code ro (.l p) (leafW Ts R) (T.inst (st i).2) hs)
    (last : ∀ R : Nat → AExit → Hw → Prop, R (st n).1 e (st n).2 → ∃ T hs, Ts[(st n).1]? = some T ∧ V.code ro (.l p) (leafW Ts R) (T.inst (st n).2) hs)
    {T0 T1 : Tw} (h0 : Ts[(st 0).1]? = some T0) (h0k : T0.blocks.length ≤ k) (hs0 : k ≤ 1000000) (h1 : Ts[(st n).1]? = some T1) : LoopOW P ro p T0 (st 0).2 e T1 (st n).2 := by
 refine loop_vcW htt hV (Ts := Ts) (k := k) (X := Nat) (inv := fun i => i ≤ n) (μ := fun i => n - i) (st := st) (out := fun _ => (e, (st n).1, (st n).2)) hk hg (fun i hi => ?_) (Nat.zero_le n) (x := 0) h0 h0k hs0 h1
 by_cases h : i = n
 · subst h
   exact last _ ⟨⟨hcl i (Nat.le_refl i), he.2⟩, .inr ⟨he.1, rfl⟩⟩
 · exact round i (by omega) _ ⟨⟨hcl (i + 1) (by omega), trivial⟩, .inl ⟨rfl, i + 1, by omega, by show n - (i + 1) < n - i; omega, rfl, rfl⟩⟩
end
end Go.Ab
namespace Go.Ab
open Go Go.RowKit
variable [TT] [PR] {P : Program}
end Go.Ab
namespace Go.Ab
open Go Go.RowKit
noncomputable def getW : List TBc → Nat → Tr XB → Option (List WB)
 | [], _, _ => some []
 | .wlist e k :: l, j, t => (t.get j).bind fun b => (cellsX b).bind fun x => cond (Nat.beq e x.2.1 && kEq k x.2.2) ((getW l (Nat.succ j) t).bind fun r => some (.lst x.1 :: r)) none
 | .wmap :: l, j, t => (t.get j).bind fun b => (mapX b).bind fun es => (getW l (Nat.succ j) t).bind fun r => some (.mp es :: r)
 | _ :: l, j, t => getW l (Nat.succ j) t
noncomputable def retW (bs : List TBc) (R : ARes → List WB → Prop) : ARes → Mem → HS → Prop := fun r m _ =>
 match getW bs 0 m.h with
 | some ws => R r ws
 | none => False
variable [TT] [PR] {P : Program}
theorem getW_sound (l : List TBc) : ∀ {i : Nat} {t : Tr XB} {ws : List WB}, getW l i t = some ws → ∀ p ∈ putG l i ws, t.get p.1 = some p.2 := by
 have _ := TT.tt
 have _ := PR.prog
 induction l with
 | nil => intro i t ws _ p hp; cases hp
 | cons o l ih =>
  intro i t ws h p hp
  cases o with
  | dead => exact ih h p hp
  | rlist e => exact ih h p hp
  | rcells T e => exact ih h p hp
  | wlist e k =>
   simp only [getW] at h
   obtain ⟨b, eb, h⟩ := bindSome h
   obtain ⟨y, ey, h⟩ := bindSome h
   obtain ⟨hc, h⟩ := condSome h
   obtain ⟨r, er, h⟩ := bindSome h
   cases h
   simp only [Bool.and_eq_true] at hc
   simp only [putG, List.head?_cons, List.tail_cons, List.mem_cons] at hp
   rcases hp with rfl | hp
   · rw [eb, cellsX_eq ey, Nat.eq_of_beq_eq_true hc.1, kEq_eq2 hc.2]; rfl
   · exact ih er p hp
  | wmap =>
   simp only [getW] at h
   obtain ⟨b, eb, h⟩ := bindSome h
   obtain ⟨y, ey, h⟩ := bindSome h
   obtain ⟨r, er, h⟩ := bindSome h
   cases h
   have hb : b = .map y := by unfold mapX at ey; split at ey <;> cases ey; rfl
   simp only [putG, List.head?_cons, List.tail_cons, List.mem_cons] at hp
   rcases hp with rfl | hp
   · rw [eb, hb]; rfl
   · exact ih er p hp
theorem conW_of {N : Nat} {V : Vx} (hV : VSound P N V) {f : FuncId} {C : ConW} (hcall : Callable P f) (h : ∀ x, C.pre x → ∃ hs, V.call f (C.args x) (retW C.bs fun r ws => r = C.res x ∧ ws = C.out x) (C.mem x) hs)
    (hc : ∀ x, C.pre x → clR 50 (C.res x) = true ∧ ∀ b ∈ C.out x, b.ok) (ha : ∀ x, C.pre x → ClW x) (hs : C.bs.length ≤ 1000000) (hg : P.globals.size ≤ C.bs.length) : ConWOK P f C where
 calls := hcall
 says x hp := by
  obtain ⟨hs, hv⟩ := h x hp
  refine (hV.call hv).2.mono ?_
  rintro r H ⟨m, hs', hk, rfl⟩
  unfold retW at hk
  split at hk
  · rename_i ws hw
    obtain ⟨rfl, rfl⟩ := hk
    exact ⟨rfl, fun p hp => Mem.get_H (getW_sound _ hw p hp)⟩
  · exact hk.elim
 closed := hc
 atoms := ha
 small := hs
 glob := hg
end Go.Ab
namespace Go.Ab
open Go Go.RowKit
variable [TT] [PR] {P : Program}
end Go.Ab
namespace Go.Ab
open Go Go.RowKit
variable [PR]
section
variable [TT] {P : Program}
end
end Go.Ab
namespace Go.Ab
open Go Go.RowKit
end Go.Ab
namespace Go.Ab
open Go Go.RowKit
variable [PR]
end Go.Ab
