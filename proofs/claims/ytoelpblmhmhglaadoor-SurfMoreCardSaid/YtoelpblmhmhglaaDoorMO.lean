/- ABSTRACT MEMORY, 51: cells of so many elements; numbers that fit; what a contract asks. -/
import Derived.Test.YtoelpblmhmhglaaDoorMN
import Derived.IntWalk
import Derived.Test.YtoelpblmhmhglaaDoorMI
namespace Go.Ab
open Go Go.RowKit
section
theorem flatC_len {n k : Nat} {g : Nat → List Value} (hk : ∀ i, i < n → (g i).length = k) : (flatC n g).length = n * k := by
 induction n with
 | zero => simp [flatC]
 | succ n ih =>
  have h1 := ih (fun i hi => hk i (by omega))
  simp only [flatC, List.range_succ, List.flatMap_append, List.length_append] at h1 ⊢
  rw [h1]
  simp only [List.flatMap_cons, List.flatMap_nil, List.append_nil, hk n (by omega), Nat.succ_mul]
theorem flatC_succ {n : Nat} {g : Nat → List Value} : flatC (n + 1) g = flatC n g ++ g n := by simp [flatC, List.range_succ]
theorem flatC_part {n k : Nat} {g : Nat → List Value} (hk : ∀ i, i < n → (g i).length = k) {i : Nat} (hi : i < n) : ((flatC n g).drop (i * k)).take k = g i := by
 induction n with
 | zero => omega
 | succ n ih =>
  have hl := flatC_len (n := n) (g := g) (k := k) fun i hi => hk i (by omega)
  rw [flatC_succ]
  by_cases h : i = n
  · subst h
    rw [List.drop_append_of_le_length (by omega), List.drop_eq_nil_of_le (by omega)]
    have := hk i (by omega)
    rw [List.nil_append, ← this, List.take_length]
  · have h2 := ih (fun i hi => hk i (by omega)) (by omega)
    have h3 : i * k + k ≤ n * k := by
     have : (i + 1) * k ≤ n * k := Nat.mul_le_mul_right k (by omega)
     rw [Nat.succ_mul] at this; exact this
    rw [List.drop_append_of_le_length (by omega), List.take_append_of_le_length (by rw [List.length_drop]; omega)]
    exact h2
theorem flatC_get {n k : Nat} {g : Nat → List Value} (hk : ∀ i, i < n → (g i).length = k) {i j : Nat} (hi : i < n) (hj : j < k) : (flatC n g)[i * k + j]? = (g i)[j]? := by
 have h := flatC_part hk hi
 have : (((flatC n g).drop (i * k)).take k)[j]? = (g i)[j]? := by rw [h]
 rw [List.getElem?_take_of_lt hj, List.getElem?_drop] at this
 exact this
theorem flatC_bound {n k i : Nat} (h : i < n) : i * k + k ≤ n * k := by
 have : (i + 1) * k ≤ n * k := Nat.mul_le_mul_right k (by omega)
 rw [Nat.succ_mul] at this; exact this
theorem flatC_atomic {n : Nat} {g : Nat → List Value} (h : ∀ i, i < n → ∀ v ∈ g i, atomic v = true) : ∀ v ∈ flatC n g, atomic v = true := by
 intro v hv
 simp only [flatC, List.mem_flatMap, List.mem_range] at hv
 obtain ⟨i, hi, hv⟩ := hv
 exact h i hi v hv
theorem wrapI {x : Int} (h1 : -9223372036854775808 ≤ x) (h2 : x < 9223372036854775808) : IntKind.i64.wrap x = x := Go.IntWalk.i64_in x ⟨h1, by omega⟩
theorem wrS {i : Nat} (h : i < 100000) : IntKind.i64.wrap ((i : Int) + 1) = ((i + 1 : Nat) : Int) := wrapI (by omega) (by omega)
end
variable [TT] [PR] {P : Program}
theorem con_of {N : Nat} {V : Vx} (hV : VSound P N V) {f : FuncId} {C : Con} (x0 : Hx) (h : ∀ x, C.pre x → ∃ hs, V.call f (C.args x) (retK fun r => r = C.res x) (C.mem x) hs) (hx : C.pre x0) (hc : ∀ x, C.pre x → clR 50 (C.res x) = true) (ha : ∀ x, C.pre x → Atoms x.ls)
    (hr : allRo C.bs = true) (hs : C.bs.length ≤ 1000000) (hg : P.globals.size ≤ C.bs.length) : ConOK P f C where
 calls := by obtain ⟨hs, hv⟩ := h x0 hx; exact (hV.call hv).1
 says x hp := by
  obtain ⟨hs, hv⟩ := h x hp
  refine (hV.call hv).2.mono ?_
  rintro r H ⟨m, hs', hk, rfl⟩
  exact hk
 closed := hc
 atoms := ha
 ro := hr
 small := hs
 glob := hg
end Go.Ab
namespace Go.Ab
open Go Go.RowKit
noncomputable def retN (T : Tm) (R : Hx → Prop) : ARes → Mem → HS → Prop := fun r m hs =>
 match r with
 | .ret v => match tick hs with
  | (some (.tm _ π), _) => match T.ext π ⟨1, Tr.set 40 .nil 0 (some v), [], m⟩ with
   | some x => R x
   | none => False
  | _ => False
 | .pan _ => False
variable [TT] [PR] {P : Program}
theorem retN_says {N : Nat} {V : Vx} (htt : TT.tt = true) (hV : VSound P N V) {f : FuncId} {args : List Value} {m : Mem} {T : Tm} {y : Hx} {hs : HS} (hT : T.n = 1) (hg : P.globals.size ≤ T.k) (hk : ∀ j, T.k ≤ j → m.H j = none) (hat : Atoms y.ls)
    (h : V.call f args (retN T fun x => x = y) m hs) {v : Value} (hv : (T.inst y).a.f 0 = some v) : SCalls P f args m.H fun r' H' => r' = .ret v ∧ H' = (T.inst y).H := by
 intro B0 m0 w ws hr hvs k
 refine ((hV.call h).2 B0 m0 w ws hr hvs k).mono ?_
 rintro e w1 ⟨r, H1, m1, ⟨m', hs', hq, rfl⟩, hE, hr1, hB1, hres⟩
 unfold retN at hq
 split at hq
 · rename_i u
   split at hq
   · rename_i i π _ _
     split at hq
     · rename_i x hx
       subst hq
       obtain ⟨u', rfl, hu⟩ := hres
       have har : ARel m1 (⟨1, Tr.set 40 .nil 0 (some u), [], m'⟩ : St).a ⟨#[u'], []⟩ := by
        refine ⟨⟨rfl, fun t z hz => ?_⟩, .nil⟩
        have hz' : tF (Tr.set 40 .nil 0 (some u)) t = some z := hz
        rw [tF_set (by rfl)] at hz'
        by_cases h0 : t = 0
        · subst h0
          simp only [if_true, Option.some.injEq] at hz'
          subst hz'
          exact hu
        · simp only [if_neg h0] at hz'
          have hz2 : z = undef := by
           simp only [tF, Tr.get_nil] at hz'
           cases hz'; rfl
          subst hz2
          have : (#[u'] : Array Value).getD t undef = undef := by
           simp only [Array.getD]
           rw [dif_neg (by simp only [List.size_toArray, List.length_cons, List.length_nil]; omega)]
          show VRel m1 undef ((#[u'] : Array Value).getD t undef)
          rw [this]
          exact .tuple .nil .nil
       obtain ⟨m2, q1, q2, q3⟩ := Tm.ext_sound (P := P) hx hat hg B0 m1 w1 ⟨#[u'], []⟩ hr1 har
       refine ⟨.ret v, (T.inst x).H, m2, ⟨rfl, rfl⟩, hE.renew htt hr hk q1, q2, hB1, u', rfl, ?_⟩
       exact q3.1.2 0 v hv
     · exact hq.elim
   · exact hq.elim
 · exact hq.elim
end Go.Ab
namespace Go.Ab
open Go Go.RowKit
variable [TT] [PR]
section
variable {P : Program} {ro : Option Nat} {N : Nat} {V : Vx}
theorem loop_forW (htt : TT.tt = true) (hV : VSound P N V) {p : Loc} {Ts : List Tw} {k n : Nat} {st : Nat → Nat × Hw} {e : AExit} (hk : ∀ T ∈ Ts, T.k = k) (hg : P.globals.size ≤ k) (he : e ≠ .normal ∧ exitOK e) (hcl : ∀ i, i ≤ n → ClW (st i).2)
    (round : ∀ i, i < n → ∀ R : Nat → AExit → Hw → Prop, R (st (i + 1)).1 .normal (st (i + 1)).2 → ∃ T hs, Ts[(st i).1]? = some T ∧ V.code ro (.l p) (leafW Ts R) (T.inst (st i).2) hs)
    (last : ∀ R : Nat → AExit → Hw → Prop, R (st n).1 e (st n).2 → ∃ T hs, Ts[(st n).1]? = some T ∧ V.code ro (.l p) (leafW Ts R) (T.inst (st n).2) hs)
    {T0 T1 : Tw} (h0 : Ts[(st 0).1]? = some T0) (h0k : T0.blocks.length ≤ k) (hs0 : k ≤ 1000000) (h1 : Ts[(st n).1]? = some T1) : LoopOW P ro p T0 (st 0).2 e T1 (st n).2 := by
 refine loop_vcW htt hV (Ts := Ts) (k := k) (X := Nat) (inv := fun i => i ≤ n) (μ := fun i => n - i) (st := st) (out := fun _ => (e, (st n).1, (st n).2)) hk hg (fun i hi => ?_) (Nat.zero_le n) (x := 0) h0 h0k hs0 h1
 by_cases h : i = n
 · subst h
   exact last _ ⟨⟨hcl i (Nat.le_refl i), he.2⟩, .inr ⟨he.1, rfl⟩⟩
 · exact round i (by omega) _ ⟨⟨hcl (i + 1) (by omega), trivial⟩, .inl ⟨rfl, i + 1, by omega, by show n - (i + 1) < n - i; omega, rfl, rfl⟩⟩
end
end Go.Ab
namespace Go.Ab
open Go Go.RowKit
variable [TT] [PR] {P : Program}
end Go.Ab
namespace Go.Ab
open Go Go.RowKit
noncomputable def getW : List TBc → Nat → Tr XB → Option (List WB)
 | [], _, _ => some []
 | .wlist e k :: l, j, t => (t.get j).bind fun b => (cellsX b).bind fun x => cond (Nat.beq e x.2.1 && kEq k x.2.2) ((getW l (Nat.succ j) t).bind fun r => some (.lst x.1 :: r)) none
 | .wmap :: l, j, t => (t.get j).bind fun b => (mapX b).bind fun es => (getW l (Nat.succ j) t).bind fun r => some (.mp es :: r)
 | _ :: l, j, t => getW l (Nat.succ j) t
noncomputable def retW (bs : List TBc) (R : ARes → List WB → Prop) : ARes → Mem → HS → Prop := fun r m _ =>
 match getW bs 0 m.h with
 | some ws => R r ws
 | none => False
variable [TT] [PR] {P : Program}
theorem getW_sound (l : List TBc) : ∀ {i : Nat} {t : Tr XB} {ws : List WB}, getW l i t = some ws → ∀ p ∈ putG l i ws, t.get p.1 = some p.2 := by
 have _ := TT.tt
 have _ := PR.prog
 induction l with
 | nil => intro i t ws _ p hp; cases hp
 | cons o l ih =>
  intro i t ws h p hp
  cases o with
  | dead => exact ih h p hp
  | rlist e => exact ih h p hp
  | rcells T e => exact ih h p hp
  | wlist e k =>
   simp only [getW] at h
   obtain ⟨b, eb, h⟩ := bindSome h
   obtain ⟨y, ey, h⟩ := bindSome h
   obtain ⟨hc, h⟩ := condSome h
   obtain ⟨r, er, h⟩ := bindSome h
   cases h
   simp only [Bool.and_eq_true] at hc
   simp only [putG, List.head?_cons, List.tail_cons, List.mem_cons] at hp
   rcases hp with rfl | hp
   · rw [eb, cellsX_eq ey, Nat.eq_of_beq_eq_true hc.1, kEq_eq2 hc.2]; rfl
   · exact ih er p hp
  | wmap =>
   simp only [getW] at h
   obtain ⟨b, eb, h⟩ := bindSome h
   obtain ⟨y, ey, h⟩ := bindSome h
   obtain ⟨r, er, h⟩ := bindSome h
   cases h
   have hb : b = .map y := by unfold mapX at ey; split at ey <;> cases ey; rfl
   simp only [putG, List.head?_cons, List.tail_cons, List.mem_cons] at hp
   rcases hp with rfl | hp
   · rw [eb, hb]; rfl
   · exact ih er p hp
theorem conW_of {N : Nat} {V : Vx} (hV : VSound P N V) {f : FuncId} {C : ConW} (hcall : Callable P f) (h : ∀ x, C.pre x → ∃ hs, V.call f (C.args x) (retW C.bs fun r ws => r = C.res x ∧ ws = C.out x) (C.mem x) hs)
    (hc : ∀ x, C.pre x → clR 50 (C.res x) = true ∧ ∀ b ∈ C.out x, b.ok) (ha : ∀ x, C.pre x → ClW x) (hs : C.bs.length ≤ 1000000) (hg : P.globals.size ≤ C.bs.length) : ConWOK P f C where
 calls := hcall
 says x hp := by
  obtain ⟨hs, hv⟩ := h x hp
  refine (hV.call hv).2.mono ?_
  rintro r H ⟨m, hs', hk, rfl⟩
  unfold retW at hk
  split at hk
  · rename_i ws hw
    obtain ⟨rfl, rfl⟩ := hk
    exact ⟨rfl, fun p hp => Mem.get_H (getW_sound _ hw p hp)⟩
  · exact hk.elim
 closed := hc
 atoms := ha
 small := hs
 glob := hg
end Go.Ab
namespace Go.Ab
open Go Go.RowKit
variable [TT] [PR] {P : Program}
end Go.Ab
namespace Go.Ab
open Go Go.RowKit
variable [PR]
structure Ent where
 f : FuncId
 args : List Value
 bs : List (Option (List Value × TypeId))
 r : Value
def bOf : Option (List Value × TypeId) → XB
 | none => .dead
 | some (cs, e) => .cells cs e .ro
noncomputable def fillB (l : List (Option (List Value × TypeId))) : Nat → Tr XB → Tr XB :=
 List.rec (motive := fun _ => Nat → Tr XB → Tr XB) (fun _ t => t) (fun b _ ih k t => ih (Nat.succ k) (Tr.set 40 t k (bOf b))) l
theorem fillB_get (l : List (Option (List Value × TypeId))) : ∀ {k : Nat} {t : Tr XB}, k + l.length ≤ 1000000000 → ∀ x, (fillB l k t).get x = if k ≤ x ∧ x < k + l.length then (l[x - k]?).map bOf else t.get x := by
 induction l with
 | nil =>
  intro k t _ x
  rw [if_neg (by simp only [List.length_nil]; omega)]
  rfl
 | cons v l ih =>
  intro k t h x
  simp only [List.length_cons] at h ⊢
  show (fillB l (Nat.succ k) (Tr.set 40 t k (bOf v))).get x = _
  rw [ih (by omega)]
  have hb : Nat.ble k 1000000000 = true := Nat.ble_eq_true_of_le (by omega)
  by_cases h1 : Nat.succ k ≤ x ∧ x < Nat.succ k + l.length
  · rw [if_pos h1, if_pos (by omega)]
    have e : x - k = (x - Nat.succ k) + 1 := by omega
    rw [e, List.getElem?_cons_succ]
  · rw [if_neg h1, Tr.get_set (lt40 hb)]
    by_cases e : x = k
    · subst e
      rw [if_pos rfl, if_pos (by omega)]
      simp
    · rw [if_neg e, if_neg (by omega)]
noncomputable def Ent.mem (e : Ent) : Mem := ⟨fillB e.bs 0 .nil, e.bs.length⟩
theorem Ent.mem_H {e : Ent} (h : e.bs.length ≤ 1000000) (i : Nat) : e.mem.H i = (e.bs[i]?).map fun b => (bOf b).a := by
 have hg := fillB_get e.bs (k := 0) (t := .nil) (by omega) i
 simp only [Mem.H, Ent.mem]
 rw [hg]
 by_cases hi : i < e.bs.length
 · rw [if_pos (by omega)]
   simp [List.getElem?_eq_getElem hi]
 · rw [if_neg (by omega)]
   simp only [Tr.get_nil]
   rw [List.getElem?_eq_none (by omega)]
   rfl
section
variable [TT] {P : Program}
structure EntOK (P : Program) (e : Ent) : Prop where
 calls : Callable P e.f
 says : SCalls P e.f e.args e.mem.H fun r' _ => r' = .ret e.r
 closed : cl 50 e.r = true
 small : e.bs.length ≤ 1000000
 glob : P.globals.size ≤ e.bs.length
theorem Ent.alone {e : Ent} (h : EntOK P e) : Alone P e.bs.length e.mem.H where
 has i hi := by
  rw [Ent.mem_H h.small, List.getElem?_eq_getElem hi]
  cases hb : e.bs[i] with
  | none => exact .inl rfl
  | some x => exact .inr ⟨x.1, x.2, rfl⟩
 no i hi := by rw [Ent.mem_H h.small, List.getElem?_eq_none hi]; rfl
 glob := h.glob
end
def uniW (f : Value → Value → List (Nat × Nat)) (g : List Value → List Value → List (Nat × Nat)) (u v : Value) : List (Nat × Nat) :=
 match u with
 | .pointer (some ⟨i, _, none⟩) => (match v with | .pointer (some ⟨j, _, none⟩) => [(i, j)] | _ => [])
 | .slice (some ⟨i, _, none⟩) _ _ => (match v with | .slice (some ⟨j, _, none⟩) _ _ => [(i, j)] | _ => [])
 | .iface _ a => (match v with | .iface _ b => f a b | _ => [])
 | .agg a => (match v with | .agg b => g a.toList b.toList | _ => [])
 | .tuple a => (match v with | .tuple b => g a.toList b.toList | _ => [])
 | _ => []
def uniL (f : Value → Value → List (Nat × Nat)) (g : List Value → List Value → List (Nat × Nat)) : List Value → List Value → List (Nat × Nat)
 | u :: us, v :: vs => f u v ++ g us vs
 | _, _ => []
def uniN : Nat → (Value → Value → List (Nat × Nat)) × (List Value → List Value → List (Nat × Nat))
 | 0 => (fun _ _ => [], fun _ _ => [])
 | n + 1 => (uniW (uniN n).1 (uniN n).2, uniL (uniN n).1 (uniN n).2)
noncomputable def piOf (g : Nat) (l : List (Nat × Nat)) (i : Nat) : Nat := cond (Nat.blt i g) i (List.rec (motive := fun _ => Nat) i (fun x _ ih => cond (Nat.beq x.1 i) x.2 ih) l)
noncomputable def uniB (bs : List (Option (List Value × TypeId))) (m : Mem) (l : List (Nat × Nat)) : List (Nat × Nat) :=
 l ++ l.flatMap fun x => match bs[x.1]?, m.H x.2 with
  | some (some (cs, _)), some (.cells cs' _ _) => (uniN 50).2 cs cs'
  | _, _ => []
noncomputable def matE (g : Nat) (e : Ent) (args : List Value) (m : Mem) : Bool :=
 let π := piOf g (uniB e.bs m ((uniN 50).2 e.args args))
 (matN e.bs.length π 50).2 e.args args && (List.range e.bs.length).all fun i => match e.bs[i]? with
  | some (some (cs, _)) => match m.H (π i) with
   | some (.cells cs' _ _) => (matN e.bs.length π 50).2 cs cs'
   | _ => false
  | _ => true
noncomputable def tabFind (g : Nat) (T : List Ent) (f : FuncId) (args : List Value) (m : Mem) : Option Value :=
 List.rec (motive := fun _ => Option Value) none (fun e _ ih => cond (Nat.beq e.f f) (cond (matE g e args m) (some e.r) ih) ih) T
noncomputable def xTab (X : Ex) (P : Program) (T : List Ent) (f : FuncId) (args : List Value) (m : Mem) : Option (ARes × Mem) :=
 match tabFind P.globals.size T f args m with
 | some r => some (.ret r, m)
 | none => xCallF X P f args m
end Go.Ab
namespace Go.Ab
open Go Go.RowKit
noncomputable def pth (d : Nat) : Nat → List Bool :=
 Nat.rec (motive := fun _ => Nat → List Bool) (fun _ => []) (fun _ ih k => Nat.rec (motive := fun _ => List Bool) [] (fun j _ => Nat.rec (motive := fun _ => List Bool) (true :: ih (Nat.div j 2)) (fun _ _ => false :: ih (Nat.div j 2)) (Nat.mod j 2)) k) d
noncomputable def getp {α : Type} (p : List Bool) : Tr α → Option α :=
 List.rec (motive := fun _ => Tr α → Option α) (fun t => Tr.rec (motive := fun _ => Option α) none (fun _ v _ _ _ => v) t)
  (fun b _ ih t => Tr.rec (motive := fun _ => Option α) none (fun l _ r _ _ => Bool.rec (motive := fun _ => Option α) (ih r) (ih l) b) t) p
noncomputable def setp {α : Type} (p : List Bool) : Tr α → α → Tr α :=
 List.rec (motive := fun _ => Tr α → α → Tr α) (fun t v => Tr.rec (motive := fun _ => Tr α) (.node .nil (some v) .nil) (fun l _ r _ _ => .node l (some v) r) t)
  (fun b _ ih t v => Tr.rec (motive := fun _ => Tr α) (Bool.rec (motive := fun _ => Tr α) (.node .nil none (ih .nil v)) (.node (ih .nil v) none .nil) b)
   (fun l x r _ _ => Bool.rec (motive := fun _ => Tr α) (.node l x (ih r v)) (.node (ih l v) x r) b) t) p
noncomputable def wrap64 (n : Int) : Int :=
 Int.rec (motive := fun _ => Int) (fun m => Bool.rec (motive := fun _ => Int) (IntKind.i64.wrap (Int.ofNat m)) (Int.ofNat m) (Nat.ble m 9223372036854775807)) (fun m => Bool.rec (motive := fun _ => Int) (IntKind.i64.wrap (Int.negSucc m)) (Int.negSucc m) (Nat.ble m 9223372036854775807)) n
noncomputable def fwrap (k : IntKind) (n : Int) : Int := IntKind.rec (motive := fun _ => Int) (k.wrap n) (k.wrap n) (k.wrap n) (wrap64 n) (k.wrap n) (k.wrap n) (k.wrap n) (k.wrap n) k
noncomputable def ile (a b : Int) : Bool :=
 Int.rec (motive := fun _ => Bool) (fun m => Int.rec (motive := fun _ => Bool) (fun n => Nat.ble m n) (fun _ => false) b) (fun m => Int.rec (motive := fun _ => Bool) (fun _ => true) (fun n => Nat.ble n m) b) a
noncomputable def ieq (a b : Int) : Bool :=
 Int.rec (motive := fun _ => Bool) (fun m => Int.rec (motive := fun _ => Bool) (fun n => Nat.beq m n) (fun _ => false) b) (fun m => Int.rec (motive := fun _ => Bool) (fun _ => false) (fun n => Nat.beq m n) b) a
end Go.Ab
namespace Go.Ab
open Go Go.RowKit
variable [PR]
structure EvC where
 get : Tr (Option Value) → Option Value
noncomputable def evTmp (k : Nat) : EvC := Bool.rec (motive := fun _ => EvC) ⟨fun t => tF t k⟩ ⟨fun t => Option.rec (motive := fun _ => Option Value) (some undef) (fun o => o) (getp (pth 40 k) t)⟩ (Nat.ble k 1000000000)
noncomputable def evC (P : Program) (x : Operand) : EvC :=
 Operand.rec (motive := fun _ => EvC) (fun k => evTmp k) (fun v => Bool.rec (motive := fun _ => EvC) ⟨fun _ => none⟩ ⟨fun _ => some v⟩ (flat v))
  (fun g => Bool.rec (motive := fun _ => EvC) ⟨fun _ => none⟩ ⟨fun _ => some (.pointer (some ⟨g, 0, none⟩))⟩ (Nat.ble (Nat.succ g) P.globals.size)) (fun f => ⟨fun _ => some (.func (.func f) #[] #[])⟩) x
noncomputable def ikN (k : IntKind) : Nat := IntKind.rec (motive := fun _ => Nat) 0 1 2 3 4 5 6 7 k
noncomputable def ikEq (a b : IntKind) : Bool := Nat.beq (ikN a) (ikN b)
structure I2 where
 run : IntKind → Int → Int → Option Value
noncomputable def iop (op : BinOp) : Option I2 :=
 match op with
 | .add => some ⟨fun k a b => some (.int k (fwrap k (Int.add a b)))⟩
 | .sub => some ⟨fun k a b => some (.int k (fwrap k (Int.sub a b)))⟩
 | .mul => some ⟨fun k a b => some (.int k (fwrap k (Int.mul a b)))⟩
 | .lss => some ⟨fun _ a b => some (.bool (Bool.rec (motive := fun _ => Bool) true false (ile b a)))⟩
 | .leq => some ⟨fun _ a b => some (.bool (ile a b))⟩
 | .gtr => some ⟨fun _ a b => some (.bool (Bool.rec (motive := fun _ => Bool) true false (ile a b)))⟩
 | .geq => some ⟨fun _ a b => some (.bool (ile b a))⟩
 | .eql => some ⟨fun _ a b => some (.bool (ieq a b))⟩
 | .neq => some ⟨fun _ a b => some (.bool (Bool.rec (motive := fun _ => Bool) true false (ieq a b)))⟩
 | _ => none
structure V2 where
 run : Value → Value → Option Value
noncomputable def v2int (f : I2) (g : Value → Value → Option Value) (u v : Value) : Option Value :=
 match u with
 | .int k a => (match v with | .int k' b => cond (ikEq k k') (f.run k a b) none | v => g u v)
 | u => g u v
noncomputable def v2 (P : Program) (op : BinOp) (t : TypeId) (y : Operand) : V2 :=
 match iop op with
 | some f => ⟨v2int f (b_two P op t y)⟩
 | none => ⟨b_two P op t y⟩
structure PC where
 run : Tr (Option Value) → Mem → Option Value
noncomputable def lnth (l : List Value) : Nat → Option Value :=
 List.rec (motive := fun _ => Nat → Option Value) (fun _ => none) (fun v _ ih k => Nat.rec (motive := fun _ => Option Value) (some v) (fun j _ => ih j) k) l
noncomputable def ld1 (m : Mem) (u : Value) : Option Value :=
 match u with
 | .pointer (some ⟨i, o, none⟩) => Option.rec (motive := fun _ => Option Value) none (fun b => XB.rec (motive := fun _ => Option Value) none (fun cs _ _ => lnth cs o) (fun _ => none) (fun _ => none) none (fun _ _ _ _ => none) b) (m.h.get i)
 | _ => none
noncomputable def pcLoad (P : Program) (ty : TypeId) (x : Operand) : PC :=
 match tAgg P ty with
 | some false => ⟨fun t m => Option.rec (motive := fun _ => Option Value) none (fun u => ld1 m u) ((evC P x).get t)⟩
 | _ => ⟨fun t m => p_load P (fun x => (evC P x).get t) m.H ty x⟩
noncomputable def addOff (off : Nat) (u : Value) : Option Value :=
 match u with
 | .pointer (some ⟨i, o, none⟩) => some (.pointer (some ⟨i, Nat.add o off, none⟩))
 | _ => none
noncomputable def pcFieldAddr (P : Program) (s : TypeId) (x : Operand) (f : Nat) : PC :=
 match fOff P s f with
 | some (off, _) => ⟨fun t _ => Option.rec (motive := fun _ => Option Value) none (fun u => addOff off u) ((evC P x).get t)⟩
 | none => ⟨fun _ _ => none⟩
noncomputable def pcGen (P : Program) (op : Op) : PC := ⟨fun t m => fPure P (fun x => (evC P x).get t) m.H op⟩
noncomputable def pc (P : Program) (op : Op) : PC :=
 match op with
 | .move x => ⟨fun t _ => (evC P x).get t⟩
 | .assign x => ⟨fun t _ => (evC P x).get t⟩
 | .load ty x => pcLoad P ty x
 | .binOp op ty x y _ => ⟨fun t _ => Option.rec (motive := fun _ => Option Value) none (fun u => Option.rec (motive := fun _ => Option Value) none (fun v => (v2 P op ty y).run u v) ((evC P y).get t)) ((evC P x).get t)⟩
 | .fieldAddr s x f => pcFieldAddr P s x f
 | .pick c x y => ⟨fun t m => p_pick P (fun x => (evC P x).get t) m.H c x y⟩
 | .unOp op _ x => ⟨fun t _ => p_unOp (fun x => (evC P x).get t) op x⟩
 | .convert s d x => ⟨fun t _ => p_convert P (fun x => (evC P x).get t) s d x⟩
 | .makeInterface ty x => ⟨fun t _ => p_mkIface P (fun x => (evC P x).get t) ty x⟩
 | .makeFunc fn a b => ⟨fun t _ => p_makeFunc (fun x => (evC P x).get t) fn a b⟩
 | .field ty x f => ⟨fun t _ => p_field P (fun x => (evC P x).get t) ty x f⟩
 | .indexAddr ty x i => ⟨fun t m => p_indexAddr P (fun x => (evC P x).get t) m.H ty x i⟩
 | .index ty x i => ⟨fun t m => p_index P (fun x => (evC P x).get t) m.H ty x i⟩
 | .lookup ty x k ok => ⟨fun t m => p_lookup P (fun x => (evC P x).get t) m.H ty x k ok⟩
 | .extract x i => ⟨fun t _ => p_extract (fun x => (evC P x).get t) x i⟩
 | .typeAssert x a b ok => ⟨fun t m => p_typeAssert P (fun x => (evC P x).get t) m.H x a b ok⟩
 | .slice ty x lo hi mx => ⟨fun t m => p_slice P (fun x => (evC P x).get t) m.H ty x lo hi mx⟩
 | .build ty ps => ⟨fun t m => p_build P (fun x => (evC P x).get t) m.H ty ps⟩
 | op => pcGen P op
end Go.Ab
