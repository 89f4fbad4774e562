/- ABSTRACT MEMORY, 1: values and memory up to the names of blocks, the capacities of slices and garbage. -/
import Derived.RangeFuncLeaves
import Derived.RecoverIn
import Derived.Orders
import Derived.Below
import Derived.WalkKit
import Derived.Laws.StructEq
import Derived.WideKeyRuns
import Derived.Laws.AppendOwn
namespace Go.Ab
open Go Go.RowKit
structure BInfo where
 blk : Nat
 off : Nat
 extra : Nat
abbrev NMap := Nat → Option BInfo
def NMap.le (m m' : NMap) : Prop := ∀ i f, m i = some f → m' i = some f
theorem NMap.le_refl (m : NMap) : m.le m := fun _ _ h => h
theorem NMap.le_trans {a b c : NMap} (h : a.le b) (k : b.le c) : a.le c := fun i f e => k i f (h i f e)
def atomic : Value → Bool
 | .bool _ | .int _ _ | .float _ _ | .complex _ _ _ | .string _ => true
 | .pointer none | .slice none 0 0 | .map none | .chan none | .nilFunc | .nilIface => true
 | _ => false
inductive FnRel (m : NMap) : Fn → Fn → Prop
 | func (f : FuncId) : FnRel m (.func f) (.func f)
 | method (s : String) : FnRel m (.method s) (.method s)
 | methodOf (t : TypeId) (s : String) : FnRel m (.methodOf t s) (.methodOf t s)
 | via (t : TypeId) (p : Array FieldStep) (f : FuncId) (b : Bool) : FnRel m (.via t p f b) (.via t p f b)
 | yield {l : Nat} {f : BInfo} (h : m l = some f) : FnRel m (.yield l) (.yield f.blk)
inductive VsRel (m : NMap) : List Value → List Value → Prop
 | nil : VsRel m [] []
 | atom {v : Value} {l l' : List Value} (h : atomic v = true) (hl : VsRel m l l') : VsRel m (v :: l) (v :: l')
 | ptr {i o : Nat} {f : BInfo} {l l' : List Value} (h : m i = some f) (hl : VsRel m l l') : VsRel m (.pointer (some ⟨i, o, none⟩) :: l) (.pointer (some ⟨f.blk, f.off + o, none⟩) :: l')
 | slice {i o n c : Nat} {f : BInfo} {a : Addr} {l l' : List Value} (h : m i = some f) (hn : n ≤ c) (ha : 0 < c + f.extra → a = ⟨f.blk, f.off + o, none⟩) (hl : VsRel m l l') :
     VsRel m (.slice (some ⟨i, o, none⟩) n c :: l) (.slice (some a) n (c + f.extra) :: l')
 | cut {i o n c : Nat} {f : BInfo} {a : Addr} {l l' : List Value} (h : m i = some f) (hn : n ≤ c) (ha : 0 < c → a = ⟨f.blk, f.off + o, none⟩) (hl : VsRel m l l') :
     VsRel m (.slice (some ⟨i, o, some 0⟩) n c :: l) (.slice (some a) n c :: l')
 | map {i : Nat} {f : BInfo} {l l' : List Value} (h : m i = some f) (hl : VsRel m l l') : VsRel m (.map (some i) :: l) (.map (some f.blk) :: l')
 | func {fn fn' : Fn} {a a' c c' l l' : List Value} (h : FnRel m fn fn') (ha : VsRel m a a') (hc : VsRel m c c') (hl : VsRel m l l') : VsRel m (.func fn ⟨a⟩ ⟨c⟩ :: l) (.func fn' ⟨a'⟩ ⟨c'⟩ :: l')
 | iface {t : TypeId} {v v' : Value} {l l' : List Value} (h : VsRel m [v] [v']) (hl : VsRel m l l') : VsRel m (.iface t v :: l) (.iface t v' :: l')
 | agg {a a' l l' : List Value} (h : VsRel m a a') (hl : VsRel m l l') : VsRel m (.agg ⟨a⟩ :: l) (.agg ⟨a'⟩ :: l')
 | tuple {a a' l l' : List Value} (h : VsRel m a a') (hl : VsRel m l l') : VsRel m (.tuple ⟨a⟩ :: l) (.tuple ⟨a'⟩ :: l')
abbrev VRel (m : NMap) (v v' : Value) : Prop := VsRel m [v] [v']
section
variable {m m' : NMap}
theorem FnRel.mono (h : m.le m') {f f' : Fn} (hf : FnRel m f f') : FnRel m' f f' := by
 cases hf with
 | yield hl => exact .yield (h _ _ hl)
 | _ => constructor
theorem VsRel.mono (h : m.le m') {l l' : List Value} (hl : VsRel m l l') : VsRel m' l l' := by
 induction hl with
 | nil => exact .nil
 | atom h1 _ ih => exact .atom h1 ih
 | ptr h1 _ ih => exact .ptr (h _ _ h1) ih
 | slice h1 hn ha _ ih => exact .slice (h _ _ h1) hn ha ih
 | cut h1 hn ha _ ih => exact .cut (h _ _ h1) hn ha ih
 | map h1 _ ih => exact .map (h _ _ h1) ih
 | func h1 _ _ _ i1 i2 i3 => exact .func (h1.mono h) i1 i2 i3
 | iface _ _ i1 i2 => exact .iface i1 i2
 | agg _ _ i1 i2 => exact .agg i1 i2
 | tuple _ _ i1 i2 => exact .tuple i1 i2
theorem VsRel.length {l l' : List Value} (h : VsRel m l l') : l'.length = l.length := by
 induction h <;> simp_all
theorem VsRel.uncons {v : Value} {l s : List Value} (h : VsRel m (v :: l) s) : ∃ v' l', s = v' :: l' ∧ VRel m v v' ∧ VsRel m l l' := by
 cases h with
 | atom h hl => exact ⟨_, _, rfl, .atom h .nil, hl⟩
 | ptr h hl => exact ⟨_, _, rfl, .ptr h .nil, hl⟩
 | slice h hn ha hl => exact ⟨_, _, rfl, .slice h hn ha .nil, hl⟩
 | cut h hn ha hl => exact ⟨_, _, rfl, .cut h hn ha .nil, hl⟩
 | map h hl => exact ⟨_, _, rfl, .map h .nil, hl⟩
 | func h ha hc hl => exact ⟨_, _, rfl, .func h ha hc .nil, hl⟩
 | iface h hl => exact ⟨_, _, rfl, .iface h .nil, hl⟩
 | agg h hl => exact ⟨_, _, rfl, .agg h .nil, hl⟩
 | tuple h hl => exact ⟨_, _, rfl, .tuple h .nil, hl⟩
theorem VsRel.cons {v v' : Value} {l l' : List Value} (h : VRel m v v') (hl : VsRel m l l') : VsRel m (v :: l) (v' :: l') := by
 cases h with
 | atom h _ => exact .atom h hl
 | ptr h _ => exact .ptr h hl
 | slice h hn ha _ => exact .slice h hn ha hl
 | cut h hn ha _ => exact .cut h hn ha hl
 | map h _ => exact .map h hl
 | func h ha hc _ => exact .func h ha hc hl
 | iface h _ => exact .iface h hl
 | agg h _ => exact .agg h hl
 | tuple h _ => exact .tuple h hl
theorem VsRel.nil_left {s : List Value} (h : VsRel m [] s) : s = [] := by cases h; rfl
theorem VsRel.append {a a' b b' : List Value} (h : VsRel m a a') (k : VsRel m b b') : VsRel m (a ++ b) (a' ++ b') := by
 induction a generalizing a' with
 | nil => rw [h.nil_left]; exact k
 | cons v l ih =>
  obtain ⟨v', l', rfl, hv, hl⟩ := h.uncons
  exact .cons hv (ih hl)
theorem VsRel.take {a a' : List Value} (n : Nat) (h : VsRel m a a') : VsRel m (a.take n) (a'.take n) := by
 induction a generalizing a' n with
 | nil => rw [h.nil_left]; simp; exact .nil
 | cons v l ih =>
  obtain ⟨v', l', rfl, hv, hl⟩ := h.uncons
  cases n with
  | zero => exact .nil
  | succ n => exact .cons hv (ih n hl)
theorem VsRel.drop {a a' : List Value} (n : Nat) (h : VsRel m a a') : VsRel m (a.drop n) (a'.drop n) := by
 induction a generalizing a' n with
 | nil => rw [h.nil_left]; simp; exact .nil
 | cons v l ih =>
  obtain ⟨v', l', rfl, hv, hl⟩ := h.uncons
  cases n with
  | zero => exact .cons hv hl
  | succ n => exact ih n hl
theorem VsRel.get {a a' : List Value} {j : Nat} {v : Value} (h : VsRel m a a') (hj : a[j]? = some v) : ∃ v', a'[j]? = some v' ∧ VRel m v v' := by
 induction a generalizing a' j with
 | nil => simp at hj
 | cons u l ih =>
  obtain ⟨v', l', rfl, hv, hl⟩ := h.uncons
  cases j with
  | zero => simp at hj; subst hj; exact ⟨v', by simp, hv⟩
  | succ j => simpa using ih hl (by simpa using hj)
theorem VsRel.of_get {a a' : List Value} (hlen : a'.length = a.length) (h : ∀ (j : Nat) v, a[j]? = some v → ∃ v', a'[j]? = some v' ∧ VRel m v v') : VsRel m a a' := by
 induction a generalizing a' with
 | nil => have : a' = [] := by simpa using hlen
          subst this; exact .nil
 | cons u l ih =>
  match a', hlen with
  | v' :: l', hlen =>
   obtain ⟨x, hx, hv⟩ := h 0 u (by simp)
   simp at hx; subst hx
   exact .cons hv (ih (by simpa using hlen) fun j v hj => by simpa using h (j + 1) v (by simpa using hj))
theorem VsRel.atoms {l : List Value} (h : ∀ v ∈ l, atomic v = true) : VsRel m l l := by
 induction l with
 | nil => exact .nil
 | cons v l ih => exact .atom (h v (by simp)) (ih fun u hu => h u (by simp [hu]))
theorem VRel.of_atomic {v : Value} (h : atomic v = true) : VRel m v v := .atom h .nil
theorem VRel.eq_of_atomic {v v' : Value} (h : VRel m v v') (ha : atomic v = true) : v' = v := by
 cases h <;> first | rfl | (simp [atomic] at ha)
end
structure ATmps where
 n : Nat
 f : Nat → Option Value
def TRel (m : NMap) (τ : ATmps) (a : Array Value) : Prop := a.size = τ.n ∧ ∀ t v, τ.f t = some v → VRel m v (a.getD t undef)
structure ALoop where
 state : LoopState
 pending : Option Code
 tmps : ATmps
 params : Array Tmp
 assign : Code
 body : Code
inductive BKind where
 | ro | var | row
 deriving DecidableEq
class TT where
 tt : Bool
inductive ABlk where
 | dead
 | cells (cs : List Value) (elem : TypeId) (k : BKind)
 | map (es : List (Value × Value))
 | loop (L : ALoop)
 | defs
 | iter (i s : Nat) (seen : List Nat) (c : Nat)
def ABlk.own : ABlk → Bool
 | .cells _ _ k => match k with | .ro => false | _ => true
 | .dead => false
 | _ => true
abbrev AHeap := Nat → Option ABlk
def upd (H : AHeap) (i : Nat) (b : ABlk) : AHeap := fun j => if j = i then some b else H j
@[simp] theorem upd_same (H : AHeap) (i : Nat) (b : ABlk) : upd H i b i = some b := by simp [upd]
theorem upd_other (H : AHeap) (i j : Nat) (b : ABlk) (h : j ≠ i) : upd H i b j = H j := by simp [upd, h]
inductive EsRel (m : NMap) : List (Value × Value) → List MapEntry → Prop
 | nil : EsRel m [] []
 | cons {k v : Value} {e : MapEntry} {es : List (Value × Value)} {es' : List MapEntry} (hk : VRel m k e.key) (hv : VRel m v e.val) (hl : EsRel m es es') : EsRel m ((k, v) :: es) (e :: es')
abbrev Prot := Nat → Prop
def upTo (n : Nat) : Prot := fun k => k < n
structure Keep (S : Prot) (w w' : World) : Prop where
 os : w'.os = w.os
 tape : w'.tape = w.tape
 output : w'.output = w.output
 size : w.heap.size ≤ w'.heap.size
 block : ∀ k, S k → w'.heap[k]? = w.heap[k]?
theorem Keep.refl (S : Prot) (w : World) : Keep S w w := ⟨rfl, rfl, rfl, Nat.le_refl _, fun _ _ => rfl⟩
theorem Keep.trans {S : Prot} {a b c : World} (h : Keep S a b) (k : Keep S b c) : Keep S a c :=
 ⟨k.os.trans h.os, k.tape.trans h.tape, k.output.trans h.output, Nat.le_trans h.size k.size, fun i hi => (k.block i hi).trans (h.block i hi)⟩
theorem Keep.mono {S S' : Prot} {w w' : World} (h : Keep S w w') (hS : ∀ k, S' k → S k) : Keep S' w w' := ⟨h.os, h.tape, h.output, h.size, fun k hk => h.block k (hS k hk)⟩
theorem Keep.drew {S : Prot} {a w : World} (h : Keep S a w) : Keep S a w.drew := ⟨h.os, h.tape, h.output, h.size, h.block⟩
theorem Keep.alloc {S : Prot} {a w : World} (h : Keep S a w) (hS : ∀ k, S k → k < w.heap.size) (o : Obj) : Keep S a (w.alloc o) :=
 h.trans ⟨rfl, rfl, rfl, by simp, fun k hk => Go.RowKit.Below.heap_alloc _ _ _ (hS k hk)⟩
theorem Keep.below {n : Nat} {w w' : World} (h : Keep (upTo n) w w') : Go.RowKit.Below n w w' := ⟨h.os, h.tape, h.output, h.size, fun k hk => h.block k hk⟩
def BlkRel (P : Program) (B0 : Prot) (m : NMap) (w : World) : ABlk → BInfo → Prop
 | .dead, _ => True
 | .cells cs e k, f => ∃ c e' fr, w.heap[f.blk]? = some (.cells c e' fr) ∧ (∀ (j : Nat) v, cs[j]? = some v → ∃ v', c[f.off + j]? = some v' ∧ VRel m v v') ∧
     (k ≠ .ro → f.off = 0 ∧ fr = (0, 0) ∧ ¬ B0 f.blk ∧ e' = e ∧ c.size = cs.length + f.extra * P.cellsOf e) ∧ (k = .ro → B0 f.blk) ∧ (k = .var → f.extra = 0)
 | .map es, f => ¬ B0 f.blk ∧ ∃ es' clock, w.heap[f.blk]? = some (.map es' clock) ∧ EsRel m es es'.toList ∧ clock = es'.size ∧ ∀ (j : Nat) e, es'[j]? = some e → e.born = j
 | .loop L, f => ¬ B0 f.blk ∧ ∃ L' : Loop, w.heap[f.blk]? = some (.loop L') ∧ L'.state = L.state ∧ L'.pending = L.pending ∧ TRel m L.tmps L'.tmps ∧ L'.params = L.params ∧ L'.assign = L.assign ∧ L'.body = L.body
 | .defs, f => ¬ B0 f.blk ∧ w.heap[f.blk]? = some (.deferred (some []))
 | .iter i s seen c, f => ¬ B0 f.blk ∧ f.off = 0 ∧ ∃ g : BInfo, m i = some g ∧ w.heap[f.blk]? = some (.mapIter (some g.blk) s ⟨seen⟩ c)
section
variable [TT]
structure Rel (P : Program) (B0 : Prot) (m : NMap) (H : AHeap) (w : World) : Prop where
 blocks : ∀ i b f, H i = some b → m i = some f → BlkRel P B0 m w b f
 inj : ∀ i j b c f g, i ≠ j → H i = some b → H j = some c → b.own = true → c.own = true → m i = some f → m j = some g → f.blk ≠ g.blk
 fin : ∃ N, ∀ i, N ≤ i → m i = none ∧ H i = none
 base : ∀ k, B0 k → k < w.heap.size
 glob : ∀ g, g < P.globals.size → m g = some ⟨g, 0, 0⟩
 tot : TT.tt = true → ∀ i, H i = none → m i = none
end
section
variable {P : Program} {B0 : Prot} {m m' : NMap} {H H' : AHeap} {w w' : World}
theorem TRel.mono (h : m.le m') {τ : ATmps} {a : Array Value} (ht : TRel m τ a) : TRel m' τ a := ⟨ht.1, fun t v hv => (ht.2 t v hv).mono h⟩
theorem EsRel.mono (h : m.le m') {es : List (Value × Value)} {es' : List MapEntry} (ht : EsRel m es es') : EsRel m' es es' := by
 induction ht with
 | nil => exact .nil
 | cons hk hv _ ih => exact .cons (hk.mono h) (hv.mono h) ih
theorem BlkRel.mono (h : m.le m') {b : ABlk} {f : BInfo} (hb : BlkRel P B0 m w b f) : BlkRel P B0 m' w b f := by
 cases b with
 | cells cs e own =>
  obtain ⟨c, e', fr, hc, hv, ho, hr⟩ := hb
  exact ⟨c, e', fr, hc, fun j v hj => let ⟨v', a, b⟩ := hv j v hj; ⟨v', a, b.mono h⟩, ho, hr⟩
 | map es =>
  obtain ⟨hB, es', clock, hh, he, hrest⟩ := hb
  exact ⟨hB, es', clock, hh, he.mono h, hrest⟩
 | loop L =>
  obtain ⟨hB, L', hh, h1, h2, h3, h4⟩ := hb
  exact ⟨hB, L', hh, h1, h2, h3.mono h, h4⟩
 | defs => exact hb
 | dead => exact hb
 | iter i s seen c =>
  obtain ⟨hB, ho, g, hg, hh⟩ := hb
  exact ⟨hB, ho, g, h _ _ hg, hh⟩
theorem BlkRel.heap {b : ABlk} {f : BInfo} (hb : BlkRel P B0 m w b f) (hw : b ≠ .dead → w'.heap[f.blk]? = w.heap[f.blk]?) : BlkRel P B0 m w' b f := by
 cases b with
 | dead => trivial
 | _ => have hw := hw (by simp); simp only [BlkRel, hw] at hb ⊢ <;> exact hb
theorem ABlk.own_dead {b : ABlk} (h : b.own = true) : b ≠ .dead := by rintro rfl; cases h
theorem BlkRel.lt {b : ABlk} {f : BInfo} (hb : BlkRel P B0 m w b f) (hd : b ≠ .dead) : f.blk < w.heap.size := by
 have key : ∀ o, w.heap[f.blk]? = some o → f.blk < w.heap.size := fun o h => (Array.getElem?_eq_some_iff.1 h).1
 cases b with
 | dead => exact absurd rfl hd
 | cells cs e own => obtain ⟨c, e', fr, hc, _⟩ := hb; exact key _ hc
 | map es => obtain ⟨_, es', clock, hh, _⟩ := hb; exact key _ hh
 | loop L => obtain ⟨_, L', hh, _⟩ := hb; exact key _ hh
 | defs => exact key _ hb.2
 | iter i s seen c => obtain ⟨_, _, g, _, hh⟩ := hb; exact key _ hh
theorem BlkRel.own_ge {b : ABlk} {f : BInfo} (hb : BlkRel P B0 m w b f) (ho : b.own = true) : ¬ B0 f.blk := by
 cases b with
 | cells cs e k => obtain ⟨c, e', fr, hc, _, h, _⟩ := hb; exact (h (by rintro rfl; simp [ABlk.own] at ho)).2.2.1
 | map es => exact hb.1
 | loop L => exact hb.1
 | defs => exact hb.1
 | iter i s seen c => exact hb.1
 | dead => cases ho
theorem BlkRel.ro_lt {b : ABlk} {f : BInfo} (hb : BlkRel P B0 m w b f) (ho : b.own = false) (hd : b ≠ .dead) : B0 f.blk := by
 cases b with
 | dead => exact absurd rfl hd
 | cells cs e k => obtain ⟨c, e', fr, hc, _, _, h, _⟩ := hb; exact h (by cases k <;> simp_all [ABlk.own])
 | map es => simp [ABlk.own] at ho
 | loop L => simp [ABlk.own] at ho
 | defs => simp [ABlk.own] at ho
 | iter i s seen c => simp [ABlk.own] at ho
variable [TT]
theorem Rel.newb (h : Rel P B0 m H w) : ¬ B0 w.heap.size := fun hk => Nat.lt_irrefl _ (h.base _ hk)
def Sub (H' H : AHeap) : Prop := ∀ i, H' i = H i ∨ (H' i = some .dead ∧ H i ≠ none) ∨ (TT.tt = false ∧ H' i = none)
theorem Sub.is {i : Nat} {b : ABlk} (h : Sub H' H) (hi : H' i = some b) : b = .dead ∨ H i = some b := by
 rcases h i with e | ⟨e, _⟩ | ⟨_, e⟩
 · exact .inr (by rw [← e]; exact hi)
 · rw [e] at hi; cases hi; exact .inl rfl
 · rw [e] at hi; cases hi
theorem Sub.isnt {i : Nat} (h : Sub H' H) (hi : H i = none) : H' i = none := by
 rcases h i with e | ⟨_, e⟩ | ⟨_, e⟩
 · rw [e]; exact hi
 · exact absurd hi e
 · exact e
theorem Sub.refl (H : AHeap) : Sub H H := fun _ => .inl rfl
structure Ext (m : NMap) (H : AHeap) (m' : NMap) (H' : AHeap) : Prop where
 le : m.le m'
 same : TT.tt = true → ∀ i, H i ≠ none → m' i = m i ∧ H' i ≠ none
theorem Ext.refl (m : NMap) (H : AHeap) : Ext m H m H := ⟨m.le_refl, fun _ _ h => ⟨rfl, h⟩⟩
theorem Ext.trans {m1 m2 m3 : NMap} {H1 H2 H3 : AHeap} (h : Ext m1 H1 m2 H2) (k : Ext m2 H2 m3 H3) : Ext m1 H1 m3 H3 :=
 ⟨NMap.le_trans h.le k.le, fun ht i hi => let ⟨a, b⟩ := h.same ht i hi; let ⟨c, d⟩ := k.same ht i b; ⟨c.trans a, d⟩⟩
theorem Ext.upd (m : NMap) (H : AHeap) (i : Nat) (b : ABlk) : Ext m H m (upd H i b) := ⟨m.le_refl, fun _ j hj => ⟨rfl, by simp only [Ab.upd]; split <;> simp_all⟩⟩
theorem Ext.sub {m m' : NMap} {H H' H2 H2' : AHeap} (h : Ext m H2 m' H') (hs : Sub H2 H) (hs' : Sub H2' H') : Ext m H m' H2' :=
 ⟨h.le, fun ht i hi => by
  have h2 : H2 i ≠ none := by
   rcases hs i with e | ⟨e, _⟩ | ⟨e, _⟩
   · rw [e]; exact hi
   · rw [e]; simp
   · rw [e] at ht; cases ht
  obtain ⟨h3, h4⟩ := h.same ht i h2
  refine ⟨h3, ?_⟩
  rcases hs' i with e | ⟨e, _⟩ | ⟨e, _⟩
  · rw [e]; exact h4
  · rw [e]; simp
  · rw [e] at ht; cases ht⟩
theorem Rel.sub (h : Rel P B0 m H w) (hs : Sub H' H) : Rel P B0 m H' w where
 blocks i b f hi hm := by
  rcases hs.is hi with rfl | e
  · trivial
  · exact h.blocks i b f e hm
 inj i j b c f g hij hi hj hb hc := by
  rcases hs.is hi with rfl | e
  · cases hb
  rcases hs.is hj with rfl | e'
  · cases hc
  exact h.inj i j b c f g hij e e' hb hc
 tot ht i hi := by
  rcases hs i with e | ⟨e, _⟩ | ⟨e, _⟩
  · exact h.tot ht i (by rw [← e]; exact hi)
  · rw [e] at hi; cases hi
  · rw [e] at ht; cases ht
 fin := by
  obtain ⟨N, hN⟩ := h.fin
  exact ⟨N, fun i hi => ⟨(hN i hi).1, hs.isnt (hN i hi).2⟩⟩
 base := h.base
 glob := h.glob
theorem Rel.of_heap (h : Rel P B0 m H w) (hw : w'.heap = w.heap) : Rel P B0 m H w' where
 blocks i b f hi hm := (h.blocks i b f hi hm).heap (fun _ => by rw [hw])
 inj := h.inj
 tot := h.tot
 fin := h.fin
 base := by rw [hw]; exact h.base
 glob := h.glob
def nset (m : NMap) (i : Nat) (f : BInfo) : NMap := fun j => if j = i then some f else m j
theorem nset_le {i : Nat} {f : BInfo} (h : m i = none) : m.le (nset m i f) := have _ := TT.tt; fun j g hg => by
 unfold nset
 by_cases e : j = i
 · subst e; rw [h] at hg; cases hg
 · simp [e, hg]
def pick (H : AHeap) (K : Nat → Prop) : Prop := (TT.tt = true ∧ ∃ i, H i = none ∧ K i) ∨ ∀ i, H i = none → K i
theorem pick.mono {K K' : Nat → Prop} (h : pick H K) (hk : ∀ i, K i → K' i) : pick H K' := by
 rcases h with ⟨ht, i, hi, h⟩ | h
 · exact .inl ⟨ht, i, hi, hk i h⟩
 · exact .inr fun i hi => hk i (h i hi)
theorem Rel.pick {K : Nat → Prop} (h : Rel P B0 m H w) (hp : Ab.pick H K) : ∃ i, m i = none ∧ H i = none ∧ K i := by
 rcases hp with ⟨ht, i, hi, hk⟩ | hp
 · exact ⟨i, h.tot ht i hi, hi, hk⟩
 · obtain ⟨N, hN⟩ := h.fin
   exact ⟨N, (hN N (Nat.le_refl _)).1, (hN N (Nat.le_refl _)).2, hp N (hN N (Nat.le_refl _)).2⟩
theorem Ext.new {i : Nat} {f : BInfo} {b : ABlk} (h : m i = none) (hH : H i = none) : Ext m H (nset m i f) (Ab.upd H i b) :=
 ⟨nset_le h, fun _ j hj => by
  have e : j ≠ i := by rintro rfl; exact hj hH
  exact ⟨by simp [nset, e], by rw [upd_other _ _ _ _ e]; exact hj⟩⟩
theorem Rel.alloc (h : Rel P B0 m H w) {i : Nat} (hm : m i = none) (hH : H i = none) (o : Obj) (b : ABlk) (f : BInfo) (hf : f.blk = w.heap.size) (hb : BlkRel P B0 m (w.alloc o) b f) :
    Rel P B0 (nset m i f) (upd H i b) (w.alloc o) where
 blocks j c g hj hg := by
  by_cases e : j = i
  · subst e
    simp [nset] at hg; simp at hj
    subst hg; subst hj
    exact hb.mono (nset_le hm)
  · rw [upd_other _ _ _ _ e] at hj
    simp [nset, e] at hg
    have h0 := h.blocks j c g hj hg
    exact (h0.heap fun hd => Go.RowKit.Below.heap_alloc w o _ (h0.lt hd)).mono (nset_le hm)
 tot ht j hj := by
  by_cases e : j = i
  · subst e; simp at hj
  · rw [upd_other _ _ _ _ e] at hj
    simp [nset, e, h.tot ht j hj]
 inj j k c d g g' hjk hj hk hcj hck hgj hgk := by
  by_cases e : j = i
  · subst e
    have ek : k ≠ j := Ne.symm hjk
    simp [nset] at hgj; subst hgj
    rw [upd_other _ _ _ _ ek] at hk
    simp [nset, ek] at hgk
    have := (h.blocks k d g' hk hgk).lt (ABlk.own_dead hck)
    omega
  · by_cases e' : k = i
    · subst e'
      simp [nset] at hgk; subst hgk
      rw [upd_other _ _ _ _ e] at hj
      simp [nset, e] at hgj
      have := (h.blocks j c g hj hgj).lt (ABlk.own_dead hcj)
      omega
    · rw [upd_other _ _ _ _ e] at hj
      rw [upd_other _ _ _ _ e'] at hk
      simp [nset, e] at hgj
      simp [nset, e'] at hgk
      exact h.inj j k c d g g' hjk hj hk hcj hck hgj hgk
 fin := by
  obtain ⟨N, hN⟩ := h.fin
  refine ⟨max N (i + 1), fun j hj => ?_⟩
  have h1 : j ≠ i := by omega
  exact ⟨by simp [nset, h1, (hN j (by omega)).1], by rw [upd_other _ _ _ _ h1]; exact (hN j (by omega)).2⟩
 base := fun k hk => Nat.lt_of_lt_of_le (h.base k hk) (by rw [World.size_alloc]; omega)
 glob g hg := nset_le hm _ _ (h.glob g hg)
theorem Rel.put (h : Rel P B0 m H w) {i : Nat} {b0 b : ABlk} {f : BInfo} (hi : H i = some b0) (hm : m i = some f) (h0 : b0.own = true) (hsize : w.heap.size ≤ w'.heap.size)
    (hoth : ∀ k, k ≠ f.blk → k < w.heap.size → w'.heap[k]? = w.heap[k]?) (hnew : BlkRel P B0 m w' b f) : Rel P B0 m (upd H i b) w' where
 blocks j c g hj hg := by
  by_cases e : j = i
  · subst e
    simp at hj; subst hj
    rw [hm] at hg; cases hg
    exact hnew
  · rw [upd_other _ _ _ _ e] at hj
    have hc := h.blocks j c g hj hg
    refine hc.heap fun hd => hoth _ ?_ (hc.lt hd)
    cases ho : c.own with
    | true => exact h.inj j i c b0 g f e hj hi ho h0 hg hm
    | false =>
     have h1 := hc.ro_lt ho hd
     have h2 := (h.blocks i b0 f hi hm).own_ge h0
     exact fun e => h2 (e ▸ h1)
 inj j k c d g g' hjk hj hk hcj hck hgj hgk := by
  have key : ∀ x (y : ABlk), upd H i b x = some y → y.own = true → ∃ z, H x = some z ∧ z.own = true := by
   intro x y hx hy
   by_cases e : x = i
   · subst e; exact ⟨b0, hi, h0⟩
   · rw [upd_other _ _ _ _ e] at hx; exact ⟨y, hx, hy⟩
  obtain ⟨c', h1, h2⟩ := key j c hj hcj
  obtain ⟨d', h3, h4⟩ := key k d hk hck
  exact h.inj j k c' d' g g' hjk h1 h3 h2 h4 hgj hgk
 fin := by
  obtain ⟨N, hN⟩ := h.fin
  have hiN : i < N := by
   rcases Nat.lt_or_ge i N with hlt | hge
   · exact hlt
   · rw [(hN i hge).2] at hi; cases hi
  refine ⟨N, fun j hj => ⟨(hN j hj).1, ?_⟩⟩
  rw [upd_other _ _ _ _ (by omega)]
  exact (hN j hj).2
 base := fun k hk => Nat.lt_of_lt_of_le (h.base k hk) hsize
 glob := h.glob
 tot ht j hj := by
  by_cases e : j = i
  · subst e; simp at hj
  · rw [upd_other _ _ _ _ e] at hj; exact h.tot ht j hj
theorem Rel.cell (h : Rel P B0 m H w) {i o : Nat} {cs : List Value} {e : TypeId} {k : BKind} {f : BInfo} {v : Value} (hi : H i = some (.cells cs e k)) (hm : m i = some f) (hv : cs[o]? = some v) :
    ∃ v', w.cell? ⟨f.blk, f.off + o, none⟩ = some v' ∧ VRel m v v' := by
 obtain ⟨c, e', fr, hc, hcs, _⟩ := h.blocks i _ f hi hm
 obtain ⟨v', h1, h2⟩ := hcs o v hv
 exact ⟨v', by simp [World.cell?, hc, h1], h2⟩
end
end Go.Ab
namespace Go.Ab
open Go Go.RowKit
def tAgg (P : Program) (t : TypeId) : Option Bool := (P.underlying t).map fun | .struct _ | .array _ _ => true | _ => false
def tSize (P : Program) (t : TypeId) : Option Nat := (P.info? t).map (·.size)
def tZero (P : Program) (t : TypeId) : Option Value := (P.info? t).bind (·.zero)
def tSlice (P : Program) (t : TypeId) : Option TypeId := (P.underlying t).bind fun | .slice e => some e | _ => none
def tArr (P : Program) (t : TypeId) : Option (Nat × TypeId) := (P.underlying t).bind fun | .array n e => some (n, e) | _ => none
def tInt (P : Program) (t : TypeId) : Option IntKind := (P.underlying t).bind fun | .int k => some k | _ => none
def tIface (P : Program) (t : TypeId) : Option Bool := (P.underlying t).map fun | .interface _ => true | _ => false
def tStr (P : Program) (t : TypeId) : Bool := match P.underlying t with | some .string => true | _ => false
def tMap (P : Program) (t : TypeId) : Option (TypeId × TypeId) := (P.underlying t).bind fun | .map k e => some (k, e) | _ => none
def fOff (P : Program) (s : TypeId) (f : Nat) : Option (Nat × TypeId) :=
 (P.underlying s).bind fun | .struct fs => (fs[f]?).bind fun fd => if (P.info? fd.type).any (fun i => i.size != 0) then some (fd.offset, fd.type) else none | _ => none
section
variable [TT] {P : Program} {t : TypeId} (w : World)
theorem run_sizeOf_t {s : Nat} (h : tSize P t = some s) : (sizeOf t).run P w = .ok s w := by
 have _ := TT.tt
 unfold tSize at h
 cases hi : P.info? t with
 | none => rw [hi] at h; cases h
 | some i => rw [hi] at h; simp at h; simp [sizeOf, typeInfo, hi, h]
theorem run_isAgg_t {b : Bool} (h : tAgg P t = some b) : (isAgg t).run P w = .ok b w := by
 have _ := TT.tt
 unfold tAgg at h
 cases hi : P.underlying t with
 | none => rw [hi] at h; cases h
 | some d => rw [hi] at h; cases d <;> simp at h <;> subst h <;> simp [isAgg, run_underlying hi]
theorem run_zeroValue_t {v : Value} (h : tZero P t = some v) : (zeroValue t).run P w = .ok v w := by
 have _ := TT.tt
 unfold tZero at h
 cases hi : P.info? t with
 | none => rw [hi] at h; cases h
 | some i => rw [hi] at h; simp at h; simp [zeroValue, typeInfo, hi, h]
theorem tSlice_u {e : TypeId} (h : tSlice P t = some e) : P.underlying t = some (.slice e) := by
 have _ := TT.tt
 unfold tSlice at h
 cases hi : P.underlying t with
 | none => rw [hi] at h; cases h
 | some d => rw [hi] at h; cases d <;> simp at h; subst h; rfl
theorem tArr_u {n : Nat} {e : TypeId} (h : tArr P t = some (n, e)) : P.underlying t = some (.array n e) := by
 have _ := TT.tt
 unfold tArr at h
 cases hi : P.underlying t with
 | none => rw [hi] at h; cases h
 | some d => rw [hi] at h; cases d <;> simp at h; obtain ⟨rfl, rfl⟩ := h; rfl
theorem tInt_u {k : IntKind} (h : tInt P t = some k) : P.underlying t = some (.int k) := by
 have _ := TT.tt
 unfold tInt at h
 cases hi : P.underlying t with
 | none => rw [hi] at h; cases h
 | some d => rw [hi] at h; cases d <;> simp at h; subst h; rfl
theorem tMap_u {k e : TypeId} (h : tMap P t = some (k, e)) : P.underlying t = some (.map k e) := by
 have _ := TT.tt
 unfold tMap at h
 cases hi : P.underlying t with
 | none => rw [hi] at h; cases h
 | some d => rw [hi] at h; cases d <;> simp at h; obtain ⟨rfl, rfl⟩ := h; rfl
theorem tStr_u (h : tStr P t = true) : P.underlying t = some .string := by
 have _ := TT.tt
 unfold tStr at h
 split at h <;> simp_all
theorem fOff_u {s : TypeId} {f off : Nat} {ft : TypeId} (h : fOff P s f = some (off, ft)) : ∃ fs fd sz, P.underlying s = some (.struct fs) ∧ fs[f]? = some fd ∧ fd.offset = off ∧ fd.type = ft ∧ tSize P ft = some sz ∧ sz ≠ 0 := by
 have _ := TT.tt
 unfold fOff at h
 cases hi : P.underlying s with
 | none => rw [hi] at h; cases h
 | some d =>
  rw [hi] at h
  cases d with
  | struct fs =>
   simp only [Option.bind_some] at h
   cases hf : fs[f]? with
   | none => rw [hf] at h; cases h
   | some fd =>
    rw [hf] at h
    simp only [Option.bind_some] at h
    split at h
    · rename_i hs
      simp at h
      obtain ⟨rfl, rfl⟩ := h
      cases hinf : P.info? fd.type with
      | none => rw [hinf] at hs; cases hs
      | some inf =>
       rw [hinf] at hs
       exact ⟨fs, fd, inf.size, rfl, hf, rfl, rfl, by simp [tSize, hinf], by simpa using hs⟩
    · cases h
  | _ => simp at h
end
structure AAct where
 n : Nat
 f : Nat → Option Value
 defers : List Deferred
inductive DsRel (m : NMap) : List Deferred → List Deferred → Prop
 | nil : DsRel m [] []
 | fn {fn fn' : Fn} {cap cap' args args' : List Value} {ds ds' : List Deferred} (h : FnRel m fn fn') (hc : VsRel m cap cap') (ha : VsRel m args args') (hd : DsRel m ds ds') :
     DsRel m (⟨.fn fn ⟨cap⟩, ⟨args⟩⟩ :: ds) (⟨.fn fn' ⟨cap'⟩, ⟨args'⟩⟩ :: ds')
 | mark {r : Nat} {f : BInfo} {ds ds' : List Deferred} (h : m r = some f) (hd : DsRel m ds ds') : DsRel m (⟨.collected r, #[]⟩ :: ds) (⟨.collected f.blk, #[]⟩ :: ds')
theorem DsRel.mono {m m' : NMap} (h : m.le m') {ds ds' : List Deferred} (hd : DsRel m ds ds') : DsRel m' ds ds' := by
 induction hd with
 | nil => exact .nil
 | fn h1 h2 h3 _ ih => exact .fn (h1.mono h) (h2.mono h) (h3.mono h) ih
 | mark h1 _ ih => exact .mark (h _ _ h1) ih
def ARel (m : NMap) (a : AAct) (a' : Act) : Prop := TRel m ⟨a.n, a.f⟩ a'.tmps ∧ DsRel m a.defers a'.defers
theorem ARel.mono {m m' : NMap} (h : m.le m') {a : AAct} {a' : Act} (ha : ARel m a a') : ARel m' a a' := ⟨ha.1.mono h, ha.2.mono h⟩
def flat : Value → Bool
 | .agg cs => cs.toList.all atomic
 | .tuple cs => cs.toList.all atomic
 | v => atomic v
theorem VRel.of_flat {m : NMap} {v : Value} (h : flat v = true) : VRel m v v := by
 cases v with
 | agg cs => exact .agg (.atoms fun v hv => List.all_eq_true.1 h v hv) .nil
 | tuple cs => exact .tuple (.atoms fun v hv => List.all_eq_true.1 h v hv) .nil
 | _ => exact .of_atomic h
def AAct.eval (P : Program) (a : AAct) : Operand → Option Value
 | .tmp t => a.f t
 | .const v => if flat v then some v else none
 | .global g => if g < P.globals.size then some (.pointer (some ⟨g, 0, none⟩)) else none
 | .func f => some (.func (.func f) #[] #[])
def AAct.put (a : AAct) (dst : Option Tmp) (v : Value) : AAct :=
 match dst with
 | some d => { a with f := fun t => if t = d then (if d < a.n then some v else some undef) else a.f t }
 | none => a
section
variable [TT] {P : Program} {B0 : Prot} {m : NMap} {H : AHeap} {w : World} {a : AAct} {a' : Act}
theorem eval_sound (hr : Rel P B0 m H w) (ha : ARel m a a') {x : Operand} {v : Value} (h : a.eval P x = some v) : VRel m v (a'.eval x) := by
 cases x with
 | tmp t => exact ha.1.2 t v h
 | const u =>
  simp only [AAct.eval] at h
  split at h
  · rename_i hf; cases h; exact .of_flat hf
  · cases h
 | global g =>
  simp only [AAct.eval] at h
  split at h
  · rename_i hg
    cases h
    have := VsRel.ptr (m := m) (o := 0) (hr.glob g hg) .nil
    exact this
  · cases h
 | func f => cases h; exact .func (.func f) .nil .nil .nil
theorem put_sound (ha : ARel m a a') {dst : Option Tmp} {v v' : Value} (hv : VRel m v v') : ARel m (a.put dst v) (a'.put dst v') := by
 have _ := TT.tt
 cases dst with
 | none => exact ha
 | some d =>
  refine ⟨⟨by simp [Act.put, AAct.put, ha.1.1], fun t u hu => ?_⟩, ha.2⟩
  have hs := ha.1.1
  simp only [AAct.put] at hu
  by_cases e : t = d
  · subst e
    simp only [if_true] at hu
    by_cases hd : t < a.n
    · simp [hd] at hu; subst hu
      simp only at hs
      simpa [Act.put, Array.getD, hs, hd] using hv
    · simp [hd] at hu; subst hu
      simp only at hs
      simp [Act.put, Array.getD, hs, hd]
      exact .tuple .nil .nil
  · simp [e] at hu
    have := ha.1.2 t u hu
    simp only [Act.put]
    simp only [Array.getD_eq_getD_getElem?] at this ⊢
    rw [Array.getElem?_setIfInBounds_ne (Ne.symm e)]
    exact this
end
def loadV (P : Program) (t : TypeId) (H : AHeap) (i o : Nat) : Option Value :=
 match H i with
 | some (.cells cs _ _) =>
  match tAgg P t with
  | some true => (tSize P t).bind fun s => if o + s ≤ cs.length then some (.agg ⟨(cs.drop o).take s⟩) else none
  | some false => cs[o]?
  | none => none
 | _ => none
def partV (P : Program) (t : TypeId) (cs : List Value) (o : Nat) : Option Value :=
 match tAgg P t with
 | some true => (tSize P t).bind fun s => if o + s ≤ cs.length then some (.agg ⟨(cs.drop o).take s⟩) else none
 | some false => cs[o]?
 | none => none
def evs (ρ : Operand → Option Value) : List Operand → Option (List Value)
 | [] => some []
 | x :: l => (ρ x).bind fun v => (evs ρ l).map (v :: ·)
def intBin (op : BinOp) (k : IntKind) (a b : Int) : Option Value :=
 match op with
 | .add => some (.int k (k.wrap (a + b)))
 | .sub => some (.int k (k.wrap (a - b)))
 | .mul => some (.int k (k.wrap (a * b)))
 | .quo => if b = 0 then none else some (.int k (k.wrap (a.tdiv b)))
 | .rem => if b = 0 then none else some (.int k (a.tmod b))
 | .and => some (.int k (bits .and k a b))
 | .or => some (.int k (bits .or k a b))
 | .xor => some (.int k (bits .xor k a b))
 | .andNot => some (.int k (bits .andNot k a b))
 | .eql => some (.bool (a == b))
 | .neq => some (.bool (a != b))
 | .lss => some (.bool (a < b))
 | .leq => some (.bool (a ≤ b))
 | .gtr => some (.bool (a > b))
 | .geq => some (.bool (a ≥ b))
 | _ => none
def shBin (op : BinOp) (k : IntKind) (a b : Int) : Option Value :=
 match op with
 | .shl => if 0 ≤ b ∧ b ≤ k.bits then some (.int k (k.wrap (a * 2 ^ b.toNat))) else none
 | .shr => if 0 ≤ b ∧ b ≤ k.bits then some (.int k (a / 2 ^ b.toNat)) else none
 | _ => none
def nilEq (P : Program) (t : TypeId) (x c : Value) : Option Bool :=
 match P.underlying t, x, c with
 | some (.pointer _), .pointer a, .pointer none => some a.isNone
 | some (.slice _), .slice a _ _, .slice none 0 0 => some a.isNone
 | some (.map _ _), .map a, .map none => some a.isNone
 | some (.func _ _ _), .nilFunc, .nilFunc => some true
 | some (.func _ _ _), .func _ _ _, .nilFunc => some false
 | some (.interface _), .nilIface, .nilIface => some true
 | some (.interface _), .iface _ _, .nilIface => some false
 | _, _, _ => none
end Go.Ab
namespace Go.Ab
open Go Go.RowKit
def eqGo (P : Program) (F : TypeId → Option (List (Nat × Nat))) (S : Nat) : List Field → Option (List (Nat × Nat))
 | [] => some []
 | f :: fs => if f.name = "_" then none else
  (tSize P f.type).bind fun s => (F f.type).bind fun os => if os.all (·.1 < s) && decide (f.offset + s ≤ S) then (eqGo P F S fs).map (os.map (fun o => (o.1 + f.offset, o.2)) ++ ·) else none
def eqFlat (P : Program) : Nat → TypeId → Option (List (Nat × Nat))
 | 0, _ => none
 | d + 1, t =>
  match P.underlying t with
  | some (.int _) => if tSize P t = some 1 then some [(0, 0)] else none
  | some .bool => if tSize P t = some 1 then some [(0, 1)] else none
  | some .string => if tSize P t = some 1 then some [(0, 2)] else none
  | some (.struct fs) => if P.stoodInHeld t then none else (tSize P t).bind fun S => eqGo P (eqFlat P d) S fs.toList
  | some (.array n e) => (tSize P e).bind fun s => (eqFlat P d e).bind fun os => if os.all (·.1 < s) && (tSize P t).any (n * s ≤ ·) then some ((List.range n).flatMap fun i => os.map fun o => (o.1 + i * s, o.2)) else none
  | _ => none
def eqCell : Nat → Value → Value → Option Bool
 | 0, .int k a, .int k' b => if k = k' then some (a == b) else none
 | 1, .bool a, .bool b => some (a == b)
 | 2, .string a, .string b => some (a == b)
 | _, _, _ => none
def eqAt (xs ys : List Value) : List (Nat × Nat) → Option Bool
 | [] => some true
 | o :: os => (xs[o.1]?).bind fun x => (ys[o.1]?).bind fun y => (eqCell o.2 x y).bind fun b => (eqAt xs ys os).map fun c => b && c
def isAggV : Value → Bool
 | .agg _ => true
 | _ => false
def cellsOf (P : Program) (t : TypeId) (u : Value) : List Value := if tAgg P t = some true then u.cells.toList else [u]
theorem option_bind_some {α β : Type} {o : Option α} {f : α → Option β} {b : β} (h : o.bind f = some b) : ∃ a, o = some a ∧ f a = some b := by
 cases o with
 | none => cases h
 | some a => exact ⟨a, rfl, h⟩
section
variable [TT] {P : Program} {w : World}
theorem eqAt_append {xs ys : List Value} {a b : List (Nat × Nat)} {r : Bool} (h : eqAt xs ys (a ++ b) = some r) : ∃ p q, eqAt xs ys a = some p ∧ eqAt xs ys b = some q ∧ r = (p && q) := by
 have _ := TT.tt
 induction a generalizing r with
 | nil => exact ⟨true, r, rfl, h, by simp⟩
 | cons o a ih =>
  simp only [List.cons_append, eqAt] at h ⊢
  obtain ⟨x, hx, h1⟩ := option_bind_some h
  obtain ⟨y, hy, h2⟩ := option_bind_some h1
  obtain ⟨c, hc, h3⟩ := option_bind_some h2
  cases h4 : eqAt xs ys (a ++ b) with
  | none => rw [h4] at h3; cases h3
  | some r' =>
   rw [h4] at h3
   cases h3
   obtain ⟨p, q, h5, h6, rfl⟩ := ih h4
   exact ⟨c && p, q, by simp [hx, hy, hc, h5], h6, by simp [Bool.and_assoc]⟩
theorem eqAt_shift {xs ys us vs : List Value} {off s : Nat} {os : List (Nat × Nat)} {r : Bool} (hs : ∀ o ∈ os, o.1 < s) (hu : ∀ j v, j < s → xs[off + j]? = some v → us[j]? = some v) (hv : ∀ j v, j < s → ys[off + j]? = some v → vs[j]? = some v) (h : eqAt xs ys (os.map fun o => (o.1 + off, o.2)) = some r) : eqAt us vs os = some r := by
 have _ := TT.tt
 induction os generalizing r with
 | nil => exact h
 | cons o os ih =>
  simp only [List.map_cons, eqAt] at h ⊢
  obtain ⟨x, hx, h1⟩ := option_bind_some h
  obtain ⟨y, hy, h2⟩ := option_bind_some h1
  obtain ⟨c, hc, h3⟩ := option_bind_some h2
  cases h4 : eqAt xs ys (os.map fun o => (o.1 + off, o.2)) with
  | none => rw [h4] at h3; cases h3
  | some r' =>
   rw [h4] at h3
   cases h3
   have ho := hs o (by simp)
   rw [hu o.1 x ho (by rw [Nat.add_comm]; exact hx), hv o.1 y ho (by rw [Nat.add_comm]; exact hy)]
   simp [hc, ih (fun o h => hs o (by simp [h])) h4]
theorem partV_cells {t : TypeId} {xs : List Value} {off s : Nat} {u : Value} (hs : tSize P t = some s) (h : partV P t xs off = some u) (j : Nat) (v : Value) (hj : j < s) (hv : xs[off + j]? = some v) (hk : tAgg P t = some true ∨ j = 0) : (cellsOf P t u)[j]? = some v := by
 have _ := TT.tt
 unfold partV at h
 split at h
 · rename_i ha
   rw [hs] at h
   simp only [Option.bind_some] at h
   split at h
   · cases h
     rw [cellsOf, if_pos ha]
     show ((xs.drop off).take s)[j]? = some v
     rw [List.getElem?_take_of_lt hj, List.getElem?_drop]
     exact hv
   · cases h
 · rename_i ha
   rcases hk with hk | hk
   · rw [ha] at hk; cases hk
   · subst hk
     rw [Nat.add_zero] at hv
     rw [hv] at h
     cases h
     rw [cellsOf, if_neg (by rw [ha]; simp)]
     rfl
 · cases h
theorem partV_agg {t : TypeId} {xs : List Value} {off : Nat} {u : Value} (h : partV P t xs off = some u) (ha : tAgg P t = some true) : ∃ cs, u = .agg cs := by
 have _ := TT.tt
 unfold partV at h
 rw [ha] at h
 simp only at h
 obtain ⟨s, _, h⟩ := option_bind_some h
 split at h
 · cases h; exact ⟨_, rfl⟩
 · cases h
theorem partV_run {t : TypeId} {xs : List Value} {off : Nat} {u : Value} (h : partV P t xs off = some u) : (part t ⟨xs⟩ off).run P w = .ok u w := by
 unfold partV at h
 split at h
 · rename_i hag
   obtain ⟨s, hs, h⟩ := option_bind_some h
   split at h
   · cases h
     simp [part, run_isAgg_t w hag, run_sizeOf_t w hs, List.take_drop]
   · cases h
 · rename_i hag
   simp [part, run_isAgg_t w hag, h]
 · cases h
theorem eqFlat_one {d : Nat} {t : TypeId} {os : List (Nat × Nat)} (h : eqFlat P d t = some os) : tAgg P t = some true ∨ (tAgg P t = some false ∧ tSize P t = some 1 ∧ ∃ c, os = [(0, c)]) := by
 have _ := TT.tt
 cases d with
 | zero => simp [eqFlat] at h
 | succ d =>
  simp only [eqFlat] at h
  split at h
  · rename_i e
    split at h
    · rename_i h1; cases h; exact .inr ⟨by simp [tAgg, e], h1, _, rfl⟩
    · cases h
  · rename_i e
    split at h
    · rename_i h1; cases h; exact .inr ⟨by simp [tAgg, e], h1, _, rfl⟩
    · cases h
  · rename_i e
    split at h
    · rename_i h1; cases h; exact .inr ⟨by simp [tAgg, e], h1, _, rfl⟩
    · cases h
  · rename_i e; exact .inl (by simp [tAgg, e])
  · rename_i e; exact .inl (by simp [tAgg, e])
  · cases h
theorem part_of_eqAt {d : Nat} {t : TypeId} {s off : Nat} {os : List (Nat × Nat)} {xs ys : List Value} {r : Bool} (hf : eqFlat P d t = some os) (hs : tSize P t = some s) (hos : os.all (·.1 < s) = true) {u v : Value} (hu : partV P t xs off = some u) (hv : partV P t ys off = some v)
    (h : eqAt xs ys (os.map fun o => (o.1 + off, o.2)) = some r) : eqAt (cellsOf P t u) (cellsOf P t v) os = some r := by
 have hlt : ∀ o ∈ os, o.1 < s := fun o ho => by simpa using List.all_eq_true.1 hos o ho
 rcases eqFlat_one hf with ha | ⟨ha, h11, c, rfl⟩
 · exact eqAt_shift hlt (fun j w hj hw => partV_cells hs hu j w hj hw (.inl ha)) (fun j w hj hw => partV_cells hs hv j w hj hw (.inl ha)) h
 · have h1 : (0 : Nat) < 1 := by omega
   have hs1 := hlt (0, c) (by simp)
   exact eqAt_shift (s := 1) (fun o ho => by simp at ho; subst ho; exact h1) (fun j w hj hw => partV_cells hs hu j w (by omega) hw (.inr (by omega))) (fun j w hj hw => partV_cells hs hv j w (by omega) hw (.inr (by omega))) h
theorem partV_some {d : Nat} {t : TypeId} {s off : Nat} {os : List (Nat × Nat)} {xs : List Value} (hf : eqFlat P d t = some os) (hs : tSize P t = some s) (hos : os.all (·.1 < s) = true) (hl : off + s ≤ xs.length) : ∃ u, partV P t xs off = some u := by
 rcases eqFlat_one hf with ha | ⟨ha, h11, c, rfl⟩
 · exact ⟨.agg ⟨(xs.drop off).take s⟩, by simp only [partV, ha, hs, Option.bind_some, if_pos hl]⟩
 · have hs1 : 0 < s := by simpa using hos
   have : off < xs.length := by omega
   exact ⟨xs[off], by simp [partV, ha, this]⟩
theorem eqCell_0 {u v : Value} {r : Bool} (h : eqCell 0 u v = some r) : ∃ k a b, u = .int k a ∧ v = .int k b ∧ r = (a == b) := by
 have _ := TT.tt
 unfold eqCell at h
 split at h <;> first | omega | skip
 · split at h
   · rename_i e; subst e; cases h; exact ⟨_, _, _, rfl, rfl, rfl⟩
   · cases h
 · cases h
theorem eqCell_1 {u v : Value} {r : Bool} (h : eqCell 1 u v = some r) : ∃ a b, u = .bool a ∧ v = .bool b ∧ r = (a == b) := by
 have _ := TT.tt
 unfold eqCell at h
 split at h <;> first | omega | skip
 · cases h; exact ⟨_, _, rfl, rfl, rfl⟩
 · cases h
theorem eqCell_2 {u v : Value} {r : Bool} (h : eqCell 2 u v = some r) : ∃ a b, u = .string a ∧ v = .string b ∧ r = (a == b) := by
 have _ := TT.tt
 unfold eqCell at h
 split at h <;> first | omega | skip
 · cases h; exact ⟨_, _, rfl, rfl, rfl⟩
 · cases h
theorem run_equalIn_flat (d : Nat) : ∀ {t : TypeId} {os : List (Nat × Nat)} {n : Nat} {u v : Value} {r : Bool}, eqFlat P d t = some os → tSize P t = some n → (cellsOf P t u).length = n → (cellsOf P t v).length = n → (tAgg P t = some true → (∃ cs, u = .agg cs) ∧ ∃ cs, v = .agg cs) →
    eqAt (cellsOf P t u) (cellsOf P t v) os = some r → ∀ k, (Op.equalIn (d + k) t u v).run P w = .ok r w := by
 induction d with
 | zero => intro t os n u v r hf; simp [eqFlat] at hf
 | succ d ih =>
  intro t os n u v r hf hn hu hv hag h k
  have hdk : d + 1 + k = (d + k) + 1 := by omega
  rw [hdk]
  simp only [eqFlat] at hf
  have scalar : ∀ c, tAgg P t = some false → os = [(0, c)] → eqCell c u v = some r := by
   intro c ha ho
   subst ho
   rw [cellsOf, cellsOf, if_neg (by rw [ha]; simp), if_neg (by rw [ha]; simp)] at h
   simp only [eqAt, List.getElem?_cons_zero, Option.bind_some, Option.map_some] at h
   obtain ⟨b, hb, h⟩ := option_bind_some h
   simp at h
   subst h
   exact hb
  split at hf
  · rename_i k' e
    split at hf
    · cases hf
      obtain ⟨k1, a, b, rfl, rfl, rfl⟩ := eqCell_0 (scalar 0 (by simp [tAgg, e]) rfl)
      exact run_equalIn_int w _ t k1 k' _ _ e
    · cases hf
  · rename_i e
    split at hf
    · cases hf
      obtain ⟨a, b, rfl, rfl, rfl⟩ := eqCell_1 (scalar 1 (by simp [tAgg, e]) rfl)
      exact run_equalIn_bool w _ t _ _ e
    · cases hf
  · rename_i e
    split at hf
    · cases hf
      obtain ⟨a, b, rfl, rfl, rfl⟩ := eqCell_2 (scalar 2 (by simp [tAgg, e]) rfl)
      simp [Op.equalIn, run_underlying e]
    · cases hf
  · rename_i fs e
    have ha : tAgg P t = some true := by simp [tAgg, e]
    obtain ⟨⟨⟨xs⟩, rfl⟩, ⟨ys⟩, rfl⟩ := hag ha
    rw [cellsOf, if_pos ha] at hu hv
    rw [cellsOf, cellsOf, if_pos ha, if_pos ha] at h
    simp only [Value.cells] at hu hv h
    split at hf
    · cases hf
    · rename_i hst
      rw [hn] at hf
      simp only [Option.bind_some] at hf
      have hfo : P.fieldsOf t = fs := by simp [Program.fieldsOf, e]
      rw [run_equalIn_struct w _ t ⟨xs⟩ ⟨ys⟩ (by rw [hfo]; exact e) (by simpa using hst), hfo]
      have key : ∀ (l : List Field) os r, eqGo P (eqFlat P d) n l = some os → eqAt xs ys os = some r → (Op.eqFields (d + k) ⟨xs⟩ ⟨ys⟩ l).run P w = .ok r w := by
       intro l
       induction l with
       | nil =>
        intro os r hg h
        simp only [eqGo] at hg
        cases hg
        cases h
        simp [Op.eqFields]
       | cons f l ihl =>
        intro os r hg h
        simp only [eqGo] at hg
        split at hg
        · cases hg
        · rename_i hne
          obtain ⟨s, hs, hg1⟩ := option_bind_some hg
          obtain ⟨os1, ho1, hg2⟩ := option_bind_some hg1
          split at hg2
          · rename_i hck
            simp only [Bool.and_eq_true, decide_eq_true_eq] at hck
            cases hg3 : eqGo P (eqFlat P d) n l with
            | none => rw [hg3] at hg2; cases hg2
            | some os2 =>
             rw [hg3] at hg2
             cases hg2
             obtain ⟨p, q, h1, h2, rfl⟩ := eqAt_append h
             obtain ⟨u1, hu1⟩ := partV_some (xs := xs) ho1 hs hck.1 (off := f.offset) (by rw [hu]; exact hck.2)
             obtain ⟨v1, hv1⟩ := partV_some (xs := ys) ho1 hs hck.1 (off := f.offset) (by rw [hv]; exact hck.2)
             have he := part_of_eqAt ho1 hs hck.1 hu1 hv1 h1
             have hsz : ∀ {zs : List Value} {z : Value}, zs.length = n → partV P f.type zs f.offset = some z → (cellsOf P f.type z).length = s := by
              intro zs z hz hp
              rcases eqFlat_one ho1 with ha1 | ⟨ha1, h11, c, rfl⟩
              · unfold partV at hp
                rw [ha1] at hp
                simp only [hs, Option.bind_some] at hp
                split at hp
                · cases hp
                  rw [cellsOf, if_pos ha1]
                  simp [Value.cells]
                  omega
                · cases hp
              · rw [hs] at h11; cases h11
                rw [cellsOf, if_neg (by rw [ha1]; simp)]
                rfl
             have hrun := ih ho1 hs (hsz hu hu1) (hsz hv hv1) (fun ha1 => ⟨partV_agg hu1 ha1, partV_agg hv1 ha1⟩) he k
             simp only [Op.eqFields, hne, ne_eq, not_false_eq_true, if_true, Sem.run_bind, partV_run hu1, partV_run hv1, Result.andThen_ok, hrun]
             cases p with
             | true => simpa using ihl os2 q hg3 h2
             | false => simp
          · cases hg2
      exact key _ _ _ hf h
  · rename_i ne el e
    have ha : tAgg P t = some true := by simp [tAgg, e]
    obtain ⟨⟨⟨xs⟩, rfl⟩, ⟨ys⟩, rfl⟩ := hag ha
    rw [cellsOf, if_pos ha] at hu hv
    rw [cellsOf, cellsOf, if_pos ha, if_pos ha] at h
    simp only [Value.cells] at hu hv h
    obtain ⟨s, hs, hf1⟩ := option_bind_some hf
    obtain ⟨os1, ho1, hf2⟩ := option_bind_some hf1
    split at hf2
    · rename_i hck
      cases hf2
      simp only [Bool.and_eq_true, hn, Option.any_some, decide_eq_true_eq] at hck
      simp only [Op.equalIn, Sem.run_bind, run_underlying e, Result.andThen_ok, run_sizeOf_t w hs, Std.Legacy.Range.forIn_eq_forIn_range', Std.Legacy.Range.size, Nat.sub_zero, Nat.add_sub_cancel, Nat.div_one]
      rw [List.range_eq_range'] at h
      have hsz : ∀ {zs : List Value} {z : Value} {off : Nat}, off + s ≤ zs.length → partV P el zs off = some z → (cellsOf P el z).length = s := by
       intro zs z off hz hp
       rcases eqFlat_one ho1 with ha1 | ⟨ha1, h11, c, rfl⟩
       · unfold partV at hp
         rw [ha1] at hp
         simp only [hs, Option.bind_some, if_pos hz] at hp
         cases hp
         rw [cellsOf, if_pos ha1]
         simp [Value.cells]
         omega
       · rw [hs] at h11; cases h11
         rw [cellsOf, if_neg (by rw [ha1]; simp)]
         rfl
      have key : ∀ m b r, (b + m) * s ≤ n → eqAt xs ys ((List.range' b m).flatMap fun i => os1.map fun o => (o.1 + i * s, o.2)) = some r →
          (forIn (List.range' b m) ((none : Option Bool), ()) (fun i _ => do
           if !(← Op.equalIn (d + k) el (← part el ⟨xs⟩ (i * s)) (← part el ⟨ys⟩ (i * s))) then pure (ForInStep.done (some false, ())) else pure (ForInStep.yield (none, ()))) : Sem (Option Bool × Unit)).run P w = .ok (if r then (none, ()) else (some false, ())) w := by
       intro m
       induction m with
       | zero =>
        intro b r _ h
        cases h
        rfl
       | succ m ihm =>
        intro b r hb h
        rw [List.range'_succ, List.flatMap_cons] at h
        obtain ⟨p, q, h1, h2, rfl⟩ := eqAt_append h
        have hbs : b * s + s ≤ n := by
         have : (b + 1) * s ≤ (b + (m + 1)) * s := Nat.mul_le_mul_right _ (by omega)
         rw [Nat.add_mul, Nat.one_mul] at this
         omega
        obtain ⟨u1, hu1⟩ := partV_some (xs := xs) ho1 hs hck.1 (off := b * s) (by rw [hu]; exact hbs)
        obtain ⟨v1, hv1⟩ := partV_some (xs := ys) ho1 hs hck.1 (off := b * s) (by rw [hv]; exact hbs)
        have he := part_of_eqAt ho1 hs hck.1 hu1 hv1 h1
        have hrun := ih ho1 hs (hsz (by rw [hu]; exact hbs) hu1) (hsz (by rw [hv]; exact hbs) hv1) (fun ha1 => ⟨partV_agg hu1 ha1, partV_agg hv1 ha1⟩) he k
        rw [List.range'_succ, List.forIn_cons]
        simp only [Sem.run_bind, partV_run hu1, partV_run hv1, Result.andThen_ok, hrun]
        cases p with
        | true =>
         simp only [Bool.not_true, Bool.false_eq_true, if_false, Sem.run_pure, Result.andThen_ok, Bool.true_and]
         exact ihm (b + 1) q (by rw [show b + 1 + m = b + (m + 1) by omega]; exact hb) h2
        | false => simp
      have hk := key ne 0 r (by rw [Nat.zero_add]; exact hck.2) h
      rw [hk]
      cases r <;> rfl
    · cases hf2
  · cases hf
def aEq (P : Program) (t : TypeId) (u v : Value) : Option Bool :=
 (eqFlat P 50 t).bind fun os => (tSize P t).bind fun n => (tAgg P t).bind fun g =>
  if flat u = true ∧ flat v = true ∧ (cellsOf P t u).length = n ∧ (cellsOf P t v).length = n ∧ (g = true → isAggV u = true ∧ isAggV v = true) ∧ P.eqGuardType P.depth t = false then eqAt (cellsOf P t u) (cellsOf P t v) os else none
theorem atoms_eq {m : NMap} {l l' : List Value} (ha : ∀ v ∈ l, atomic v = true) (h : VsRel m l l') : l' = l := by
 have _ := TT.tt
 induction l generalizing l' with
 | nil => exact h.nil_left
 | cons x l ih =>
  obtain ⟨v', l2, rfl, hv, hl⟩ := h.uncons
  rw [hv.eq_of_atomic (ha x (by simp)), ih (fun v hv => ha v (by simp [hv])) hl]
theorem flat_eq {m : NMap} {u u' : Value} (hf : flat u = true) (h : VRel m u u') : u' = u := by
 cases u with
 | agg cs =>
  obtain ⟨cs⟩ := cs
  have ha : ∀ v ∈ cs, atomic v = true := fun v hv => List.all_eq_true.1 hf v hv
  cases h with
  | atom h _ => simp [atomic] at h
  | agg h _ => rw [atoms_eq ha h]
 | tuple cs =>
  obtain ⟨cs⟩ := cs
  have ha : ∀ v ∈ cs, atomic v = true := fun v hv => List.all_eq_true.1 hf v hv
  cases h with
  | atom h _ => rfl
  | tuple h _ => rw [atoms_eq ha h]
 | _ => exact h.eq_of_atomic hf
theorem aEq_run {m : NMap} {t : TypeId} {u v u' v' : Value} {b : Bool} (hu : VRel m u u') (hv : VRel m v v') (h : aEq P t u v = some b) : (Op.equal t u' v').run P w = .ok b w := by
 unfold aEq at h
 obtain ⟨os, ho, h1⟩ := option_bind_some h
 obtain ⟨n, hn, h2⟩ := option_bind_some h1
 obtain ⟨g, hg, h3⟩ := option_bind_some h2
 split at h3
 · rename_i hc
   obtain ⟨c1, c2, c3, c4, c5, c6⟩ := hc
   rw [flat_eq c1 hu, flat_eq c2 hv]
   refine run_equalIn_flat 50 ho hn c3 c4 (fun ha => ?_) h3 9950
   rw [hg] at ha
   cases ha
   obtain ⟨h5, h6⟩ := c5 rfl
   constructor
   · cases u <;> simp [isAggV] at h5; exact ⟨_, rfl⟩
   · cases v <;> simp [isAggV] at h6; exact ⟨_, rfl⟩
 · cases h3
theorem eqCell_kinds {c : Nat} {u v : Value} {r : Bool} (h : eqCell c u v = some r) : (∃ k a b, u = .int k a ∧ v = .int k b ∧ r = (a == b)) ∨ (∃ a b, u = .bool a ∧ v = .bool b ∧ r = (a == b)) ∨ ∃ a b, u = .string a ∧ v = .string b ∧ r = (a == b) := by
 match c, h with
 | 0, h => exact .inl (eqCell_0 h)
 | 1, h => exact .inr (.inl (eqCell_1 h))
 | 2, h => exact .inr (.inr (eqCell_2 h))
 | c + 3, h => simp [eqCell] at h
theorem aEq_kinds {t : TypeId} {u v : Value} {b : Bool} (h : aEq P t u v = some b) : ((∃ cs, u = .agg cs) ∧ (∃ cs, v = .agg cs) ∧ P.eqGuardType P.depth t = false) ∨ (∃ k x y, u = .int k x ∧ v = .int k y) ∨ (∃ x y, u = .bool x ∧ v = .bool y) ∨ ∃ x y, u = .string x ∧ v = .string y ∧ b = (x == y) := by
 unfold aEq at h
 obtain ⟨os, ho, h1⟩ := option_bind_some h
 obtain ⟨n, hn, h2⟩ := option_bind_some h1
 obtain ⟨g, hg, h3⟩ := option_bind_some h2
 split at h3
 · rename_i hc
   obtain ⟨c1, c2, c3, c4, c5, c6⟩ := hc
   rcases eqFlat_one ho with ha | ⟨ha, h11, c, rfl⟩
   · rw [hg] at ha
     cases ha
     obtain ⟨h5, h6⟩ := c5 rfl
     refine .inl ⟨?_, ?_, c6⟩
     · cases u <;> simp [isAggV] at h5; exact ⟨_, rfl⟩
     · cases v <;> simp [isAggV] at h6; exact ⟨_, rfl⟩
   · right
     rw [cellsOf, cellsOf, if_neg (by rw [ha]; simp), if_neg (by rw [ha]; simp)] at h3
     simp only [eqAt, List.getElem?_cons_zero, Option.bind_some, Option.map_some] at h3
     obtain ⟨r, hr, h4⟩ := option_bind_some h3
     simp at h4
     subst h4
     rcases eqCell_kinds hr with ⟨k, x, y, h1, h2, _⟩ | ⟨x, y, h1, h2, _⟩ | ⟨x, y, h1, h2, h5⟩
     · exact .inl ⟨k, x, y, h1, h2⟩
     · exact .inr (.inl ⟨x, y, h1, h2⟩)
     · exact .inr (.inr ⟨x, y, h1, h2, h5⟩)
 · cases h3
theorem aEq_sound {m : NMap} {t : TypeId} {u v u' v' : Value} {b : Bool} {p q : Operand} (hu : VRel m u u') (hv : VRel m v v') (h : aEq P t u v = some b) (hni : ∀ k x, u ≠ .int k x) :
    (do eqGuard .eql t p q u' v'; binOp .eql t u' v' : Sem Value).run P w = .ok (.bool b) w ∧ (do eqGuard .neq t p q u' v'; binOp .neq t u' v' : Sem Value).run P w = .ok (.bool (!b)) w := by
 have hrun := aEq_run (w := w) hu hv h
 have hfu : u' = u ∧ v' = v := by
  unfold aEq at h
  obtain ⟨os, ho, h1⟩ := option_bind_some h
  obtain ⟨n, hn, h2⟩ := option_bind_some h1
  obtain ⟨g, hg, h3⟩ := option_bind_some h2
  split at h3
  · rename_i hc; exact ⟨flat_eq hc.1 hu, flat_eq hc.2.1 hv⟩
  · cases h3
 obtain ⟨rfl, rfl⟩ := hfu
 rcases aEq_kinds h with ⟨⟨cs, rfl⟩, ⟨cs', rfl⟩, hgt⟩ | ⟨k, x, y, rfl, rfl⟩ | ⟨x, y, rfl, rfl⟩ | ⟨x, y, rfl, rfl, rfl⟩
 · constructor <;> simp [run_eqGuard_agg w _ t p q cs cs' hgt, binOp, hrun]
 · exact absurd rfl (hni k x)
 · constructor <;> simp [eqGuard, binOp, hrun]
 · constructor <;> simp [eqGuard, binOp, Op.stringOp, beq_toListBytes]
end
end Go.Ab
namespace Go.Ab
open Go Go.RowKit
def sliceV (P : Program) (t : TypeId) (x : Value) (lo hi : Option Value) : Option Value :=
 match x with
 | .slice ad n c =>
  (tSlice P t).bind fun e => (tSize P e).bind fun s =>
   match (match hi with | none => some (n : Int) | some (.int _ h) => some h | _ => none), (match lo with | none => some (0 : Int) | some (.int _ l) => some l | _ => none) with
   | some h, some l =>
    if 0 ≤ l ∧ l ≤ h ∧ h ≤ c then
     match ad with
     | some ⟨i, o, none⟩ => some (.slice (some ⟨i, o + l.toNat * s, none⟩) (h.toNat - l.toNat) (c - l.toNat))
     | none => if c = 0 then some (.slice none 0 0) else none
     | _ => none
    else none
   | _, _ => none
 | _ => none
def bndV (d : Int) : Option Value → Option Int
 | none => some d
 | some (.int _ h) => some h
 | _ => none
def tArrAt (P : Program) (t : TypeId) : Option (Nat × TypeId) := (P.underlying t).bind fun | .array n e => some (n, e) | .pointer a => tArr P a | _ => none
def sliceMax (P : Program) (t : TypeId) (x : Value) (lo : Option Value) (hi mx : Value) : Option Value :=
 match x, hi, mx with
 | .slice (some ⟨i, o, none⟩) _ c, .int _ h, .int _ q =>
  (tSlice P t).bind fun e => (tSize P e).bind fun s => (bndV 0 lo).bind fun l =>
   if 0 ≤ l ∧ l ≤ h ∧ h ≤ q ∧ q ≤ c then some (.slice (some ⟨i, o + l.toNat * s, some 0⟩) (h.toNat - l.toNat) (q.toNat - l.toNat)) else none
 | _, _, _ => none
def slicePart (P : Program) (H : AHeap) (t : TypeId) (x : Value) (lo hi : Option Value) : Option Value :=
 match x with
 | .pointer (some ⟨i, o, none⟩) =>
  match H i with
  | some (.cells _ _ .var) => (tArrAt P t).bind fun ne => (tSize P ne.2).bind fun s => (bndV ne.1 hi).bind fun h => (bndV 0 lo).bind fun l =>
      if 0 ≤ l ∧ l ≤ h ∧ h ≤ ne.1 then some (.slice (some ⟨i, o + l.toNat * s, none⟩) (h.toNat - l.toNat) (ne.1 - l.toNat)) else none
  | _ => none
 | .string s => if tStr P t then (bndV s.size hi).bind fun h => (bndV 0 lo).bind fun l => if 0 ≤ l ∧ l ≤ h ∧ h ≤ s.size then some (.string (s.extract l.toNat h.toNat)) else none else none
 | x => sliceV P t x lo hi
def oev (ρ : Operand → Option Value) : Option Operand → Option (Option Value)
 | none => some none
 | some x => (ρ x).map some
def fillV (place : Nat → Option (Nat × Nat)) (cells : List Value) : List (Nat × Value) → Option (List Value)
 | [] => some cells
 | (i, v) :: rest =>
  match place i with
  | none => none
  | some (off, size) => if v.cells.size = size ∧ off + size ≤ cells.length then fillV place (cells.take off ++ v.cells.toList ++ cells.drop (off + size)) rest else none
def evps (ρ : Operand → Option Value) : List (Nat × Operand) → Option (List (Nat × Value))
 | [] => some []
 | (i, x) :: l => (ρ x).bind fun v => (evps ρ l).map ((i, v) :: ·)
def eqOp (op : BinOp) (b : Bool) : Option Value := match op with | .eql => some (.bool b) | .neq => some (.bool (!b)) | _ => none
def binV (P : Program) (op : BinOp) (t : TypeId) (u v : Value) (y : Operand) : Option Value :=
 match aEq P t u v with
 | some b => eqOp op b
 | none => match y with
  | .const _ => (nilEq P t u v).bind fun b => eqOp op b
  | _ => none
def ckV (P : Program) : Nat → TypeId → Value → Bool
 | 0, _, _ => false
 | d + 1, t, v =>
  match P.underlying t, v with
  | some (.struct fs), .agg ⟨cs⟩ => fs.toList.all fun f => (match partV P f.type cs f.offset with | some u => ckV P d f.type u | none => false)
  | some (.array n e), .agg ⟨cs⟩ => (match tSize P e with | some s => ((List.range n).all fun i => (match partV P e cs (i * s) with | some u => ckV P d e u | none => false)) | none => false)
  | some (.int _), .int _ _ => true
  | some .bool, .bool _ => true
  | some .string, .string _ => true
  | _, _ => false
def findA (P : Program) (kt : TypeId) (k : Value) : List (Value × Value) → Nat → Option (Option (Nat × Value))
 | [], _ => some none
 | e :: es, i => (aEq P kt k e.1).bind fun b => bif b then some (some (i, e.2)) else findA P kt k es (i + 1)
def lookR (z : Value) (ok : Bool) (r : Option (Nat × Value)) : Value :=
 match r with
 | some (_, v) => if ok then .tuple #[v, .bool true] else v
 | none => if ok then .tuple #[z, .bool false] else z
def lookupV (P : Program) (H : AHeap) (t : TypeId) (u k : Value) (ok : Bool) : Option Value :=
 (tMap P t).bind fun ke => (tZero P ke.2).bind fun z =>
  if ckV P 20 ke.1 k = true ∧ flat z = true ∧ (P.underlying ke.1).isSome = true then
   match u with
   | .map none => some (lookR z ok none)
   | .map (some i) =>
    match H i with
    | some (.map es) => (findA P ke.1 k es 0).bind fun r => some (lookR z ok r)
    | _ => none
   | _ => none
  else none
def mapSet (P : Program) (H : AHeap) (t : TypeId) (u k v : Value) : Option (Nat × ABlk) :=
 (tMap P t).bind fun ke =>
  if ckV P 20 ke.1 k = true ∧ (P.underlying ke.1).isSome = true then
   match u with
   | .map (some i) =>
    match H i with
    | some (.map es) => (findA P ke.1 k es 0).bind fun r =>
        match r with
        | none => some (i, .map (es ++ [(k, v)]))
        | some (j, _) => match es[j]? with
         | some e => if (flat e.1 = true ∧ flat k = true) ∧ Instr.sameBits 10000 e.1 k = true then some (i, .map (es.set j (k, v))) else none
         | none => none
    | _ => none
   | _ => none
  else none
def aPure (P : Program) (ρ : Operand → Option Value) (H : AHeap) : Op → Option Value
 | .move x | .assign x => ρ x
 | .pick c x y =>
  match ρ c with
  | some (.bool b) =>
   match ρ x, ρ y with
   | some (.bool p), some (.bool q) => some (.bool (bif b then p else q))
   | u, v => if b then u else v
  | _ => none
 | .load t x => match ρ x with | some (.pointer (some ⟨i, o, none⟩)) => loadV P t H i o | _ => none
 | .nilCheck x => match ρ x with | some (.pointer (some ad)) => some (.pointer (some ad)) | some (.func (.func f) u c) => some (.func (.func f) u c) | _ => none
 | .binOp op t x y _ =>
  match ρ x, ρ y with
  | some (.int k a), some (.int k' b) => (match op with | .shl | .shr => shBin op k a b | _ => if k = k' then intBin op k a b else none)
  | some u, some v => binV P op t u v y
  | _, _ => none
 | .unOp op _ x => match op, ρ x with | .not, some (.bool b) => some (.bool !b) | .neg, some (.int k n) => some (.int k (k.wrap (0 - n))) | _, _ => none
 | .convert src dst x => match P.underlying src, tInt P dst, ρ x with | some _, some k, some (.int _ n) => some (.int k (k.wrap n)) | _, _, _ => none
 | .makeInterface t x => if tIface P t = some false then (ρ x).map (.iface t) else none
 | .makeFunc fn first cap => match fn with | .yield _ => none | fn => (evs ρ first.toList).bind fun u => (evs ρ cap.toList).map fun c => .func fn ⟨u⟩ ⟨c⟩
 | .fieldAddr s x f => match fOff P s f, ρ x with | some (off, _), some (.pointer (some ⟨i, o, none⟩)) => some (.pointer (some ⟨i, o + off, none⟩)) | _, _ => none
 | .field t x f => match fOff P t f, ρ x with | some (off, ft), some (.agg ⟨cs⟩) => partV P ft cs off | _, _ => none
 | .indexAddr t x ix =>
  match ρ x, ρ ix with
  | some (.slice (some ⟨i, o, none⟩) n _), some (.int _ j) => (tSlice P t).bind fun e => (tSize P e).bind fun s => if 0 ≤ j ∧ j < n then some (.pointer (some ⟨i, o + j.toNat * s, none⟩)) else none
  | some (.pointer (some ⟨i, o, none⟩)), some (.int _ j) => (tArr P t).bind fun ne => (tSize P ne.2).bind fun s => if 0 ≤ j ∧ j < ne.1 then some (.pointer (some ⟨i, o + j.toNat * s, none⟩)) else none
  | _, _ => none
 | .index t x ix =>
  match ρ x, ρ ix with
  | some (.agg ⟨cs⟩), some (.int _ j) => (tArr P t).bind fun ne => (tSize P ne.2).bind fun s => if 0 ≤ j ∧ j < ne.1 then partV P ne.2 cs (j.toNat * s) else none
  | some (.string s), some (.int _ j) => if tStr P t ∧ 0 ≤ j then (s[j.toNat]?).map fun b => .int .u8 b.toNat else none
  | _, _ => none
 | .lookup t x k ok => (ρ x).bind fun u => (ρ k).bind fun y => lookupV P H t u y ok
 | .extract x ix => match ρ x with | some (.tuple ⟨vs⟩) => vs[ix]? | _ => none
 | .typeAssert x _ asserted ok =>
  match ρ x, tIface P asserted with
  | some (.iface t v), some false =>
   if t = asserted then some (if ok then .tuple #[v, .bool true] else v)
   else if ok then (tZero P asserted).bind fun z => if flat z then some (.tuple #[z, .bool false]) else none else none
  | some .nilIface, some _ => if ok then (tZero P asserted).bind fun z => if flat z then some (.tuple #[z, .bool false]) else none else none
  | _, _ => none
 | .slice t x lo hi none => (ρ x).bind fun u => (oev ρ lo).bind fun l => (oev ρ hi).bind fun h => slicePart P H t u l h
 | .slice t x lo (some hi) (some mx) => (ρ x).bind fun u => (oev ρ lo).bind fun l => (ρ hi).bind fun h => (ρ mx).bind fun q => sliceMax P t u l h q
 | .build t parts => (tZero P t).bind fun z => (evps ρ parts.toList).bind fun ps =>
     if flat z then
      match P.underlying t with
      | some (.struct fields) => (fillV (fun i => (fields[i]?).bind fun f => (tSize P f.type).map fun s => (f.offset, s)) z.cells.toList ps).bind fun cs => if fields.all (fun f => (tSize P f.type).isSome) then some (.agg ⟨cs⟩) else none
      | some (.array _ e) => (tSize P e).bind fun s => (fillV (fun i => some (i * s, s)) z.cells.toList ps).map fun cs => .agg ⟨cs⟩
      | _ => none
     else none
 | .call c =>
  match c.callee with
  | .builtin .len =>
   match c.args.toList, c.argTypes.toList with
   | [x], [t] =>
    match ρ x with
    | some (.slice _ n _) => if (tSlice P t).isSome then some (.int .i64 n) else none
    | some (.string s) => if tStr P t then some (.int .i64 s.size) else none
    | some (.map none) => if (tMap P t).isSome then some (.int .i64 0) else none
    | some (.map (some i)) => if (tMap P t).isSome then (match H i with | some (.map es) => some (.int .i64 es.length) | _ => none) else none
    | some (.agg _) => (tArr P t).map fun ne => .int .i64 ne.1
    | _ => none
   | _, _ => none
  | .builtin .min =>
   match c.args.toList with
   | [x, y] => (match ρ x, ρ y with | some (.int k a), some (.int _ b) => some (.int k (if b < a then b else a)) | _, _ => none)
   | _ => none
  | .builtin .max =>
   match c.args.toList with
   | [x, y] => (match ρ x, ρ y with | some (.int k a), some (.int _ b) => some (.int k (if b > a then b else a)) | _, _ => none)
   | [x, y, z] => (match ρ x, ρ y, ρ z with | some (.int k a), some (.int _ b), some (.int _ c) => some (.int k (if c > (if b > a then b else a) then c else (if b > a then b else a))) | _, _, _ => none)
   | _ => none
  | _ => none
 | _ => none
section
variable [TT] {P : Program} {B0 : Prot} {m : NMap} {H : AHeap} {w : World} {a : AAct} {a' : Act}
theorem VRel.int_inv {k : IntKind} {n : Int} {v' : Value} (h : VRel m (.int k n) v') : v' = .int k n := have _ := TT.tt; h.eq_of_atomic rfl
theorem VRel.bool_inv {b : Bool} {v' : Value} (h : VRel m (.bool b) v') : v' = .bool b := have _ := TT.tt; h.eq_of_atomic rfl
theorem VRel.ptr_inv {i o : Nat} {v' : Value} (h : VRel m (.pointer (some ⟨i, o, none⟩)) v') : ∃ f, m i = some f ∧ v' = .pointer (some ⟨f.blk, f.off + o, none⟩) := by
 have _ := TT.tt
 cases h with
 | atom h _ => simp [atomic] at h
 | ptr h _ => exact ⟨_, h, rfl⟩
theorem VRel.slice_inv {i o n c : Nat} {v' : Value} (h : VRel m (.slice (some ⟨i, o, none⟩) n c) v') :
    ∃ f ad, m i = some f ∧ n ≤ c ∧ (0 < c + f.extra → ad = ⟨f.blk, f.off + o, none⟩) ∧ v' = .slice (some ad) n (c + f.extra) := by
 have _ := TT.tt
 cases h with
 | atom h _ => simp [atomic] at h
 | slice h hn ha _ => exact ⟨_, _, h, hn, ha, rfl⟩
theorem VRel.agg_inv {cs : List Value} {v' : Value} (h : VRel m (.agg ⟨cs⟩) v') : ∃ cs', v' = .agg ⟨cs'⟩ ∧ VsRel m cs cs' := by
 have _ := TT.tt
 cases h with
 | atom h _ => simp [atomic] at h
 | agg h _ => exact ⟨_, rfl, h⟩
theorem VRel.tuple_inv {cs : List Value} {v' : Value} (h : VRel m (.tuple ⟨cs⟩) v') : ∃ cs', v' = .tuple ⟨cs'⟩ ∧ VsRel m cs cs' := by
 have _ := TT.tt
 cases h with
 | atom h _ => simp [atomic] at h
 | tuple h _ => exact ⟨_, rfl, h⟩
theorem VRel.iface_inv {t : TypeId} {v v' : Value} (h : VRel m (.iface t v) v') : ∃ u', v' = .iface t u' ∧ VRel m v u' := by
 have _ := TT.tt
 cases h with
 | atom h _ => simp [atomic] at h
 | iface h _ => exact ⟨_, rfl, h⟩
theorem VRel.func_inv {fn : Fn} {u c : List Value} {v' : Value} (h : VRel m (.func fn ⟨u⟩ ⟨c⟩) v') : ∃ fn' u' c', v' = .func fn' ⟨u'⟩ ⟨c'⟩ ∧ FnRel m fn fn' ∧ VsRel m u u' ∧ VsRel m c c' := by
 have _ := TT.tt
 cases h with
 | atom h _ => simp [atomic] at h
 | func h ha hc _ => exact ⟨_, _, _, rfl, h, ha, hc⟩
theorem VRel.map_inv {i : Nat} {v' : Value} (h : VRel m (.map (some i)) v') : ∃ f, m i = some f ∧ v' = .map (some f.blk) := by
 have _ := TT.tt
 cases h with
 | atom h _ => simp [atomic] at h
 | map h _ => exact ⟨_, h, rfl⟩
theorem VRel.cells {v v' : Value} (h : VRel m v v') : VsRel m v.cells.toList v'.cells.toList := by
 have _ := TT.tt
 cases h with
 | agg h _ => exact h
 | atom h _ =>
  have e : v.cells = #[v] := by cases v <;> first | rfl | (simp [atomic] at h)
  rw [e]
  exact .atom h .nil
 | ptr h _ => exact .ptr h .nil
 | slice h hn ha _ => exact .slice h hn ha .nil
 | cut h hn ha _ => exact .cut h hn ha .nil
 | map h _ => exact .map h .nil
 | func h ha hc _ => exact .func h ha hc .nil
 | iface h _ => exact .iface h .nil
 | tuple h _ => exact .tuple h .nil
theorem evs_sound (hr : Rel P B0 m H w) (ha : ARel m a a') {l : List Operand} {vs : List Value} (h : evs (a.eval P) l = some vs) : VsRel m vs (l.map a'.eval) := by
 induction l generalizing vs with
 | nil => cases h; exact .nil
 | cons x l ih =>
  simp only [evs] at h
  cases hx : a.eval P x with
  | none => rw [hx] at h; cases h
  | some v =>
   rw [hx] at h
   cases hl : evs (a.eval P) l with
   | none => rw [hl] at h; cases h
   | some us =>
    rw [hl] at h
    simp at h
    subst h
    exact .cons (eval_sound hr ha hx) (ih hl)
theorem loadV_sound (hr : Rel P B0 m H w) {t : TypeId} {i o : Nat} {f : BInfo} {v : Value} (hm : m i = some f) (h : loadV P t H i o = some v) :
    ∃ v', (loadVar t ⟨f.blk, f.off + o, none⟩).run P w = .ok v' w ∧ VRel m v v' := by
 unfold loadV at h
 split at h
 · rename_i cs e k hi
   split at h
   · rename_i hag
     cases hs : tSize P t with
     | none => rw [hs] at h; cases h
     | some s =>
      rw [hs] at h
      simp only [Option.bind_some] at h
      split at h
      · rename_i hlen
        cases h
        obtain ⟨c, e', fr, hc, hcs, _⟩ := hr.blocks i _ f hi hm
        have hcell : ∀ (j : Nat), j < s → ∃ v', c[f.off + o + j]? = some v' ∧ ∀ v, cs[o + j]? = some v → VRel m v v' := by
         intro j hj
         have hv : cs[o + j]? = some (cs[o + j]'(by omega)) := List.getElem?_eq_getElem (by omega)
         obtain ⟨v', h1, h2⟩ := hcs (o + j) _ hv
         refine ⟨v', by rw [← h1]; congr 1; omega, fun v h3 => ?_⟩
         rw [hv] at h3; cases h3; exact h2
        have hlc : s = 0 ∨ f.off + o + s ≤ c.size := by
         rcases Nat.eq_zero_or_pos s with h0 | h0
         · exact .inl h0
         · obtain ⟨v', h1, _⟩ := hcell (s - 1) (by omega)
           have := (Array.getElem?_eq_some_iff.1 h1).1
           exact .inr (by omega)
        have hload := run_loadCells_list (P := P) w ⟨f.blk, f.off + o, none⟩ ((c.toList.drop (f.off + o)).take s) (fun j v hj => by
         have hjs : j < s := by
          have := (List.getElem?_eq_some_iff.1 hj).1
          simp at this; omega
         rw [List.getElem?_take_of_lt hjs, List.getElem?_drop] at hj
         have : (⟨f.blk, f.off + o, none⟩ : Addr).add j = ⟨f.blk, f.off + o + j, none⟩ := by unfold Addr.add; split <;> simp_all
         rw [this]
         simp only [World.cell?, hc]
         simpa using hj)
        have hl2 : ((c.toList.drop (f.off + o)).take s).length = s := by simp; omega
        rw [hl2] at hload
        refine ⟨.agg ⟨(c.toList.drop (f.off + o)).take s⟩, ?_, ?_⟩
        · simp [loadVar, run_isAgg_t w hag, run_sizeOf_t w hs, hload]
        · refine .agg (.of_get (by rw [hl2]; simp; omega) fun j v hj => ?_) .nil
          have hjs : j < s := by
           have := (List.getElem?_eq_some_iff.1 hj).1
           simp at this; omega
          rw [List.getElem?_take_of_lt hjs, List.getElem?_drop] at hj
          obtain ⟨v', h1, h2⟩ := hcell j hjs
          exact ⟨v', by rw [List.getElem?_take_of_lt hjs, List.getElem?_drop]; simpa using h1, h2 v hj⟩
      · cases h
   · rename_i hag
     obtain ⟨v', h1, h2⟩ := hr.cell hi hm h
     exact ⟨v', by simp [loadVar, run_isAgg_t w hag, h1], h2⟩
   · cases h
 · cases h
end
end Go.Ab
namespace Go.Ab
open Go Go.RowKit
section
variable [TT] {P : Program} {B0 : Prot} {m : NMap} {H : AHeap} {w : World} {a : AAct} {a' : Act}
theorem partV_sound {t : TypeId} {cs cs' : List Value} {o : Nat} {v : Value} (hc : VsRel m cs cs') (h : partV P t cs o = some v) : ∃ v', (part t ⟨cs'⟩ o).run P w = .ok v' w ∧ VRel m v v' := by
 unfold partV at h
 split at h
 · rename_i hag
   cases hs : tSize P t with
   | none => rw [hs] at h; cases h
   | some s =>
    rw [hs] at h
    simp only [Option.bind_some] at h
    split at h
    · cases h
      refine ⟨.agg ⟨(cs'.drop o).take s⟩, ?_, .agg ((hc.drop o).take s) .nil⟩
      simp [part, run_isAgg_t w hag, run_sizeOf_t w hs, List.take_drop]
    · cases h
 · rename_i hag
   obtain ⟨v', h1, h2⟩ := hc.get h
   exact ⟨v', by simp [part, run_isAgg_t w hag, h1], h2⟩
 · cases h
theorem intBin_sound {op : BinOp} {k : IntKind} {x y : Int} {v : Value} {t : TypeId} {p q : Operand} (h : intBin op k x y = some v) :
    ((do eqGuard op t p q (.int k x) (.int k y); binOp op t (.int k x) (.int k y) : Sem Value)).run P w = .ok v w ∧ atomic v = true := by
 have _ := TT.tt
 cases op <;> simp only [intBin] at h <;>
  first
   | (cases h; simp [binOp, Op.intArith, Op.intBits, bits, Op.intCmp, atomic, eqGuard_at_int]; done)
   | (split at h
      · cases h
      · rename_i hy; cases h; simp [binOp, Op.intDiv, hy, atomic, eqGuard_at_int])
   | cases h
theorem shBin_sound {op : BinOp} {k k' : IntKind} {x y : Int} {v : Value} {t : TypeId} {p q : Operand} (h : shBin op k x y = some v) :
    ((do eqGuard op t p q (.int k x) (.int k' y); binOp op t (.int k x) (.int k' y) : Sem Value)).run P w = .ok v w ∧ atomic v = true := by
 have _ := TT.tt
 cases op <;> simp only [shBin] at h <;> first | (cases h; done) | skip
 all_goals
  split at h
  · rename_i hy
    injection h with h
    subst h
    refine ⟨?_, rfl⟩
    rw [Sem.run_bind, eqGuard_at_int]
    simp only [Sem.run_pure, Result.andThen_ok, binOp]
    first
     | (rw [shift_shl k k' x y hy.1 hy.2]; rfl)
     | (rw [shift_shr k k' x y hy.1 hy.2]; rfl)
  · cases h
theorem binI_sound {op : BinOp} {k k' : IntKind} {x y : Int} {v : Value} {t : TypeId} {p q : Operand} (h : (match op with | .shl | .shr => shBin op k x y | _ => if k = k' then intBin op k x y else none) = some v) :
    ((do eqGuard op t p q (.int k x) (.int k' y); binOp op t (.int k x) (.int k' y) : Sem Value)).run P w = .ok v w ∧ atomic v = true := by
 have key : (if k = k' then intBin op k x y else none) = some v → ((do eqGuard op t p q (.int k x) (.int k' y); binOp op t (.int k x) (.int k' y) : Sem Value)).run P w = .ok v w ∧ atomic v = true := by
  intro h2
  by_cases e : k = k'
  · subst e; rw [if_pos rfl] at h2; exact intBin_sound h2
  · rw [if_neg e] at h2; cases h2
 cases op <;> first | exact shBin_sound h | exact key h
theorem eqIn_nil {t : TypeId} {u u' c : Value} {b : Bool} (d : Nat) (hu : VRel m u u') (h : nilEq P t u c = some b) : (Op.equalIn (d + 1) t u' c).run P w = .ok b w := by
 have _ := TT.tt
 unfold nilEq at h
 split at h <;> cases h
 · rename_i ad hun
   cases hu with
   | atom ha _ =>
    cases ad with
    | none => simp only [Op.equalIn, Sem.run_bind, run_underlying hun, Result.andThen_ok, Sem.run_pure, Option.isNone_none]
    | some x => simp [atomic] at ha
   | ptr => simp only [Op.equalIn, Sem.run_bind, run_underlying hun, Result.andThen_ok, Sem.run_pure, Option.isNone_some]
 · rename_i ad n c hun
   cases hu with
   | atom ha _ =>
    cases ad with
    | none => simp only [Op.equalIn, Sem.run_bind, run_underlying hun, Result.andThen_ok, Sem.run_pure, Option.isNone_none]
    | some x => simp [atomic] at ha
   | slice => simp only [Op.equalIn, Sem.run_bind, run_underlying hun, Result.andThen_ok, Sem.run_pure, Option.isNone_some]
   | cut => simp only [Op.equalIn, Sem.run_bind, run_underlying hun, Result.andThen_ok, Sem.run_pure, Option.isNone_some]
 · rename_i ad hun
   cases hu with
   | atom ha _ =>
    cases ad with
    | none => simp only [Op.equalIn, Sem.run_bind, run_underlying hun, Result.andThen_ok, Sem.run_pure, Option.isNone_none]
    | some x => simp [atomic] at ha
   | map => simp only [Op.equalIn, Sem.run_bind, run_underlying hun, Result.andThen_ok, Sem.run_pure, Option.isNone_some]
 · rename_i hun
   cases hu with
   | atom ha _ => simp only [Op.equalIn, Sem.run_bind, run_underlying hun, Result.andThen_ok, Sem.run_pure]
 · rename_i hun
   cases hu with
   | atom ha _ => simp [atomic] at ha
   | func => simp only [Op.equalIn, Sem.run_bind, run_underlying hun, Result.andThen_ok, Sem.run_pure]
 · rename_i hun
   cases hu with
   | atom ha _ => simp only [Op.equalIn, Sem.run_bind, run_underlying hun, Result.andThen_ok, Sem.run_pure]
 · rename_i hun
   cases hu with
   | atom ha _ => simp [atomic] at ha
   | iface => simp only [Op.equalIn, Sem.run_bind, run_underlying hun, Result.andThen_ok, Sem.run_pure]
theorem nilEq_guard {t : TypeId} {u u' c : Value} {b : Bool} (op : BinOp) (hu : VRel m u u') (h : nilEq P t u c = some b) (p : Operand) : eqGuard op t p (.const c) u' c = pure () := by
 have _ := TT.tt
 unfold nilEq at h
 split at h <;> cases h <;> cases hu <;> first
  | exact eqGuard_at_pointer ..
  | exact eqGuard_at_slice ..
  | exact eqGuard_at_map ..
  | exact eqGuard_at_nilFunc ..
  | exact eqGuard_at_func ..
  | exact eqGuard_at_iface ..
  | exact eqGuard_nil_constR ..
theorem nilEq_sound {t : TypeId} {u u' c : Value} {b : Bool} (hu : VRel m u u') (h : nilEq P t u c = some b) (p : Operand) :
    ((do eqGuard .eql t p (.const c) u' c; binOp .eql t u' c : Sem Value)).run P w = .ok (.bool b) w ∧
    ((do eqGuard .neq t p (.const c) u' c; binOp .neq t u' c : Sem Value)).run P w = .ok (.bool (!b)) w := by
 have e := eqIn_nil (w := w) 9999 hu h
 have e2 : (Op.equal t u' c).run P w = .ok b w := e
 have hb : (binOp .eql t u' c).run P w = .ok (.bool b) w ∧ (binOp .neq t u' c).run P w = .ok (.bool (!b)) w := by
  unfold nilEq at h
  split at h <;> cases h <;> cases hu <;> simp only [binOp, Sem.run_bind, e2, Result.andThen_ok, Sem.run_pure, and_self]
 rw [Sem.run_bind, Sem.run_bind, nilEq_guard _ hu h, nilEq_guard _ hu h]
 exact hb
end
end Go.Ab
namespace Go.Ab
open Go Go.RowKit
section
variable [TT] {P : Program} {B0 : Prot} {m : NMap} {H : AHeap} {w : World} {a : AAct} {a' : Act}
theorem oev_sound (hr : Rel P B0 m H w) (ha : ARel m a a') {x : Option Operand} {v : Option Value} (h : oev (a.eval P) x = some v) :
    (x = none ∧ v = none) ∨ ∃ y u, x = some y ∧ v = some u ∧ VRel m u (a'.eval y) := by
 cases x with
 | none => cases h; exact .inl ⟨rfl, rfl⟩
 | some y =>
  simp only [oev] at h
  cases hy : a.eval P y with
  | none => rw [hy] at h; cases h
  | some u => rw [hy] at h; cases h; exact .inr ⟨y, u, rfl, rfl, eval_sound hr ha hy⟩
theorem sliceV_sound {t : TypeId} {x x' v : Value} {lo hi lo' hi' : Option Value} (hx : VRel m x x')
    (hlo : (lo = none ∧ lo' = none) ∨ ∃ u u', lo = some u ∧ lo' = some u' ∧ VRel m u u') (hhi : (hi = none ∧ hi' = none) ∨ ∃ u u', hi = some u ∧ hi' = some u' ∧ VRel m u u')
    (h : sliceV P t x lo hi = some v) : ∃ v', (Instr.sliceAt t x' lo' hi' none).run P w = .ok v' w ∧ VRel m v v' := by
 unfold sliceV at h
 split at h
 · rename_i ad n c
   cases ht : tSlice P t with
   | none => rw [ht] at h; cases h
   | some e =>
    rw [ht] at h
    simp only [Option.bind_some] at h
    cases hs : tSize P e with
    | none => rw [hs] at h; cases h
    | some s =>
     rw [hs] at h
     simp only [Option.bind_some] at h
     split at h
     · rename_i hh ll eh el
       split at h
       · rename_i hb
         obtain ⟨hb1, hb2, hb3⟩ := hb
         have hun := tSlice_u ht
         have bounds : ∀ (n' c' : Nat), n' = n → c ≤ c' → (Instr.sliceBounds true n' c' lo' hi' none).run P w = .ok (ll.toNat, hh.toNat, c') w := by
          intro n' c' en hcc
          subst en
          have h2 : ((match hi' with | some v => Instr.sliceBound v c' .sliceAcap | none => pure n' : Sem Nat)).run P w = .ok hh.toNat w := by
           rcases hhi with ⟨rfl, rfl⟩ | ⟨u, u', rfl, rfl, hu⟩
           · simp at eh; subst eh; simp
           · cases u with
             | int k q =>
              simp at eh; subst eh
              have hu' := hu.int_inv
              subst hu'
              have : 0 ≤ q ∧ q ≤ (c' : Int) := by omega
              simp only [Instr.sliceBound, asIntOf, Sem.run_bind, Sem.run_pure, Result.andThen_ok, if_pos this]
             | _ => simp at eh
          have h1 : ((match lo' with | some v => Instr.sliceBound v hh.toNat .sliceB | none => pure 0 : Sem Nat)).run P w = .ok ll.toNat w := by
           rcases hlo with ⟨rfl, rfl⟩ | ⟨u, u', rfl, rfl, hu⟩
           · simp at el; subst el; simp
           · cases u with
             | int k q =>
              simp at el; subst el
              have hu' := hu.int_inv
              subst hu'
              have : 0 ≤ q ∧ q ≤ (hh.toNat : Int) := by omega
              simp only [Instr.sliceBound, asIntOf, Sem.run_bind, Sem.run_pure, Result.andThen_ok, if_pos this]
             | _ => simp at el
          cases hi' <;> cases lo' <;> simp_all [Instr.sliceBounds]
         split at h
         · rename_i i o
           cases h
           obtain ⟨f, ad', hm, hn, hfa, rfl⟩ := hx.slice_inv
           have hbd := bounds n (c + f.extra) rfl (by omega)
           refine ⟨.slice (some (if c + f.extra = ll.toNat then ad' else ad'.add (ll.toNat * s))) (hh.toNat - ll.toNat) (c + f.extra - ll.toNat), ?_, ?_⟩
           · simp only [Instr.sliceAt, Sem.run_bind, run_underlying hun, Result.andThen_ok, Instr.slice, hbd, run_sizeOf_t w hs, Sem.run_pure]
             split <;> simp
           · have hc : c + f.extra - ll.toNat = (c - ll.toNat) + f.extra := by omega
             rw [hc]
             refine .slice hm (by omega) (fun hpos => ?_) .nil
             rw [if_neg (by omega), hfa (by omega)]
             unfold Addr.add
             split
             · rename_i hz; rw [hz]; simp
             · simp [Nat.add_assoc]
         · split at h
           · rename_i hc0
             cases h
             subst hc0
             have : n = 0 := by
              cases hx with
              | atom ha _ => cases n with
               | zero => rfl
               | succ n => simp [atomic] at ha
             subst this
             have hx' := hx.eq_of_atomic rfl
             subst hx'
             have hbd := bounds 0 0 rfl (by omega)
             have h0 : hh.toNat = 0 := by omega
             have l0 : ll.toNat = 0 := by omega
             rw [h0, l0] at hbd
             refine ⟨.slice none 0 0, ?_, .of_atomic rfl⟩
             simp only [Instr.sliceAt, Sem.run_bind, run_underlying hun, Result.andThen_ok, Instr.slice, hbd, run_sizeOf_t w hs, Sem.run_pure]
             simp
           · cases h
         · cases h
       · cases h
     · cases h
 · cases h
theorem bounds_run {lo hi lo' hi' : Option Value} {b : Bool} {n c : Nat} {l h : Int} (hlo : (lo = none ∧ lo' = none) ∨ ∃ u u', lo = some u ∧ lo' = some u' ∧ VRel m u u') (hhi : (hi = none ∧ hi' = none) ∨ ∃ u u', hi = some u ∧ hi' = some u' ∧ VRel m u u')
    (eh : bndV n hi = some h) (el : bndV 0 lo = some l) (hb : 0 ≤ l ∧ l ≤ h ∧ h ≤ c) : (Instr.sliceBounds b n c lo' hi' none).run P w = .ok (l.toNat, h.toNat, c) w := by
 obtain ⟨hb1, hb2, hb3⟩ := hb
 have h2 : ((match hi' with | some v => Instr.sliceBound v c (if b then .sliceAcap else .sliceAlen) | none => pure n : Sem Nat)).run P w = .ok h.toNat w := by
  rcases hhi with ⟨rfl, rfl⟩ | ⟨u, u', rfl, rfl, hu⟩
  · simp [bndV] at eh; subst eh; simp
  · cases u with
    | int k q =>
     simp [bndV] at eh; subst eh
     have hu' := hu.int_inv
     subst hu'
     have : 0 ≤ q ∧ q ≤ (c : Int) := by omega
     simp only [Instr.sliceBound, asIntOf, Sem.run_bind, Sem.run_pure, Result.andThen_ok, if_pos this]
    | _ => simp [bndV] at eh
 have h1 : ((match lo' with | some v => Instr.sliceBound v h.toNat .sliceB | none => pure 0 : Sem Nat)).run P w = .ok l.toNat w := by
  rcases hlo with ⟨rfl, rfl⟩ | ⟨u, u', rfl, rfl, hu⟩
  · simp [bndV] at el; subst el; simp
  · cases u with
    | int k q =>
     simp [bndV] at el; subst el
     have hu' := hu.int_inv
     subst hu'
     have : 0 ≤ q ∧ q ≤ (h.toNat : Int) := by omega
     simp only [Instr.sliceBound, asIntOf, Sem.run_bind, Sem.run_pure, Result.andThen_ok, if_pos this]
    | _ => simp [bndV] at el
 cases hi' <;> cases lo' <;> simp_all [Instr.sliceBounds]
theorem slicePart_sound {t : TypeId} {x x' v : Value} {lo hi lo' hi' : Option Value} (hr : Rel P B0 m H w) (hx : VRel m x x')
    (hlo : (lo = none ∧ lo' = none) ∨ ∃ u u', lo = some u ∧ lo' = some u' ∧ VRel m u u') (hhi : (hi = none ∧ hi' = none) ∨ ∃ u u', hi = some u ∧ hi' = some u' ∧ VRel m u u')
    (h : slicePart P H t x lo hi = some v) : ∃ v', (Instr.sliceAt t x' lo' hi' none).run P w = .ok v' w ∧ VRel m v v' := by
 unfold slicePart at h
 split at h
 · rename_i i o
   split at h
   · rename_i cs e0 hi0
     obtain ⟨ne, ht, h1⟩ := option_bind_some h
     clear h
     obtain ⟨s, hs, h2⟩ := option_bind_some h1
     clear h1
     obtain ⟨hh, eh, h3⟩ := option_bind_some h2
     clear h2
     obtain ⟨ll, el, h⟩ := option_bind_some h3
     clear h3
     split at h
     · rename_i hb
       cases h
       obtain ⟨f, hm, rfl⟩ := hx.ptr_inv
       have hex : f.extra = 0 := by
        obtain ⟨_, _, _, _, _, _, _, h⟩ := hr.blocks i _ f hi0 hm
        exact h rfl
       have hbd := bounds_run (P := P) (w := w) (b := false) (n := ne.1) (c := ne.1) hlo hhi eh el hb
       have hrel : VRel m (.slice (some ⟨i, o + ll.toNat * s, none⟩) (hh.toNat - ll.toNat) (ne.1 - ll.toNat)) (.slice (some (if ne.1 = ll.toNat then (⟨f.blk, f.off + o, none⟩ : Addr) else (⟨f.blk, f.off + o, none⟩ : Addr).add (ll.toNat * s))) (hh.toNat - ll.toNat) (ne.1 - ll.toNat)) := by
        have e0 : ne.1 - ll.toNat = (ne.1 - ll.toNat) + f.extra := by omega
        have := VsRel.slice (m := m) (i := i) (o := o + ll.toNat * s) (n := hh.toNat - ll.toNat) (c := ne.1 - ll.toNat) (f := f) (a := (if ne.1 = ll.toNat then (⟨f.blk, f.off + o, none⟩ : Addr) else (⟨f.blk, f.off + o, none⟩ : Addr).add (ll.toNat * s))) hm (by omega) (fun hpos => by
         rw [if_neg (by omega)]
         unfold Addr.add
         split
         · rename_i hz; rw [hz]; simp
         · simp [Nat.add_assoc]) .nil
        rw [← e0] at this
        exact this
       unfold tArrAt at ht
       cases hu : P.underlying t with
       | none => rw [hu] at ht; cases ht
       | some d =>
        rw [hu] at ht
        cases d with
        | array n e =>
         cases ht
         simp only at hbd hs hrel
         refine ⟨_, ?_, hrel⟩
         simp only [Instr.sliceAt, Sem.run_bind, run_underlying hu, Result.andThen_ok, Instr.sureAddr, Sem.run_pure, hbd, run_sizeOf_t w hs]
        | pointer a =>
         simp only [Option.bind_some] at ht
         have hua := tArr_u (n := ne.1) (e := ne.2) ht
         refine ⟨_, ?_, hrel⟩
         simp only [Instr.sliceAt, Sem.run_bind, run_underlying hu, Result.andThen_ok, Instr.slice, asAddr, Sem.run_pure, run_underlying hua, hbd, run_sizeOf_t w hs]
        | _ => cases ht
     · cases h
   · cases h
 · rename_i s
   split at h
   · rename_i ht
     obtain ⟨hh, eh, h3⟩ := option_bind_some h
     clear h
     obtain ⟨ll, el, h⟩ := option_bind_some h3
     clear h3
     split at h
     · rename_i hb
       cases h
       have := hx.eq_of_atomic rfl
       subst this
       have hu := tStr_u ht
       have hbd := bounds_run (P := P) (w := w) (b := false) (n := s.size) (c := s.size) hlo hhi eh el hb
       exact ⟨.string (s.extract ll.toNat hh.toNat), by simp [Instr.sliceAt, Sem.run_bind, run_underlying hu, Result.andThen_ok, Instr.slice, hbd], .of_atomic rfl⟩
     · cases h
   · cases h
 · exact sliceV_sound hx hlo hhi h
theorem sliceMax_sound {t : TypeId} {x x' v hi hi' mx mx' : Value} {lo lo' : Option Value} (hx : VRel m x x')
    (hlo : (lo = none ∧ lo' = none) ∨ ∃ u u', lo = some u ∧ lo' = some u' ∧ VRel m u u') (hhi : VRel m hi hi') (hmx : VRel m mx mx')
    (h : sliceMax P t x lo hi mx = some v) : ∃ v', (Instr.sliceAt t x' lo' (some hi') (some mx')).run P w = .ok v' w ∧ VRel m v v' := by
 unfold sliceMax at h
 split at h
 · rename_i i o n c k1 hh k2 q
   have e1 := hhi.int_inv
   have e2 := hmx.int_inv
   subst e1; subst e2
   obtain ⟨e, ht, h1⟩ := option_bind_some h
   clear h
   obtain ⟨s, hs, h2⟩ := option_bind_some h1
   clear h1
   obtain ⟨ll, el, h⟩ := option_bind_some h2
   clear h2
   split at h
   · rename_i hb
     obtain ⟨b1, b2, b3, b4⟩ := hb
     cases h
     obtain ⟨f, ad, hm, hn, hfa, rfl⟩ := hx.slice_inv
     have hun := tSlice_u ht
     have h1 : ((match lo' with | some v => Instr.sliceBound v hh.toNat .slice3C | none => pure 0 : Sem Nat)).run P w = .ok ll.toNat w := by
      rcases hlo with ⟨rfl, rfl⟩ | ⟨u, u', rfl, rfl, hu⟩
      · simp [bndV] at el; subst el; simp
      · cases u with
        | int k q =>
         simp [bndV] at el; subst el
         have hu' := hu.int_inv
         subst hu'
         have : 0 ≤ q ∧ q ≤ (hh.toNat : Int) := by omega
         simp only [Instr.sliceBound, asIntOf, Sem.run_bind, Sem.run_pure, Result.andThen_ok, if_pos this]
        | _ => simp [bndV] at el
     have q1 : 0 ≤ q ∧ q ≤ ((c + f.extra : Nat) : Int) := by omega
     have q2 : 0 ≤ hh ∧ hh ≤ (q.toNat : Int) := by omega
     have hbd : (Instr.sliceBounds true n (c + f.extra) lo' (some (.int k1 hh)) (some (.int k2 q))).run P w = .ok (ll.toNat, hh.toNat, q.toNat) w := by
      have s1 : (Instr.sliceBound (.int k2 q) (c + f.extra) .slice3Acap).run P w = .ok q.toNat w := by simp only [Instr.sliceBound, asIntOf, Sem.run_bind, Sem.run_pure, Result.andThen_ok, if_pos q1]
      have s2 : (Instr.sliceBound (.int k1 hh) q.toNat .slice3B).run P w = .ok hh.toNat w := by simp only [Instr.sliceBound, asIntOf, Sem.run_bind, Sem.run_pure, Result.andThen_ok, if_pos q2]
      cases lo' <;> simp_all [Instr.sliceBounds]
     refine ⟨.slice (some (if q.toNat = ll.toNat then ad else ad.add (ll.toNat * s))) (hh.toNat - ll.toNat) (q.toNat - ll.toNat), ?_, ?_⟩
     · simp only [Instr.sliceAt, Sem.run_bind, run_underlying hun, Result.andThen_ok, Instr.slice, hbd, run_sizeOf_t w hs, Sem.run_pure]
       split <;> simp
     · refine .cut hm (by omega) (fun hpos => ?_) .nil
       rw [if_neg (by omega), hfa (by omega)]
       unfold Addr.add
       split
       · rename_i hz; rw [hz]; simp
       · simp [Nat.add_assoc]
   · cases h
 · cases h
theorem evps_sound (hr : Rel P B0 m H w) (ha : ARel m a a') {l : List (Nat × Operand)} {vs : List (Nat × Value)} (h : evps (a.eval P) l = some vs) :
    ∃ vs', l.map (fun p => (p.1, a'.eval p.2)) = vs' ∧ vs'.map (·.1) = vs.map (·.1) ∧ VsRel m (vs.map (·.2)) (vs'.map (·.2)) := by
 induction l generalizing vs with
 | nil => cases h; exact ⟨[], rfl, rfl, .nil⟩
 | cons x l ih =>
  obtain ⟨i, x⟩ := x
  simp only [evps] at h
  cases hx : a.eval P x with
  | none => rw [hx] at h; cases h
  | some v =>
   rw [hx] at h
   cases hl : evps (a.eval P) l with
   | none => rw [hl] at h; cases h
   | some us =>
    rw [hl] at h
    simp at h
    subst h
    obtain ⟨vs', h1, h2, h3⟩ := ih hl
    exact ⟨(i, a'.eval x) :: vs', by simp [h1], by simp [h2], .cons (eval_sound hr ha hx) h3⟩
theorem foldl_set (l : List Value) (j : Nat) (off : Nat) : ∀ (cells : Array Value), off + j + l.length ≤ cells.size →
    ((l.zipIdx j).foldl (fun (cs : Array Value) (p : Value × Nat) => cs.setIfInBounds (off + p.2) p.1) cells).toList = cells.toList.take (off + j) ++ l ++ cells.toList.drop (off + j + l.length) := by
 have _ := TT.tt
 induction l generalizing j with
 | nil => intro cells _; simp
 | cons v l ih =>
  intro cells hl
  simp only [List.zipIdx_cons, List.foldl_cons]
  rw [ih (j + 1) (cells.setIfInBounds (off + j) v) (by simp at hl ⊢; omega)]
  have := list_seg_step cells.toList (off + j) v l (by simp at hl ⊢; omega)
  simp only [Array.toList_setIfInBounds, List.length_cons] at this ⊢
  rw [← this]
  congr 2
theorem fillV_sound {place : Nat → Option (Nat × Nat)} {ps ps' : List (Nat × Value)} {cells cells' : List Value} {r : List Value} (hn : ps'.map (·.1) = ps.map (·.1)) (hv : VsRel m (ps.map (·.2)) (ps'.map (·.2)))
    (hc : VsRel m cells cells') (h : fillV place cells ps = some r) : ∃ r', Instr.fill place ⟨cells'⟩ ps' = some ⟨r'⟩ ∧ VsRel m r r' := by
 induction ps generalizing ps' cells cells' with
 | nil =>
  have : ps' = [] := by simpa using hn
  subst this
  cases h
  exact ⟨cells', rfl, hc⟩
 | cons p ps ih =>
  match ps', hn, hv with
  | p' :: qs, hn2, hv3 =>
   obtain ⟨i, v⟩ := p
   obtain ⟨i', v'⟩ := p'
   simp only [List.map_cons, List.cons.injEq] at hn2 hv3
   obtain ⟨rfl, hn4⟩ := hn2
   obtain ⟨_, _, e, hv1, hv2⟩ := hv3.uncons
   simp only [List.cons.injEq] at e
   obtain ⟨rfl, rfl⟩ := e
   simp only [fillV] at h
   cases hp : place i' with
   | none => rw [hp] at h; cases h
   | some os =>
    obtain ⟨off, size⟩ := os
    rw [hp] at h
    simp only at h
    split at h
    · rename_i hsz
      have hcl := hv1.cells
      have hl := hcl.length
      have hcc := hc.length
      have e1 : v'.cells.size = size := by simp only [Array.length_toList] at hl; omega
      have e2 : ¬ (v'.cells.size ≠ size || off + v'.cells.size > (⟨cells'⟩ : Array Value).size) = true := by simp; omega
      have hfs := foldl_set v'.cells.toList 0 off ⟨cells'⟩ (by simp; omega)
      simp only [Nat.add_zero, Array.length_toList, e1] at hfs
      have hr : VsRel m (cells.take off ++ v.cells.toList ++ cells.drop (off + size)) (cells'.take off ++ v'.cells.toList ++ cells'.drop (off + size)) :=
       ((hc.take off).append hcl).append (hc.drop _)
      obtain ⟨r', h1, h2⟩ := ih hn4 hv2 hr h
      refine ⟨r', ?_, h2⟩
      simp only [Instr.fill, hp]
      rw [if_neg e2]
      have e3 : (v'.cells.zipIdx.foldl (fun (cs : Array Value) (p : Value × Nat) => cs.setIfInBounds (off + p.2) p.1) ⟨cells'⟩) = ⟨cells'.take off ++ v'.cells.toList ++ cells'.drop (off + size)⟩ := by
       apply Array.ext'
       rw [← hfs, ← Array.foldl_toList, Array.toList_zipIdx]
      exact (congrArg (fun x => Instr.fill place x qs) e3).trans h1
    · cases h
end
end Go.Ab
namespace Go.Ab
open Go Go.RowKit
section
variable [TT] {P : Program} {B0 : Prot} {m : NMap} {H : AHeap} {w : World} {a : AAct} {a' : Act}
theorem addr_add (b o n : Nat) : (⟨b, o, none⟩ : Addr).add n = ⟨b, o + n, none⟩ := by
 have _ := TT.tt
 unfold Addr.add; split <;> simp_all
def Gives (P : Program) (m : NMap) (a' : Act) (o : Oper) (v : Value) (w : World) : Prop := ∃ v', (execOp a'.eval o).run P w = .ok (.value v') w ∧ VRel m v v'
variable {v : Value} {dst : Option Tmp} {ty : TypeId} {pos : String} {aft : Array Edge} {gd : Option (Nat × Bool)}
theorem s_move {x : Operand} (hr : Rel P B0 m H w) (ha : ARel m a a') (h : a.eval P x = some v) : Gives P m a' ⟨dst, .move x, ty, pos, aft, gd⟩ v w ∧ Gives P m a' ⟨dst, .assign x, ty, pos, aft, gd⟩ v w :=
 ⟨⟨_, rfl, eval_sound hr ha h⟩, ⟨_, rfl, eval_sound hr ha h⟩⟩
theorem s_pick {c x y : Operand} (hr : Rel P B0 m H w) (ha : ARel m a a') (h : aPure P (a.eval P) H (.pick c x y) = some v) : Gives P m a' ⟨dst, .pick c x y, ty, pos, aft, gd⟩ v w := by
 simp only [aPure] at h
 split at h
 · rename_i b hc
   have hcb := (eval_sound hr ha hc).bool_inv
   split at h
   · rename_i p q hx hy
     cases h
     have hxp := (eval_sound hr ha hx).bool_inv
     have hyq := (eval_sound hr ha hy).bool_inv
     refine ⟨.bool (bif b then p else q), ?_, .of_atomic rfl⟩
     cases b <;> simp [execOp, hcb, asBool, hxp, hyq]
   · cases b with
     | true => exact ⟨a'.eval x, by simp [execOp, hcb, asBool], eval_sound hr ha (by simpa using h)⟩
     | false => exact ⟨a'.eval y, by simp [execOp, hcb, asBool], eval_sound hr ha (by simpa using h)⟩
 · cases h
theorem s_load {t : TypeId} {x : Operand} (hr : Rel P B0 m H w) (ha : ARel m a a') (h : aPure P (a.eval P) H (.load t x) = some v) : Gives P m a' ⟨dst, .load t x, ty, pos, aft, gd⟩ v w := by
 simp only [aPure] at h
 split at h
 · rename_i i o hx
   obtain ⟨f, hm, hx'⟩ := (eval_sound hr ha hx).ptr_inv
   obtain ⟨v', h1, h2⟩ := loadV_sound hr hm h
   exact ⟨v', by simp [execOp, Instr.loadAt, Instr.sureAddr, hx', h1], h2⟩
 · cases h
theorem s_nilCheck {x : Operand} (hr : Rel P B0 m H w) (ha : ARel m a a') (h : aPure P (a.eval P) H (.nilCheck x) = some v) : Gives P m a' ⟨dst, .nilCheck x, ty, pos, aft, gd⟩ v w := by
 simp only [aPure] at h
 split at h
 · rename_i ad hx
   cases h
   have hv := eval_sound hr ha hx
   cases hv' : a'.eval x with
   | pointer ad' =>
    cases ad' with
    | none => rw [hv'] at hv; cases hv
    | some ad' => rw [hv'] at hv; exact ⟨.pointer (some ad'), by simp [execOp, hv'], hv⟩
   | _ => rw [hv'] at hv; cases hv
 · rename_i f u c hx
   cases h
   have hv := eval_sound hr ha hx
   obtain ⟨fn', u', c', e, hf, _, _⟩ := VRel.func_inv (u := u.toList) (c := c.toList) hv
   cases hf
   exact ⟨_, by simp only [execOp, e]; rfl, e ▸ hv⟩
 · cases h
theorem s_binOp {op : BinOp} {t yt : TypeId} {x y : Operand} (hr : Rel P B0 m H w) (ha : ARel m a a') (h : aPure P (a.eval P) H (.binOp op t x y yt) = some v) : Gives P m a' ⟨dst, .binOp op t x y yt, ty, pos, aft, gd⟩ v w := by
 simp only [aPure] at h
 split at h
 · rename_i k p k' q hx hy
   have e1 := (eval_sound hr ha hx).int_inv
   have e2 := (eval_sound hr ha hy).int_inv
   obtain ⟨h1, h2⟩ := binI_sound (P := P) (w := w) (t := t) (p := x) (q := y) h
   refine ⟨v, ?_, .of_atomic h2⟩
   rw [← e1, ← e2] at h1
   show (do let u ← (do eqGuard op t x y (a'.eval x) (a'.eval y); binOp op t (a'.eval x) (a'.eval y)); pure (Next.value u) : Sem Next).run P w = _
   rw [Sem.run_bind, h1]; rfl
 · rename_i p q hne hx hy
   have ops : ∀ b, eqOp op b = some v → ((do eqGuard .eql t x y (a'.eval x) (a'.eval y); binOp .eql t (a'.eval x) (a'.eval y) : Sem Value).run P w = .ok (.bool b) w) → ((do eqGuard .neq t x y (a'.eval x) (a'.eval y); binOp .neq t (a'.eval x) (a'.eval y) : Sem Value).run P w = .ok (.bool (!b)) w) →
       Gives P m a' ⟨dst, .binOp op t x y yt, ty, pos, aft, gd⟩ v w := by
    intro b hv h1 h2
    unfold eqOp at hv
    split at hv
    · cases hv
      refine ⟨.bool b, ?_, .of_atomic rfl⟩
      show (do let u ← (do eqGuard .eql t x y (a'.eval x) (a'.eval y); binOp .eql t (a'.eval x) (a'.eval y)); pure (Next.value u) : Sem Next).run P w = _
      rw [Sem.run_bind, h1]; rfl
    · cases hv
      refine ⟨.bool (!b), ?_, .of_atomic rfl⟩
      show (do let u ← (do eqGuard .neq t x y (a'.eval x) (a'.eval y); binOp .neq t (a'.eval x) (a'.eval y)); pure (Next.value u) : Sem Next).run P w = _
      rw [Sem.run_bind, h2]; rfl
    · cases hv
   unfold binV at h
   split at h
   · rename_i b hb
     obtain ⟨h1, h2⟩ := aEq_sound (P := P) (w := w) (p := x) (q := y) (eval_sound hr ha hx) (eval_sound hr ha hy) hb (fun k z e => by
      subst e
      rcases aEq_kinds hb with ⟨⟨cs, e⟩, _⟩ | ⟨k1, z1, z2, e1, e2⟩ | ⟨z1, z2, e1, _⟩ | ⟨z1, z2, e1, _⟩
      · cases e
      · cases e1; subst e2; exact hne k z k z2 rfl rfl
      · cases e1
      · cases e1)
     exact ops b h h1 h2
   · cases y with
     | const c =>
      simp only at h
      obtain ⟨b, hb, hv⟩ := option_bind_some h
      have hq : q = c := by
       simp only [AAct.eval] at hy
       split at hy
       · cases hy; rfl
       · cases hy
      subst hq
      obtain ⟨h1, h2⟩ := nilEq_sound (P := P) (w := w) (eval_sound hr ha hx) hb x
      exact ops b hv h1 h2
     | _ => cases h
 · cases h
theorem s_unOp {op : UnOp} {t : TypeId} {x : Operand} (hr : Rel P B0 m H w) (ha : ARel m a a') (h : aPure P (a.eval P) H (.unOp op t x) = some v) : Gives P m a' ⟨dst, .unOp op t x, ty, pos, aft, gd⟩ v w := by
 simp only [aPure] at h
 split at h
 · rename_i b hx
   cases h
   have e1 := (eval_sound hr ha hx).bool_inv
   exact ⟨.bool (!b), by simp [execOp, e1, Op.unary], .of_atomic rfl⟩
 · rename_i k n hx
   cases h
   have e1 := (eval_sound hr ha hx).int_inv
   exact ⟨.int k (k.wrap (0 - n)), by simp [execOp, e1, Op.unary, Op.intArith], .of_atomic rfl⟩
 · cases h
theorem s_convert {src dt : TypeId} {x : Operand} (hr : Rel P B0 m H w) (ha : ARel m a a') (h : aPure P (a.eval P) H (.convert src dt x) = some v) : Gives P m a' ⟨dst, .convert src dt x, ty, pos, aft, gd⟩ v w := by
 simp only [aPure] at h
 split at h
 · rename_i d k k0 n hs hd hx
   cases h
   have e1 := (eval_sound hr ha hx).int_inv
   exact ⟨.int k (k.wrap n), by simp [execOp, e1, convert, run_underlying hs, run_underlying (tInt_u hd), Conv.intToInt], .of_atomic rfl⟩
 · cases h
theorem s_makeInterface {t : TypeId} {x : Operand} (hr : Rel P B0 m H w) (ha : ARel m a a') (h : aPure P (a.eval P) H (.makeInterface t x) = some v) : Gives P m a' ⟨dst, .makeInterface t x, ty, pos, aft, gd⟩ v w := by
 simp only [aPure] at h
 split at h
 · rename_i ht
   cases hx : a.eval P x with
   | none => rw [hx] at h; cases h
   | some u =>
    rw [hx] at h
    cases h
    refine ⟨.iface t (a'.eval x), ?_, .iface (eval_sound hr ha hx) .nil⟩
    unfold tIface at ht
    cases hu : P.underlying t with
    | none => rw [hu] at ht; cases ht
    | some d => rw [hu] at ht; cases d <;> simp at ht <;> simp [execOp, Instr.makeInterface, run_underlying hu]
 · cases h
theorem s_makeFunc {fn : Fn} {first cap : Array Operand} (hr : Rel P B0 m H w) (ha : ARel m a a') (h : aPure P (a.eval P) H (.makeFunc fn first cap) = some v) : Gives P m a' ⟨dst, .makeFunc fn first cap, ty, pos, aft, gd⟩ v w := by
 simp only [aPure] at h
 have key : (evs (a.eval P) first.toList).bind (fun u => (evs (a.eval P) cap.toList).map fun c => Value.func fn ⟨u⟩ ⟨c⟩) = some v → FnRel m fn fn → Gives P m a' ⟨dst, .makeFunc fn first cap, ty, pos, aft, gd⟩ v w := by
  intro h hf
  obtain ⟨u, hu, h⟩ := option_bind_some h
  cases hc : evs (a.eval P) cap.toList with
  | none => rw [hc] at h; cases h
  | some c =>
   rw [hc] at h
   cases h
   refine ⟨.func fn ⟨first.toList.map a'.eval⟩ ⟨cap.toList.map a'.eval⟩, ?_, .func hf (evs_sound hr ha hu) (evs_sound hr ha hc) .nil⟩
   have e1 : first.map a'.eval = ⟨first.toList.map a'.eval⟩ := by apply Array.ext'; simp
   have e2 : cap.map a'.eval = ⟨cap.toList.map a'.eval⟩ := by apply Array.ext'; simp
   simp [execOp, Instr.makeFunc, e1, e2]
 cases fn with
 | yield l => cases h
 | func f => exact key h (.func f)
 | method s => exact key h (.method s)
 | methodOf t s => exact key h (.methodOf t s)
 | via t p f b => exact key h (.via t p f b)
theorem s_fieldAddr {s : TypeId} {x : Operand} {fi : Nat} (hr : Rel P B0 m H w) (ha : ARel m a a') (h : aPure P (a.eval P) H (.fieldAddr s x fi) = some v) : Gives P m a' ⟨dst, .fieldAddr s x fi, ty, pos, aft, gd⟩ v w := by
 simp only [aPure] at h
 split at h
 · rename_i off ft i o hf hx
   cases h
   obtain ⟨f, hm, hx'⟩ := (eval_sound hr ha hx).ptr_inv
   obtain ⟨fs, fd, sz, hu, hfd, ho, hft, hsz, hz⟩ := fOff_u hf
   subst ho; subst hft
   refine ⟨.pointer (some ⟨f.blk, f.off + (o + fd.offset), none⟩), ?_, .ptr hm .nil⟩
   simp [execOp, Instr.fieldAt, run_underlying hu, hfd, Instr.sureAddr, hx', fieldPlace, run_sizeOf_t w hsz, hz, addr_add, Nat.add_assoc]
 · cases h
theorem s_field {t : TypeId} {x : Operand} {fi : Nat} (hr : Rel P B0 m H w) (ha : ARel m a a') (h : aPure P (a.eval P) H (.field t x fi) = some v) : Gives P m a' ⟨dst, .field t x fi, ty, pos, aft, gd⟩ v w := by
 simp only [aPure] at h
 split at h
 · rename_i off ft cs hf hx
   obtain ⟨cs', hx', hcs⟩ := (eval_sound hr ha hx).agg_inv
   obtain ⟨fs, fd, sz, hu, hfd, ho, hft, hsz, hz⟩ := fOff_u hf
   subst ho; subst hft
   obtain ⟨v', h1, h2⟩ := partV_sound (w := w) hcs h
   exact ⟨v', by simp [execOp, Instr.field, run_underlying hu, hfd, asAgg, hx', h1], h2⟩
 · cases h
theorem s_indexAddr {t : TypeId} {x ix : Operand} (hr : Rel P B0 m H w) (ha : ARel m a a') (h : aPure P (a.eval P) H (.indexAddr t x ix) = some v) : Gives P m a' ⟨dst, .indexAddr t x ix, ty, pos, aft, gd⟩ v w := by
 simp only [aPure] at h
 split at h
 · rename_i i o n c k j hx hj
   obtain ⟨e, he, h⟩ := option_bind_some h
   obtain ⟨s, hs, h⟩ := option_bind_some h
   split at h
   · rename_i hb
     cases h
     obtain ⟨f, ad, hm, hn, hfa, hx'⟩ := (eval_sound hr ha hx).slice_inv
     have hj' := (eval_sound hr ha hj).int_inv
     have had := hfa (by omega)
     subst had
     refine ⟨.pointer (some ⟨f.blk, f.off + (o + j.toNat * s), none⟩), ?_, .ptr hm .nil⟩
     simp [execOp, Instr.indexAt, hj', hx', asIntOf, run_underlying (tSlice_u he), hb, run_sizeOf_t w hs, addr_add, Nat.add_assoc]
   · cases h
 · rename_i i o k j hx hj
   obtain ⟨ne, he, h⟩ := option_bind_some h
   obtain ⟨s, hs, h⟩ := option_bind_some h
   split at h
   · rename_i hb
     cases h
     obtain ⟨f, hm, hx'⟩ := (eval_sound hr ha hx).ptr_inv
     have hj' := (eval_sound hr ha hj).int_inv
     refine ⟨.pointer (some ⟨f.blk, f.off + (o + j.toNat * s), none⟩), ?_, .ptr hm .nil⟩
     have hu := tArr_u (n := ne.1) (e := ne.2) he
     simp [execOp, Instr.indexAt, hj', hx', asIntOf, run_underlying hu, Instr.sureAddr, hb, run_sizeOf_t w hs, addr_add, Nat.add_assoc]
   · cases h
 · cases h
theorem s_index {t : TypeId} {x ix : Operand} (hr : Rel P B0 m H w) (ha : ARel m a a') (h : aPure P (a.eval P) H (.index t x ix) = some v) : Gives P m a' ⟨dst, .index t x ix, ty, pos, aft, gd⟩ v w := by
 simp only [aPure] at h
 split at h
 · rename_i cs k j hx hj
   obtain ⟨ne, he, h⟩ := option_bind_some h
   obtain ⟨s, hs, h⟩ := option_bind_some h
   split at h
   · rename_i hb
     obtain ⟨cs', hx', hcs⟩ := (eval_sound hr ha hx).agg_inv
     have hj' := (eval_sound hr ha hj).int_inv
     obtain ⟨v', h1, h2⟩ := partV_sound (w := w) hcs h
     have hu := tArr_u (n := ne.1) (e := ne.2) he
     exact ⟨v', by simp [execOp, Instr.index, hj', hx', asIntOf, run_underlying hu, hb, run_sizeOf_t w hs, h1], h2⟩
   · cases h
 · rename_i s k j hx hj
   split at h
   · rename_i hb
     obtain ⟨ht, hj0⟩ := hb
     have hx' := (eval_sound hr ha hx).eq_of_atomic rfl
     have hj' := (eval_sound hr ha hj).int_inv
     cases hsj : s[j.toNat]? with
     | none => rw [hsj] at h; cases h
     | some b =>
      rw [hsj] at h
      cases h
      exact ⟨.int .u8 b.toNat, by simp [execOp, Instr.index, hj', hx', asIntOf, run_underlying (tStr_u ht), hj0, hsj], .of_atomic rfl⟩
   · cases h
 · cases h
theorem s_extract {x : Operand} {ix : Nat} (hr : Rel P B0 m H w) (ha : ARel m a a') (h : aPure P (a.eval P) H (.extract x ix) = some v) : Gives P m a' ⟨dst, .extract x ix, ty, pos, aft, gd⟩ v w := by
 simp only [aPure] at h
 split at h
 · rename_i vs hx
   obtain ⟨vs', hx', hvs⟩ := (eval_sound hr ha hx).tuple_inv
   obtain ⟨v', h1, h2⟩ := hvs.get h
   exact ⟨v', by simp [execOp, Instr.extract, hx', h1], h2⟩
 · cases h
theorem s_sliceMax {t : TypeId} {x hi mx : Operand} {lo : Option Operand} (hr : Rel P B0 m H w) (ha : ARel m a a') (h : aPure P (a.eval P) H (.slice t x lo (some hi) (some mx)) = some v) : Gives P m a' ⟨dst, .slice t x lo (some hi) (some mx), ty, pos, aft, gd⟩ v w := by
 simp only [aPure] at h
 obtain ⟨u, hu, h⟩ := option_bind_some h
 obtain ⟨l, hl, h⟩ := option_bind_some h
 obtain ⟨hh, hhi, h⟩ := option_bind_some h
 obtain ⟨q, hq, h⟩ := option_bind_some h
 have e1 : (l = none ∧ lo.map a'.eval = none) ∨ ∃ u u', l = some u ∧ lo.map a'.eval = some u' ∧ VRel m u u' := by
  rcases oev_sound hr ha hl with ⟨rfl, rfl⟩ | ⟨y, q, rfl, rfl, hq⟩
  · exact .inl ⟨rfl, rfl⟩
  · exact .inr ⟨q, _, rfl, rfl, hq⟩
 obtain ⟨v', h1, h2⟩ := sliceMax_sound (w := w) (eval_sound hr ha hu) e1 (eval_sound hr ha hhi) (eval_sound hr ha hq) h
 exact ⟨v', by simp [execOp, h1], h2⟩
theorem s_slice {t : TypeId} {x : Operand} {lo hi : Option Operand} (hr : Rel P B0 m H w) (ha : ARel m a a') (h : aPure P (a.eval P) H (.slice t x lo hi none) = some v) : Gives P m a' ⟨dst, .slice t x lo hi none, ty, pos, aft, gd⟩ v w := by
 simp only [aPure] at h
 obtain ⟨u, hu, h⟩ := option_bind_some h
 obtain ⟨l, hl, h⟩ := option_bind_some h
 obtain ⟨hh, hhi, h⟩ := option_bind_some h
 have e1 : (l = none ∧ lo.map a'.eval = none) ∨ ∃ u u', l = some u ∧ lo.map a'.eval = some u' ∧ VRel m u u' := by
  rcases oev_sound hr ha hl with ⟨rfl, rfl⟩ | ⟨y, q, rfl, rfl, hq⟩
  · exact .inl ⟨rfl, rfl⟩
  · exact .inr ⟨q, _, rfl, rfl, hq⟩
 have e2 : (hh = none ∧ hi.map a'.eval = none) ∨ ∃ u u', hh = some u ∧ hi.map a'.eval = some u' ∧ VRel m u u' := by
  rcases oev_sound hr ha hhi with ⟨rfl, rfl⟩ | ⟨y, q, rfl, rfl, hq⟩
  · exact .inl ⟨rfl, rfl⟩
  · exact .inr ⟨q, _, rfl, rfl, hq⟩
 obtain ⟨v', h1, h2⟩ := slicePart_sound (w := w) hr (eval_sound hr ha hu) e1 e2 h
 exact ⟨v', by simp [execOp, h1], h2⟩
end
end Go.Ab
namespace Go.Ab
open Go Go.RowKit
section
variable [TT] {P : Program} {B0 : Prot} {m : NMap} {H : AHeap} {w w' : World} {a : AAct} {a' : Act}
theorem getObj_m {r : Nat} {es : Array MapEntry} {clock : Nat} (hb : w.heap[r]? = some (.map es clock)) : (getObj r).run P w = .ok (.map es clock) w := by
 have _ := TT.tt
 simp [getObj, Sem.run, hb]
theorem setObj_m {r : Nat} {es : Array MapEntry} {clock : Nat} (o : Obj) (hb : w.heap[r]? = some (.map es clock)) : (setObj r o).run P w = .ok () { w with heap := w.heap.setIfInBounds r o } := by
 have _ := TT.tt
 simp [setObj, Sem.run, hb]
theorem ckV_sound (d : Nat) : ∀ {t : TypeId} {v v' : Value}, VRel m v v' → ckV P d t v = true → ∀ em n, (Instr.checkKey em (n + d) t v').run P w = .ok () w := by
 induction d with
 | zero => intro t v v' _ h; cases h
 | succ d ih =>
  intro t v v' hv h em n
  rw [show n + (d + 1) = (n + d) + 1 from rfl, Instr.checkKey]
  unfold ckV at h
  split at h
  · rename_i fs cs hu
    obtain ⟨cs', rfl, hcs⟩ := hv.agg_inv
    simp only [Sem.run_bind, run_underlying hu, Result.andThen_ok]
    rw [← Array.forIn_toList]
    rw [List.all_eq_true] at h
    generalize fs.toList = L at h
    induction L with
    | nil => simp
    | cons f L ihL =>
     have h1 := h f (by simp)
     split at h1
     · rename_i u hp
       obtain ⟨u', h2, h3⟩ := partV_sound (w := w) hcs hp
       have h4 := ih h3 h1 em n
       have hL := ihL fun g hg => h g (by simp [hg])
       by_cases hn : f.name = "_"
       · simp only [List.forIn_cons, Sem.run_bind, hn, ne_eq, not_true_eq_false, if_false, Result.andThen_ok, Sem.run_pure]
         exact hL
       · simp only [List.forIn_cons, Sem.run_bind, hn, ne_eq, not_false_eq_true, if_true, Result.andThen_ok, h2, h4, Sem.run_pure]
         exact hL
     · cases h1
  · rename_i k e cs hu
    obtain ⟨cs', rfl, hcs⟩ := hv.agg_inv
    simp only [Sem.run_bind, run_underlying hu, Result.andThen_ok]
    split at h
    · rename_i s hs
      simp only [Std.Legacy.Range.forIn_eq_forIn_range', Std.Legacy.Range.size, Nat.sub_zero, Nat.add_one_sub_one, Nat.div_one]
      rw [List.range_eq_range', List.all_eq_true] at h
      generalize List.range' 0 k = L at h
      induction L with
      | nil => simp
      | cons j L ihL =>
       have h1 := h j (by simp)
       split at h1
       · rename_i u hp
         obtain ⟨u', h2, h3⟩ := partV_sound (w := w) hcs hp
         have h4 := ih h3 h1 em n
         simp only [List.forIn_cons, Sem.run_bind, run_sizeOf_t w hs, Result.andThen_ok, h2, h4, Sem.run_pure]
         exact ihL fun g hg => h g (by simp [hg])
       · cases h1
    · cases h
  · rename_i q k x hu
    have := hv.int_inv; subst this
    simp [run_underlying hu]
  · rename_i b hu
    have := hv.bool_inv; subst this
    simp [run_underlying hu]
  · rename_i s hu
    have := hv.eq_of_atomic rfl; subst this
    simp [run_underlying hu]
  · cases h
def FRes (m : NMap) : Option (Nat × Value) → Option (Nat × Value) → Prop
 | none, r => r = none
 | some (i, v), r => ∃ v', r = some (i, v') ∧ VRel m v v'
theorem aEq_now {t : TypeId} {d : TypeDesc} {u v : Value} {b c : Bool} (hu : P.underlying t = some d) (h : aEq P t u v = some b) (hs : Instr.sameNow d u v = some c) : c = b := by
 have _ := TT.tt
 unfold aEq at h
 obtain ⟨os, ho, h1⟩ := option_bind_some h
 obtain ⟨n, hn, h2⟩ := option_bind_some h1
 obtain ⟨g, hg, h3⟩ := option_bind_some h2
 split at h3
 · unfold eqFlat at ho
   rw [hu] at ho
   unfold Instr.sameNow at hs
   split at hs
   · rename_i q k x k' y
     simp only at ho
     split at ho
     · cases ho
       have hag : tAgg P t = some false := by simp [tAgg, hu]
       rw [cellsOf, cellsOf, if_neg (by rw [hag]; simp), if_neg (by rw [hag]; simp)] at h3
       simp only [eqAt, eqCell, List.getElem?_cons_zero, Option.bind_some, Option.map_some] at h3
       split at h3
       · rename_i e; rw [if_pos e] at hs; simp at h3 hs; rw [← h3, ← hs]
       · cases h3
     · cases ho
   · rename_i x y
     simp only at ho
     split at ho
     · cases ho
       have hag : tAgg P t = some false := by simp [tAgg, hu]
       rw [cellsOf, cellsOf, if_neg (by rw [hag]; simp), if_neg (by rw [hag]; simp)] at h3
       simp only [eqAt, eqCell, List.getElem?_cons_zero, Option.bind_some, Option.map_some] at h3
       simp at h3 hs
       rw [← h3, ← hs]
     · cases ho
   · rename_i x y
     simp only at ho
     split at ho
     · cases ho
       have hag : tAgg P t = some false := by simp [tAgg, hu]
       rw [cellsOf, cellsOf, if_neg (by rw [hag]; simp), if_neg (by rw [hag]; simp)] at h3
       simp only [eqAt, eqCell, List.getElem?_cons_zero, Option.bind_some, Option.map_some] at h3
       simp at h3 hs
       rw [← h3, ← hs]
     · cases ho
   · cases hs
 · cases h3
theorem aEq_flat {t : TypeId} {u v u' v' : Value} {b : Bool} (hu : VRel m u u') (hv : VRel m v v') (h : aEq P t u v = some b) : u' = u ∧ v' = v := by
 unfold aEq at h
 obtain ⟨os, ho, h1⟩ := option_bind_some h
 obtain ⟨n, hn, h2⟩ := option_bind_some h1
 obtain ⟨g, hg, h3⟩ := option_bind_some h2
 split at h3
 · rename_i hc; exact ⟨flat_eq hc.1 hu, flat_eq hc.2.1 hv⟩
 · cases h3
theorem findA_sound {kt : TypeId} {k k' : Value} {es : List (Value × Value)} {es' : List MapEntry} {r : Option (Nat × Value)} (hk : VRel m k k') (hes : EsRel m es es') (hu : (P.underlying kt).isSome = true) (h : findA P kt k es 0 = some r) :
    ∃ r', (Instr.findKey kt k' es').run P w = .ok r' w ∧ FRes m r r' := by
 obtain ⟨d, hu⟩ := Option.isSome_iff_exists.1 hu
 have now : ∀ {es : List (Value × Value)} {es' : List MapEntry} {i : Nat} {r r0}, EsRel m es es' → findA P kt k es i = some r → Instr.findNow d k' es' i = some r0 → FRes m r r0 := by
  intro es es' i r r0 hes
  induction hes generalizing i with
  | nil => intro h h0; cases h; cases h0; rfl
  | cons hkk hvv _ ih =>
   intro h h0
   simp only [findA] at h
   obtain ⟨b, hb, h⟩ := option_bind_some h
   obtain ⟨e1, e2⟩ := aEq_flat hk hkk hb
   simp only [Instr.findNow] at h0
   rw [e2] at h0
   rw [e1] at h0
   split at h0
   · rename_i hs
     have := aEq_now hu hb hs
     subst this
     cases h; cases h0
     exact ⟨_, rfl, hvv⟩
   · rename_i hs
     have := aEq_now hu hb hs
     subst this
     rw [e1] at ih
     exact ih h h0
   · cases h0
 have asking : ∀ {es : List (Value × Value)} {es' : List MapEntry} {i : Nat} {r}, EsRel m es es' → findA P kt k es i = some r → ∃ r', (Instr.findAsking kt k' es' i).run P w = .ok r' w ∧ FRes m r r' := by
  intro es es' i r hes
  induction hes generalizing i with
  | nil => intro h; cases h; exact ⟨none, rfl, rfl⟩
  | cons hkk hvv _ ih =>
   intro h
   simp only [findA] at h
   obtain ⟨b, hb, h⟩ := option_bind_some h
   have hrun := aEq_run (w := w) hk hkk hb
   simp only [Instr.findAsking, Sem.run_bind, hrun, Result.andThen_ok]
   cases b with
   | true => cases h; exact ⟨_, rfl, _, rfl, hvv⟩
   | false =>
    simp only [Bool.false_eq_true, if_false]
    exact ih h
 unfold Instr.findKey
 simp only [Sem.run_bind, run_underlying hu, Result.andThen_ok]
 cases hn : Instr.findNow d k' es' 0 with
 | some r0 => exact ⟨r0, rfl, now hes h hn⟩
 | none => exact asking hes h
theorem lookupV_sound {t : TypeId} {u u' k k' v : Value} {ok : Bool} (hr : Rel P B0 m H w) (hu : VRel m u u') (hk : VRel m k k') (h : lookupV P H t u k ok = some v) :
    ∃ v', (Instr.lookup t u' k' ok).run P w = .ok v' w ∧ VRel m v v' := by
 unfold lookupV at h
 obtain ⟨ke, ht, h1⟩ := option_bind_some h
 clear h
 obtain ⟨z, hz, h2⟩ := option_bind_some h1
 clear h1
 have htu := tMap_u (k := ke.1) (e := ke.2) ht
 split at h2
 · rename_i hc
   obtain ⟨hc1, hc2, hc3⟩ := hc
   have hck : ∀ em, (Instr.checkKey em 10000 ke.1 k').run P w = .ok () w := fun em => ckV_sound 20 hk hc1 em 9980
   have fin : ∀ (r : Option (Nat × Value)) (r' : Option (Nat × Value)), FRes m r r' → (lookR z ok r) = v → ∃ v', (match r' with
       | some (_, v) => (do
        let x ← pure (v, true)
        pure (if ok then Value.tuple #[x.1, .bool x.2] else x.1) : Sem Value)
       | none => do
        let y ← zeroValue ke.2
        let x ← pure (y, false)
        pure (if ok then Value.tuple #[x.1, .bool x.2] else x.1)).run P w = .ok v' w ∧ VRel m v v' := by
    intro r r' hf hv
    subst hv
    match r, r', hf with
    | none, _, hf =>
     cases hf
     cases ok with
     | true => exact ⟨.tuple #[z, .bool false], by simp [run_zeroValue_t w hz], .tuple (.cons (.of_flat hc2) (.cons (.of_atomic rfl) .nil)) .nil⟩
     | false => exact ⟨z, by simp [run_zeroValue_t w hz], .of_flat hc2⟩
    | some (i, x), _, hf =>
     obtain ⟨x', rfl, hx⟩ := hf
     cases ok with
     | true => exact ⟨.tuple #[x', .bool true], by simp, .tuple (.cons hx (.cons (.of_atomic rfl) .nil)) .nil⟩
     | false => exact ⟨x', by simp, hx⟩
   split at h2
   · have := hu.eq_of_atomic rfl
     subst this
     cases h2
     obtain ⟨r', h3, h4⟩ := findA_sound (w := w) (es := []) (es' := []) (r := none) hk .nil hc3 rfl
     obtain ⟨v', h5, h6⟩ := fin none r' h4 rfl
     refine ⟨v', ?_, h6⟩
     simp only [Instr.lookup, Sem.run_bind, run_underlying htu, Result.andThen_ok, Sem.run_pure, hck]
     rw [h3]
     simp only [Result.andThen_ok]
     exact h5
   · rename_i i
     split at h2
     · rename_i es hi
       obtain ⟨r, hfa, h2⟩ := option_bind_some h2
       cases h2
       obtain ⟨f, hm, rfl⟩ := hu.map_inv
       obtain ⟨_, es', clock, hh, hes, _⟩ := hr.blocks i _ f hi hm
       obtain ⟨r', h3, h4⟩ := findA_sound (w := w) hk hes hc3 hfa
       obtain ⟨v', h5, h6⟩ := fin r r' h4 rfl
       refine ⟨v', ?_, h6⟩
       simp only [Instr.lookup, Sem.run_bind, run_underlying htu, Result.andThen_ok, Sem.run_pure, getObj_m hh, hck, h3]
       exact h5
     · cases h2
   · cases h2
 · cases h2
theorem s_lookup {x k : Operand} {t : TypeId} {ok : Bool} {v : Value} {dst : Option Tmp} {ty : TypeId} {pos : String} {aft : Array Edge} {gd : Option (Nat × Bool)} (hr : Rel P B0 m H w) (ha : ARel m a a') (h : aPure P (a.eval P) H (.lookup t x k ok) = some v) : Gives P m a' ⟨dst, .lookup t x k ok, ty, pos, aft, gd⟩ v w := by
 simp only [aPure] at h
 obtain ⟨u, hu, h⟩ := option_bind_some h
 obtain ⟨y, hy, h⟩ := option_bind_some h
 obtain ⟨v', h1, h2⟩ := lookupV_sound hr (eval_sound hr ha hu) (eval_sound hr ha hy) h
 exact ⟨v', by simp [execOp, h1], h2⟩
theorem esRel_set {es : List (Value × Value)} {es' : List MapEntry} {i : Nat} {k v k' v' : Value} (h : EsRel m es es') (hk : VRel m k k') (hv : VRel m v v') : EsRel m (es.set i (k, v)) (es'.modify i fun e => { e with key := k', val := v' }) := by
 have _ := TT.tt
 induction h generalizing i with
 | nil => cases i <;> exact .nil
 | cons h1 h2 h3 ih =>
  cases i with
  | zero => exact .cons hk hv h3
  | succ i => exact .cons h1 h2 ih
theorem esRel_push {es : List (Value × Value)} {es' : List MapEntry} {k v : Value} {e : MapEntry} (h : EsRel m es es') (hk : VRel m k e.key) (hv : VRel m v e.val) : EsRel m (es ++ [(k, v)]) (es' ++ [e]) := by
 have _ := TT.tt
 induction h with
 | nil => exact .cons hk hv .nil
 | cons h1 h2 _ ih => exact .cons h1 h2 ih
theorem esRel_get {es : List (Value × Value)} {es' : List MapEntry} {i : Nat} {e : Value × Value} (h : EsRel m es es') (hi : es[i]? = some e) : ∃ e', es'[i]? = some e' ∧ VRel m e.1 e'.key := by
 have _ := TT.tt
 induction h generalizing i with
 | nil => simp at hi
 | cons h1 h2 _ ih =>
  cases i with
  | zero => simp at hi; subst hi; exact ⟨_, rfl, h1⟩
  | succ i => simpa using ih (by simpa using hi)
theorem born_push {es' : Array MapEntry} {clock : Nat} {k' v' : Value} (hcl : clock = es'.size) (hb : ∀ (j : Nat) e, es'[j]? = some e → e.born = j) :
    clock + 1 = (es'.push { key := k', val := v', born := clock }).size ∧ ∀ (j : Nat) e, (es'.push { key := k', val := v', born := clock })[j]? = some e → e.born = j := by
 have _ := TT.tt
 refine ⟨by simp [hcl], fun j e he => ?_⟩
 rw [Array.getElem?_push] at he
 split at he
 · rename_i hj
   cases he
   simp only [hcl, hj]
 · exact hb j e he
theorem born_set {es' : Array MapEntry} {clock i : Nat} {k' v' : Value} (hcl : clock = es'.size) (hb : ∀ (j : Nat) e, es'[j]? = some e → e.born = j) :
    clock = (es'.modify i fun e => { e with key := k', val := v' }).size ∧ ∀ (j : Nat) e, (es'.modify i fun e => { e with key := k', val := v' })[j]? = some e → e.born = j := by
 have _ := TT.tt
 refine ⟨by simp [hcl], fun j e he => ?_⟩
 rw [Array.getElem?_modify] at he
 split at he
 · cases hx : es'[j]? with
   | none => rw [hx] at he; cases he
   | some y =>
    rw [hx] at he
    cases he
    exact hb j y hx
 · exact hb j e he
theorem mapSet_sound {t : TypeId} {u u' k k' v v' : Value} {i : Nat} {b : ABlk} (hr : Rel P B0 m H w) (hu : VRel m u u') (hk : VRel m k k') (hv : VRel m v v') (h : mapSet P H t u k v = some (i, b)) :
    ∃ w', (Instr.mapUpdate t u' k' v').run P w = .ok () w' ∧ Keep B0 w w' ∧ Rel P B0 m (upd H i b) w' := by
 unfold mapSet at h
 obtain ⟨ke, ht, h1⟩ := option_bind_some h
 clear h
 have htu := tMap_u (k := ke.1) (e := ke.2) ht
 split at h1
 · rename_i hc
   obtain ⟨hc1, hc3⟩ := hc
   have hck : ∀ em, (Instr.checkKey em 10000 ke.1 k').run P w = .ok () w := fun em => ckV_sound 20 hk hc1 em 9980
   split at h1
   · rename_i i0
     split at h1
     · rename_i es hi
       obtain ⟨r, hfa, h1⟩ := option_bind_some h1
       obtain ⟨f, hm, rfl⟩ := hu.map_inv
       obtain ⟨hB, es', clock, hh, hes, hcl, hborn⟩ := hr.blocks i0 _ f hi hm
       obtain ⟨r', h3, h4⟩ := findA_sound (w := w) hk hes hc3 hfa
       have hset : ∀ (es2 : List (Value × Value)) (es2' : Array MapEntry) (clock2 : Nat), EsRel m es2 es2'.toList → (clock2 = es2'.size ∧ ∀ (j : Nat) e, es2'[j]? = some e → e.born = j) → Keep B0 w { w with heap := w.heap.setIfInBounds f.blk (.map es2' clock2) } ∧ Rel P B0 m (upd H i0 (.map es2)) { w with heap := w.heap.setIfInBounds f.blk (.map es2' clock2) } := by
        intro es2 es2' clock2 he hrest
        refine ⟨⟨rfl, rfl, rfl, by simp, fun j hj => ?_⟩, ?_⟩
        · have hne : f.blk ≠ j := fun e => hB (e ▸ hj)
          simp [hne]
        · refine hr.put hi hm rfl (by simp) (fun k hk _ => by simp [Ne.symm hk]) ⟨hB, es2', clock2, by simp [(Array.getElem?_eq_some_iff.1 hh).1], he, hrest⟩
       match r, r', h4 with
       | none, _, h4 =>
        cases h4
        cases h1
        obtain ⟨p1, p2⟩ := hset (es ++ [(k, v)]) (es'.push { key := k', val := v', born := clock }) (clock + 1) (by rw [Array.toList_push]; exact esRel_push hes hk hv) (born_push hcl hborn)
        exact ⟨_, by simp only [Instr.mapUpdate, Sem.run_bind, run_underlying htu, Result.andThen_ok, getObj_m hh, hck, h3, setObj_m _ hh], p1, p2⟩
       | some (j, x), _, h4 =>
        obtain ⟨x', rfl, hx⟩ := h4
        simp only at h1
        split at h1
        · rename_i e he
          split at h1
          · rename_i hsb
            cases h1
            obtain ⟨hsb1, hsb2⟩ := hsb
            obtain ⟨e', he', hke⟩ := esRel_get hes he
            have q1 : e'.key = e.1 := flat_eq hsb1.1 hke
            have q2 : k' = k := flat_eq hsb1.2 hk
            have he2 : es'[j]? = some e' := by simpa using he'
            have hstay : (Instr.keyThatStays (((es'[j]?).map (·.key)).getD k') k').run P w = .ok k' w := by
             rw [he2]
             simp only [Option.map_some, Option.getD_some, q1, q2, Instr.keyThatStays, hsb2, if_true, Sem.run_pure]
            obtain ⟨p1, p2⟩ := hset (es.set j (k, v)) (es'.modify j fun e => { e with key := k', val := v' }) clock (by rw [Array.toList_modify]; exact esRel_set hes hk hv) (born_set hcl hborn)
            exact ⟨_, by simp only [Instr.mapUpdate, Sem.run_bind, run_underlying htu, Result.andThen_ok, getObj_m hh, hck, h3, hstay, setObj_m _ hh], p1, p2⟩
          · cases h1
        · cases h1
     · cases h1
   · cases h1
 · cases h1
end
end Go.Ab
namespace Go.Ab
open Go Go.RowKit
section
variable [TT] {P : Program} {B0 : Prot} {m : NMap} {H : AHeap} {w : World} {a : AAct} {a' : Act}
variable {v : Value} {dst : Option Tmp} {ty : TypeId} {pos : String} {aft : Array Edge} {gd : Option (Nat × Bool)}
theorem tIface_u {t : TypeId} {b : Bool} (h : tIface P t = some b) : ∃ d, P.underlying t = some d ∧ b = (match d with | .interface _ => true | _ => false) := by
 have _ := TT.tt
 unfold tIface at h
 cases hu : P.underlying t with
 | none => rw [hu] at h; cases h
 | some d => rw [hu] at h; simp at h; exact ⟨d, rfl, h.symm⟩
theorem s_typeAssert {x : Operand} {xt asserted : TypeId} {ok : Bool} (hr : Rel P B0 m H w) (ha : ARel m a a') (h : aPure P (a.eval P) H (.typeAssert x xt asserted ok) = some v) : Gives P m a' ⟨dst, .typeAssert x xt asserted ok, ty, pos, aft, gd⟩ v w := by
 simp only [aPure] at h
 split at h
 · rename_i t u hx hi
   obtain ⟨u', hx', hu⟩ := (eval_sound hr ha hx).iface_inv
   obtain ⟨d, hd, hb⟩ := tIface_u hi
   have key : ∀ (K : Sem Value), (Instr.typeAssert (.iface t u') xt asserted ok) = (do
       match ← underlying asserted, Value.iface t u' with
       | _, _ => K) → True := fun _ _ => trivial
   by_cases et : t = asserted
   · subst et
     rw [if_pos rfl] at h
     cases h
     cases ok with
     | true =>
      refine ⟨.tuple #[u', .bool true], ?_, .tuple (.cons hu (.atom rfl .nil)) .nil⟩
      cases d <;> simp at hb <;> simp [execOp, hx', Instr.typeAssert, run_underlying hd]
     | false =>
      refine ⟨u', ?_, by simpa using hu⟩
      cases d <;> simp at hb <;> simp [execOp, hx', Instr.typeAssert, run_underlying hd]
   · rw [if_neg et] at h
     cases ok with
     | false => simp at h
     | true =>
      simp only [if_true] at h
      obtain ⟨z, hz, h⟩ := option_bind_some h
      split at h
      · rename_i hf
        cases h
        refine ⟨.tuple #[z, .bool false], ?_, .tuple (.cons (.of_flat hf) (.atom rfl .nil)) .nil⟩
        cases d <;> simp at hb <;> simp [execOp, hx', Instr.typeAssert, run_underlying hd, et, run_zeroValue_t w hz]
      · cases h
 · rename_i b hx hi
   have hx' := (eval_sound hr ha hx).eq_of_atomic rfl
   obtain ⟨d, hd, hb⟩ := tIface_u hi
   cases ok with
   | false => simp at h
   | true =>
    simp only [if_true] at h
    obtain ⟨z, hz, h⟩ := option_bind_some h
    split at h
    · rename_i hf
      cases h
      refine ⟨.tuple #[z, .bool false], ?_, .tuple (.cons (.of_flat hf) (.atom rfl .nil)) .nil⟩
      cases d <;> simp [execOp, hx', Instr.typeAssert, run_underlying hd, run_zeroValue_t w hz]
    · cases h
 · cases h
theorem mapM_places {fields : Array Field} (h : fields.all (fun f => (tSize P f.type).isSome) = true) :
    (fields.mapM (fun f => do pure (f.offset, ← sizeOf f.type) : Field → Sem (Nat × Nat))).run P w = .ok (fields.map fun f => (f.offset, (tSize P f.type).getD 0)) w := by
 obtain ⟨l⟩ := fields
 have hl : ∀ f ∈ l, (tSize P f.type).isSome = true := by simpa using h
 clear h
 rw [Array.mapM_eq_mapM_toList]
 have key : ((l.mapM (fun f => do pure (f.offset, ← sizeOf f.type) : Field → Sem (Nat × Nat))) : Sem (List (Nat × Nat))).run P w = .ok (l.map fun f => (f.offset, (tSize P f.type).getD 0)) w := by
  induction l with
  | nil => simp
  | cons f l ih =>
   have hf := hl f (by simp)
   obtain ⟨s, hs⟩ := Option.isSome_iff_exists.1 hf
   have ih' := ih fun g hg => hl g (by simp [hg])
   simp only [List.mapM_cons, Sem.run_bind, run_sizeOf_t w hs, Result.andThen_ok, Sem.run_pure, ih', List.map_cons, hs, Option.getD_some]
 simp only [Sem.run_map, key, Result.andThen_ok]
 simp
theorem s_build {t : TypeId} {parts : Array (Nat × Operand)} (hr : Rel P B0 m H w) (ha : ARel m a a') (h : aPure P (a.eval P) H (.build t parts) = some v) : Gives P m a' ⟨dst, .build t parts, ty, pos, aft, gd⟩ v w := by
 simp only [aPure] at h
 obtain ⟨z, hz, h⟩ := option_bind_some h
 obtain ⟨ps, hps, h⟩ := option_bind_some h
 obtain ⟨ps', e1, hn, hv⟩ := evps_sound hr ha hps
 have ep : (parts.map fun (i, x) => (i, a'.eval x)).toList = ps' := by rw [← e1]; simp
 split at h
 · rename_i hf
   have hzc := (VRel.of_flat (m := m) hf).cells
   split at h
   · rename_i fields hu
     obtain ⟨cs, hcs, h⟩ := option_bind_some h
     split at h
     · rename_i hall
       cases h
       obtain ⟨r', h1, h2⟩ := fillV_sound hn hv hzc hcs
       refine ⟨.agg ⟨r'⟩, ?_, .agg h2 .nil⟩
       have h3 : Instr.fill (fun i => (fields.map fun f => (f.offset, (tSize P f.type).getD 0))[i]?) z.cells ps' = some ⟨r'⟩ := by
        rw [← h1]
        congr 1
        funext i
        simp only [Array.getElem?_map]
        cases hfi : fields[i]? with
        | none => rfl
        | some f =>
         have : (tSize P f.type).isSome = true := by
          have := Array.all_eq_true'.1 hall f (Array.mem_of_getElem? hfi)
          exact this
         obtain ⟨s, hs⟩ := Option.isSome_iff_exists.1 this
         simp [hs]
       simp only [execOp, Instr.build, Sem.run_bind, run_zeroValue_t w hz, Result.andThen_ok, run_underlying hu, mapM_places hall, Sem.run_pure, ep]
       rw [h3]
       rfl
     · cases h
   · rename_i len e hu
     obtain ⟨s, hs, h⟩ := option_bind_some h
     cases hcs : fillV (fun i => some (i * s, s)) z.cells.toList ps with
     | none => rw [hcs] at h; cases h
     | some cs =>
      rw [hcs] at h
      cases h
      obtain ⟨r', h1, h2⟩ := fillV_sound hn hv hzc hcs
      refine ⟨.agg ⟨r'⟩, ?_, .agg h2 .nil⟩
      simp only [execOp, Instr.build, Sem.run_bind, run_zeroValue_t w hz, Result.andThen_ok, run_underlying hu, run_sizeOf_t w hs, Sem.run_pure, ep]
      have h3 : Instr.fill (fun i => some (i * s, s)) z.cells ps' = some ⟨r'⟩ := h1
      rw [h3]
      rfl
   · cases h
 · cases h
theorem EsRel.length {es : List (Value × Value)} {es' : List MapEntry} (h : EsRel m es es') : es'.length = es.length := by have _ := TT.tt; induction h <;> simp_all
theorem s_call {c : Call} (hr : Rel P B0 m H w) (ha : ARel m a a') (h : aPure P (a.eval P) H (.call c) = some v) : Gives P m a' ⟨dst, .call c, ty, pos, aft, gd⟩ v w := by
 obtain ⟨callee, ⟨args⟩, ⟨argTypes⟩⟩ := c
 simp only [aPure] at h
 split at h
 · -- len
   split at h
   · rename_i x t
     have goal : ∀ (u' : Value) (n : Int), a'.eval x = u' → (Builtin.len_ #[t] ty #[u']).run P w = .ok (.int .i64 n) w → Gives P m a' ⟨dst, .call ⟨.builtin .len, ⟨[x]⟩, ⟨[t]⟩⟩, ty, pos, aft, gd⟩ (.int .i64 n) w := by
      intro u' n hu hl
      subst hu
      refine ⟨.int .i64 n, ?_, .of_atomic rfl⟩
      simp only [execOp, resolve, Sem.run_bind, Sem.run_pure, Result.andThen_ok, invoke, builtin]
      have : (⟨[x]⟩ : Array Operand).map a'.eval = #[a'.eval x] := by simp
      rw [this, hl]
      rfl
     split at h
     · rename_i ad n c hv
       split at h
       · rename_i hs
         cases h
         obtain ⟨e, he⟩ := Option.isSome_iff_exists.1 hs
         have hvr := eval_sound hr ha hv
         cases hvr' : a'.eval x with
         | slice ad' n' c' =>
          rw [hvr'] at hvr
          have en : n' = n := by cases hvr <;> rfl
          subst en
          exact goal _ _ hvr' (by simp [Builtin.len_, run_underlying (tSlice_u he), goInt])
         | _ => rw [hvr'] at hvr; cases hvr
       · cases h
     · rename_i s hv
       split at h
       · rename_i hs
         cases h
         exact goal _ _ ((eval_sound hr ha hv).eq_of_atomic rfl) (by simp [Builtin.len_, run_underlying (tStr_u hs), goInt])
       · cases h
     · rename_i hv
       split at h
       · rename_i hs
         cases h
         obtain ⟨e, he⟩ := Option.isSome_iff_exists.1 hs
         exact goal _ _ ((eval_sound hr ha hv).eq_of_atomic rfl) (by simp [Builtin.len_, run_underlying (tMap_u (k := e.1) (e := e.2) he), goInt])
       · cases h
     · rename_i i hv
       split at h
       · rename_i hs
         obtain ⟨e, he⟩ := Option.isSome_iff_exists.1 hs
         split at h
         · rename_i es hi
           cases h
           obtain ⟨f, hm, hx'⟩ := (eval_sound hr ha hv).map_inv
           obtain ⟨_, es', clock, hh, hes, _⟩ := hr.blocks i _ f hi hm
           refine goal _ _ hx' ?_
           have hl := hes.length
           simp only [Array.length_toList] at hl
           simp [Builtin.len_, run_underlying (tMap_u (k := e.1) (e := e.2) he), getObj, Sem.run, hh, goInt, hl]
         · cases h
       · cases h
     · rename_i cs hv
       cases hs : tArr P t with
       | none => rw [hs] at h; cases h
       | some ne =>
        rw [hs] at h
        cases h
        obtain ⟨cs', hx', _⟩ := (VRel.agg_inv (cs := cs.toList) (eval_sound hr ha hv))
        exact goal _ _ hx' (by simp [Builtin.len_, run_underlying (tArr_u (n := ne.1) (e := ne.2) hs), goInt])
     · cases h
   · cases h
 · -- min
   split at h
   · rename_i x y
     split at h
     · rename_i k p k' q hp hq
       cases h
       have e1 := (eval_sound hr ha hp).int_inv
       have e2 := (eval_sound hr ha hq).int_inv
       exact ⟨_, by simp [execOp, resolve, invoke, builtin, Builtin.min_, Builtin.min2, e1, e2], .of_atomic rfl⟩
     · cases h
   · cases h
 · -- max
   split at h
   · rename_i x y
     split at h
     · rename_i k p k' q hp hq
       cases h
       have e1 := (eval_sound hr ha hp).int_inv
       have e2 := (eval_sound hr ha hq).int_inv
       exact ⟨_, by simp [execOp, resolve, invoke, builtin, Builtin.max_, Builtin.max2, e1, e2], .of_atomic rfl⟩
     · cases h
   · rename_i x y z
     split at h
     · rename_i k p k' q k2 q2 hp hq hz
       cases h
       have e1 := (eval_sound hr ha hp).int_inv
       have e2 := (eval_sound hr ha hq).int_inv
       have e3 := (eval_sound hr ha hz).int_inv
       exact ⟨_, by simp [execOp, resolve, invoke, builtin, Builtin.max_, Builtin.max2, e1, e2, e3], .of_atomic rfl⟩
     · cases h
   · cases h
 · cases h
theorem aPure_sound {o : Oper} (hr : Rel P B0 m H w) (ha : ARel m a a') (h : aPure P (a.eval P) H o.op = some v) : Gives P m a' o v w := by
 obtain ⟨dst, op, ty, pos, aft, gd⟩ := o
 simp only at h
 cases op with
 | move x => exact (s_move hr ha h).1
 | assign x => exact (s_move hr ha h).2
 | pick c x y => exact s_pick hr ha h
 | load t x => exact s_load hr ha h
 | nilCheck x => exact s_nilCheck hr ha h
 | binOp op t x y yt => exact s_binOp hr ha h
 | unOp op t x => exact s_unOp hr ha h
 | convert s d x => exact s_convert hr ha h
 | makeInterface t x => exact s_makeInterface hr ha h
 | makeFunc fn f c => exact s_makeFunc hr ha h
 | fieldAddr s x f => exact s_fieldAddr hr ha h
 | field s x f => exact s_field hr ha h
 | indexAddr t x i => exact s_indexAddr hr ha h
 | index t x i => exact s_index hr ha h
 | extract x i => exact s_extract hr ha h
 | lookup t x k ok => exact s_lookup hr ha h
 | typeAssert x xt t ok => exact s_typeAssert hr ha h
 | slice t x lo hi mx =>
  cases mx with
  | none => exact s_slice hr ha h
  | some _ => cases hi with
   | none => simp [aPure] at h
   | some _ => exact s_sliceMax hr ha h
 | build t ps => exact s_build hr ha h
 | call c => exact s_call hr ha h
 | _ => simp [aPure] at h
end
end Go.Ab
namespace Go.Ab
open Go Go.RowKit
def tBytes (P : Program) (t : TypeId) : Option Nat := (P.info? t).map (·.bytes)
def zCells (z : List Value) (n : Nat) : List Value := (List.range n).map fun i => (z[i % z.length]?).getD undef
def aAlloc (P : Program) (ρ : Operand → Option Value) : Op → Option (ABlk × (Nat → Value))
 | .alloc t => (tZero P t).bind fun z => if flat z then some (.cells z.cells.toList t .var, fun i => .pointer (some ⟨i, 0, none⟩)) else none
 | .box t x => (ρ x).map fun v => (.cells v.cells.toList t .var, fun i => .pointer (some ⟨i, 0, none⟩))
 | .buildSlice t len parts =>
  (tSlice P t).bind fun e => (tSize P e).bind fun s => (tZero P e).bind fun z => (evps ρ parts.toList).bind fun ps =>
   if len * s ≤ 2 ^ 24 ∧ z.cells.toList.all atomic ∧ z.cells.size = s then
    (fillV (fun i => some (i * s, s)) (zCells z.cells.toList (len * s)) ps).map fun cs => (.cells cs e .row, fun i => .slice (some ⟨i, 0, none⟩) len len)
   else none
 | .makeSlice t l c =>
  (tSlice P t).bind fun e => (tSize P e).bind fun s => (tZero P e).bind fun z => (tBytes P e).bind fun by_ =>
   match ρ l, ρ c with
   | some (.int _ l), some (.int _ c) =>
    if 0 ≤ l ∧ l ≤ c ∧ c ≤ 2 ^ 40 ∧ by_ * c ≤ 2 ^ 48 ∧ z.cells.toList.all atomic ∧ z.cells.size = s then
     some (.cells (zCells z.cells.toList (c.toNat * s)) e .row, fun i => .slice (some ⟨i, 0, none⟩) l.toNat c.toNat)
    else none
   | _, _ => none
 | .makeMap t none => if (tMap P t).isSome then some (.map [], fun i => .map (some i)) else none
 | .makeMap t (some x) => match ρ x with
  | some (.int _ _) => if (tMap P t).isSome then some (.map [], fun i => .map (some i)) else none
  | _ => none
 | _ => none
section
variable [TT] {P : Program} {B0 : Prot} {m : NMap} {H : AHeap} {w w' : World} {a : AAct} {a' : Act}
theorem zCells_rel {z : List Value} {n : Nat} (hz : ∀ v ∈ z, atomic v = true) : VsRel m (zCells z n) (zCells z n) := by
 have _ := TT.tt
 have key : ∀ k, k < n → VRel m ((z[k % z.length]?).getD undef) ((z[k % z.length]?).getD undef) := by
  intro k _
  cases h : z[k % z.length]? with
  | none => exact .tuple .nil .nil
  | some v => exact .of_atomic (hz v (List.mem_of_getElem? h))
 refine .of_get rfl fun j v hj => ⟨v, hj, ?_⟩
 simp only [zCells] at hj
 rw [List.getElem?_map] at hj
 cases hr : (List.range n)[j]? with
 | none => rw [hr] at hj; cases hj
 | some k =>
  rw [hr] at hj
  cases hj
  have := List.mem_of_getElem? hr
  exact key k (by simpa using this)
theorem zCells_eq {z : Array Value} {n : Nat} (h : n = 0 ∨ 0 < z.size) : ((Array.range n).map fun i => z[i % z.size]!).toList = zCells z.toList n := by
 have _ := TT.tt
 simp only [zCells, Array.toList_map, Array.toList_range, Array.length_toList]
 apply List.map_congr_left
 intro i hi
 have hn : 0 < z.size := by
  rcases h with h | h
  · subst h; simp at hi
  · exact h
 have hlt : i % z.size < z.size := Nat.mod_lt _ hn
 simp [hlt]
theorem Rel.add (h : Rel P B0 m H w) {j : Nat} (hm : m j = none) (hH : H j = none) (b : ABlk) (f : BInfo) (hsize : w.heap.size ≤ w'.heap.size)
    (hoth : ∀ k, k ≠ f.blk → k < w.heap.size → w'.heap[k]? = w.heap[k]?) (hnone : ∀ i c g, c ≠ .dead → H i = some c → m i = some g → g.blk ≠ f.blk) (hb : BlkRel P B0 m w' b f) :
    Rel P B0 (nset m j f) (upd H j b) w' where
 blocks i c g hi hg := by
  by_cases e : i = j
  · subst e
    simp [nset] at hg; simp at hi
    subst hg; subst hi
    exact hb.mono (nset_le hm)
  · rw [upd_other _ _ _ _ e] at hi
    simp [nset, e] at hg
    have h0 := h.blocks i c g hi hg
    exact (h0.heap fun hd => hoth _ (hnone i c g hd hi hg) (h0.lt hd)).mono (nset_le hm)
 tot ht i hi := by
  by_cases e : i = j
  · subst e; simp at hi
  · rw [upd_other _ _ _ _ e] at hi
    simp [nset, e, h.tot ht i hi]
 inj i k c d g g' hik hi hk hci hck hgi hgk := by
  by_cases e : i = j
  · subst e
    have ek : k ≠ i := Ne.symm hik
    simp [nset] at hgi; subst hgi
    rw [upd_other _ _ _ _ ek] at hk
    simp [nset, ek] at hgk
    exact Ne.symm (hnone k d g' (ABlk.own_dead hck) hk hgk)
  · by_cases e' : k = j
    · subst e'
      simp [nset] at hgk; subst hgk
      rw [upd_other _ _ _ _ e] at hi
      simp [nset, e] at hgi
      exact hnone i c g (ABlk.own_dead hci) hi hgi
    · rw [upd_other _ _ _ _ e] at hi
      rw [upd_other _ _ _ _ e'] at hk
      simp [nset, e] at hgi
      simp [nset, e'] at hgk
      exact h.inj i k c d g g' hik hi hk hci hck hgi hgk
 fin := by
  obtain ⟨N, hN⟩ := h.fin
  refine ⟨max N (j + 1), fun i hi => ?_⟩
  have h1 : i ≠ j := by omega
  exact ⟨by simp [nset, h1, (hN i (by omega)).1], by rw [upd_other _ _ _ _ h1]; exact (hN i (by omega)).2⟩
 base := fun k hk => Nat.lt_of_lt_of_le (h.base k hk) hsize
 glob g hg := nset_le hm _ _ (h.glob g hg)
theorem Rel.alloc_cells (h : Rel P B0 m H w) {i : Nat} (hm : m i = none) (hH : H i = none) {cs cs' : List Value} {e : TypeId} {k : BKind} (hk : k ≠ .ro) (hc : VsRel m cs cs') :
    Rel P B0 (nset m i ⟨w.heap.size, 0, 0⟩) (upd H i (.cells cs e k)) (w.alloc (.cells ⟨cs'⟩ e)) := by
 refine h.alloc hm hH _ _ ⟨w.heap.size, 0, 0⟩ rfl ⟨⟨cs'⟩, e, (0, 0), ?_, fun j v hj => ?_, fun _ => ⟨rfl, rfl, h.newb, rfl, ?_⟩, fun hr => absurd hr hk, fun _ => rfl⟩
 · exact Go.heap_alloc_new w _
 · obtain ⟨v', h1, h2⟩ := hc.get hj
   exact ⟨v', by simpa using h1, h2⟩
 · have := hc.length; simp [this]
theorem aAlloc_sound {o : Oper} {b : ABlk} {mk : Nat → Value} (hr : Rel P B0 m H w) (ha : ARel m a a') (h : aAlloc P (a.eval P) o.op = some (b, mk)) {i : Nat} (hm : m i = none) (hH : H i = none) :
    ∃ v' ob f, (execOp a'.eval o).run P w = .ok (.value v') (w.alloc ob) ∧ Rel P B0 (nset m i f) (upd H i b) (w.alloc ob) ∧ VRel (nset m i f) (mk i) v' := by
 obtain ⟨dst, op, ty, pos, aft, gd⟩ := o
 simp only at h
 have hni : (nset m i ⟨w.heap.size, 0, 0⟩) i = some ⟨w.heap.size, 0, 0⟩ := by simp [nset]
 have hptr : VRel (nset m i ⟨w.heap.size, 0, 0⟩) (.pointer (some ⟨i, 0, none⟩)) (.pointer (some ⟨w.heap.size, 0, none⟩)) := by
  have := VsRel.ptr (m := nset m i ⟨w.heap.size, 0, 0⟩) (o := 0) hni .nil
  exact this
 have hsl : ∀ n c, n ≤ c → VRel (nset m i ⟨w.heap.size, 0, 0⟩) (.slice (some ⟨i, 0, none⟩) n c) (.slice (some ⟨w.heap.size, 0, none⟩) n c) := by
  intro n c hnc
  have := VsRel.slice (m := nset m i ⟨w.heap.size, 0, 0⟩) (o := 0) (a := ⟨w.heap.size, 0, none⟩) hni hnc (fun _ => rfl) .nil
  exact this
 cases op with
 | alloc t =>
  simp only [aAlloc] at h
  obtain ⟨z, hz, h⟩ := option_bind_some h
  split at h
  · rename_i hf
    cases h
    refine ⟨.pointer (some ⟨w.heap.size, 0, none⟩), .cells ⟨z.cells.toList⟩ t, ⟨w.heap.size, 0, 0⟩, ?_, hr.alloc_cells hm hH (by simp) (VRel.of_flat hf).cells, hptr⟩
    simp only [execOp, Instr.alloc, Sem.run_bind, run_zeroValue_t w hz, Result.andThen_ok, newVar, newRow, run_newObj, Sem.run_pure]
    rfl
  · cases h
 | box t x =>
  simp only [aAlloc] at h
  cases hx : a.eval P x with
  | none => rw [hx] at h; cases h
  | some v =>
   rw [hx] at h
   cases h
   have hv := eval_sound hr ha hx
   refine ⟨.pointer (some ⟨w.heap.size, 0, none⟩), .cells ⟨(a'.eval x).cells.toList⟩ t, ⟨w.heap.size, 0, 0⟩, ?_, hr.alloc_cells hm hH (by simp) hv.cells, hptr⟩
   simp only [execOp, Instr.box, Sem.run_bind, Result.andThen_ok, newVar, newRow, run_newObj, Sem.run_pure]
   rfl
 | buildSlice t len parts =>
  simp only [aAlloc] at h
  obtain ⟨e, he, h⟩ := option_bind_some h
  obtain ⟨s, hs, h⟩ := option_bind_some h
  obtain ⟨z, hz, h⟩ := option_bind_some h
  obtain ⟨ps, hps, h⟩ := option_bind_some h
  split at h
  · rename_i hb
    obtain ⟨hb1, hb2, hb3⟩ := hb
    cases hcs : fillV (fun i => some (i * s, s)) (zCells z.cells.toList (len * s)) ps with
    | none => rw [hcs] at h; cases h
    | some cs =>
     rw [hcs] at h
     cases h
     obtain ⟨ps', e1, hn, hv⟩ := evps_sound hr ha hps
     have ep : (parts.map fun (i, x) => (i, a'.eval x)).toList = ps' := by rw [← e1]; simp
     have hat : ∀ v ∈ z.cells.toList, atomic v = true := fun v hv => List.all_eq_true.1 hb2 v hv
     obtain ⟨r', h1, h2⟩ := fillV_sound hn hv (zCells_rel (m := m) (n := len * s) hat) hcs
     refine ⟨.slice (some ⟨w.heap.size, 0, none⟩) len len, .cells ⟨r'⟩ e, ⟨w.heap.size, 0, 0⟩, ?_, hr.alloc_cells hm hH (by simp) h2, hsl _ _ (Nat.le_refl _)⟩
     have hzc : (⟨zCells z.cells.toList (len * s)⟩ : Array Value) = (Array.range (len * s)).map fun i => (if len * s = 0 then #[] else z.cells)[i % (if len * s = 0 then #[] else z.cells).size]! := by
      apply Array.ext'
      by_cases h0 : len * s = 0
      · simp [h0, zCells]
      · rw [← zCells_eq (.inr (by rw [hb3]; exact Nat.pos_of_ne_zero fun e => h0 (by rw [e]; simp)))]
        simp [h0]
     rw [hzc] at h1
     have hlen : ¬ len * s > 2 ^ 24 := by omega
     by_cases h0 : len * s = 0
     · simp only [h0, if_true] at h1
       simp only [execOp, Instr.buildSlice, Sem.run_bind, run_underlying (tSlice_u he), Result.andThen_ok, run_sizeOf_t w hs, h0, if_true, Sem.run_pure, ep, h1, newRow, run_newObj, Sem.run_ite]
       rfl
     · simp only [h0, if_false] at h1
       simp only [execOp, Instr.buildSlice, Sem.run_bind, run_underlying (tSlice_u he), Result.andThen_ok, run_sizeOf_t w hs, if_neg hlen, h0, if_false, run_zeroValue_t w hz, Sem.run_pure, ep, h1, newRow, run_newObj, Sem.run_ite]
       rfl
  · cases h
 | makeSlice t l c =>
  simp only [aAlloc] at h
  obtain ⟨e, he, h⟩ := option_bind_some h
  obtain ⟨s, hs, h⟩ := option_bind_some h
  obtain ⟨z, hz, h⟩ := option_bind_some h
  obtain ⟨by_, hby, h⟩ := option_bind_some h
  split at h
  · rename_i k1 lv k2 cv hl hc
    split at h
    · rename_i hb
      obtain ⟨hb1, hb2, hb3, hb4, hb5, hb6⟩ := hb
      cases h
      have el := (eval_sound hr ha hl).int_inv
      have ec := (eval_sound hr ha hc).int_inv
      have hat : ∀ v ∈ z.cells.toList, atomic v = true := fun v hv => List.all_eq_true.1 hb5 v hv
      refine ⟨.slice (some ⟨w.heap.size, 0, none⟩) lv.toNat cv.toNat, .cells ⟨zCells z.cells.toList (cv.toNat * s)⟩ e, ⟨w.heap.size, 0, 0⟩, ?_, hr.alloc_cells hm hH (by simp) (zCells_rel hat), hsl _ _ (by omega)⟩
      have wl : IntKind.i64.wrap lv = lv := IntWalk.i64_in _ (by omega)
      have wc : IntKind.i64.wrap cv = cv := IntWalk.i64_in _ (by omega)
      have hin : ∃ inf, P.info? e = some inf ∧ inf.bytes = by_ := by
       unfold tBytes at hby
       cases hi : P.info? e with
       | none => rw [hi] at hby; cases hby
       | some inf => rw [hi] at hby; simp at hby; exact ⟨inf, rfl, hby⟩
      obtain ⟨inf, hinf, hib⟩ := hin
      have hzc : (⟨zCells z.cells.toList (cv.toNat * s)⟩ : Array Value) = (Array.range (cv.toNat * s)).map fun i => (if cv.toNat * s = 0 then #[] else z.cells)[i % (if cv.toNat * s = 0 then #[] else z.cells).size]! := by
       apply Array.ext'
       by_cases h0 : cv.toNat * s = 0
       · simp [h0, zCells]
       · rw [← zCells_eq (.inr (by rw [hb6]; exact Nat.pos_of_ne_zero fun e => h0 (by rw [e]; simp)))]
         simp [h0]
      have t1 : (decide (cv < 0) || decide ((by_ : Int) * cv > 2 ^ 48)) = false := by simp; omega
      have t2 : decide (lv < 0) = false := by simp; omega
      have t3 : decide (lv > cv) = false := by simp; omega
      rw [hzc]
      by_cases h0 : cv.toNat * s = 0
      · simp only [execOp, Instr.makeSlice, Sem.run_bind, run_underlying (tSlice_u he), Result.andThen_ok, asInt, el, ec, asIntOf, Sem.run_pure, typeInfo, run_program, hinf, hib, wl, wc, t1, t2, t3, Bool.or_false, Bool.false_eq_true, if_false, run_askRoom, run_sizeOf_t w hs, h0, if_true, newRow, run_newObj, Sem.run_ite]
        rfl
      · simp only [execOp, Instr.makeSlice, Sem.run_bind, run_underlying (tSlice_u he), Result.andThen_ok, asInt, el, ec, asIntOf, Sem.run_pure, typeInfo, run_program, hinf, hib, wl, wc, t1, t2, t3, Bool.or_false, Bool.false_eq_true, if_false, run_askRoom, run_sizeOf_t w hs, h0, run_zeroValue_t w hz, newRow, run_newObj, Sem.run_ite]
        rfl
    · cases h
  · cases h
 | makeMap t r =>
  cases r with
  | some x =>
   simp only [aAlloc] at h
   split at h
   · rename_i k n hx
     split at h
     · rename_i ht
       cases h
       obtain ⟨⟨k1, e1⟩, he⟩ := Option.isSome_iff_exists.1 ht
       have ex := (eval_sound hr ha hx).int_inv
       refine ⟨.map (some w.heap.size), .map #[] 0, ⟨w.heap.size, 0, 0⟩, ?_, ?_, .map hni .nil⟩
       · simp only [execOp, Instr.makeMap, Option.map_some, Sem.run_bind, run_underlying (tMap_u he), asInt, asIntOf, ex, Sem.run_pure, Result.andThen_ok, run_newObj]
         rfl
       · exact hr.alloc hm hH _ _ _ rfl ⟨hr.newb, #[], 0, Go.heap_alloc_new w _, .nil, rfl, fun j e he => by simp at he⟩
     · cases h
   · cases h
  | none =>
   simp only [aAlloc] at h
   split at h
   · cases h
     refine ⟨.map (some w.heap.size), .map #[] 0, ⟨w.heap.size, 0, 0⟩, ?_, ?_, .map hni .nil⟩
     · simp only [execOp, Instr.makeMap, Option.map_none, Sem.run_bind, Sem.run_pure, Result.andThen_ok, run_newObj]
       rfl
     · exact hr.alloc hm hH _ _ _ rfl ⟨hr.newb, #[], 0, Go.heap_alloc_new w _, .nil, rfl, fun j e he => by simp at he⟩
   · cases h
 | _ => simp [aAlloc] at h
end
end Go.Ab
namespace Go.Ab
open Go Go.RowKit
def one (v : Value) : Bool := match v with | .agg _ | .tuple _ => false | _ => true
def storeB (b : ABlk) (o : Nat) (vs : List Value) : Option ABlk :=
 match b with
 | .cells cs e k => if k ≠ .ro ∧ o + vs.length ≤ cs.length ∧ vs.all one then some (.cells (cs.take o ++ vs ++ cs.drop (o + vs.length)) e k) else none
 | _ => none
def sliceCells (H : AHeap) (s : Nat) : Value → Option (Nat × List Value)
 | .slice none 0 0 => some (0, [])
 | .slice (some ⟨i, o, none⟩) n _ =>
  match H i with
  | some (.cells cs _ _) => if o + n * s ≤ cs.length then some (n, (cs.drop o).take (n * s)) else none
  | _ => if n = 0 then some (0, []) else none
 | _ => none
def del (H : AHeap) (i : Nat) : AHeap := fun j => if j = i then some .dead else H j
@[simp] theorem del_same (H : AHeap) (i : Nat) : del H i i = some .dead := by simp [del]
theorem del_other (H : AHeap) (i j : Nat) (h : j ≠ i) : del H i j = H j := by simp [del, h]
inductive AppRes where
 | same (v : Value)
 | inpl (v : Value) (i : Nat) (b : ABlk)
 | grow (H' : AHeap) (n : Nat) (b : ABlk)
def aAppend (P : Program) (H : AHeap) (t : TypeId) (d x : Value) : Option AppRes :=
 (tSlice P t).bind fun e => (tSize P e).bind fun s => (tBytes P e).bind fun by_ => (tZero P e).bind fun z => (sliceCells H s x).bind fun kx =>
  if 0 < s ∧ z.cells.size = s ∧ P.cellsOf e = s ∧ kx.2.all one then
   match d with
   | .slice none 0 0 =>
    if kx.1 = 0 then some (.same d) else if kx.1 * by_ ≤ 2 ^ 47 ∧ kx.1 ≤ 2 ^ 62 then some (.grow H kx.1 (.cells kx.2 e .row)) else none
   | .slice (some ⟨i, 0, none⟩) n c =>
    if kx.1 = 0 then some (.same d)
    else
     match H i with
     | some (.cells cs e' .row) =>
      if e' = e then
       if n + kx.1 ≤ c then
        (storeB (.cells cs e .row) (n * s) kx.2).map fun b => .inpl (.slice (some ⟨i, 0, none⟩) (n + kx.1) c) i b
       else if c * s = cs.length ∧ (n + kx.1) * by_ ≤ 2 ^ 47 ∧ n + kx.1 ≤ 2 ^ 62 then some (.grow (del H i) (n + kx.1) (.cells (cs.take (n * s) ++ kx.2) e .row)) else none
      else none
     | _ => none
   | _ => none
  else none
section
variable [TT] {P : Program} {B0 : Prot} {m : NMap} {H : AHeap} {w w' : World} {a : AAct} {a' : Act}
theorem one_rel {v v' : Value} (h : VRel m v v') (ho : one v = true) : v'.oneCell' = true := by
 have _ := TT.tt
 cases h with
 | atom h _ => cases v <;> first | rfl | (simp [one] at ho)
 | agg _ _ => simp [one] at ho
 | tuple _ _ => simp [one] at ho
 | _ => rfl
theorem ones_rel {vs vs' : List Value} (h : VsRel m vs vs') (ho : vs.all one = true) : ∀ v ∈ vs', v.oneCell' = true := by
 induction vs generalizing vs' with
 | nil => rw [h.nil_left]; simp
 | cons v l ih =>
  obtain ⟨v', l', rfl, hv, hl⟩ := h.uncons
  simp only [List.all_cons, Bool.and_eq_true] at ho
  intro u hu
  rcases List.mem_cons.1 hu with rfl | hu
  · exact one_rel hv ho.1
  · exact ih hl ho.2 u hu
theorem storeCells_sound (hr : Rel P B0 m H w) {i o : Nat} {b b' : ABlk} {f : BInfo} {vs vs' : List Value} (hi : H i = some b) (hm : m i = some f) (hv : VsRel m vs vs') (h : storeB b o vs = some b') :
    ∃ row, (storeCells ⟨f.blk, f.off + o, none⟩ vs' 0).run P w = .ok () (w.setRow f.blk row) ∧ Rel P B0 m (upd H i b') (w.setRow f.blk row) ∧ ¬ B0 f.blk := by
 unfold storeB at h
 split at h
 · rename_i cs e k
   split at h
   · rename_i hb
     obtain ⟨hk, hlen, hone⟩ := hb
     cases h
     obtain ⟨c, e', fr, hc, hcs, hown, hro, hvar⟩ := hr.blocks i _ f hi hm
     obtain ⟨hoff, hfr, hB, he, hsz⟩ := hown hk
     subst hfr; subst he
     have hl := hv.length
     have hst := run_storeCells_at P f.blk (f.off + o) e' vs' 0 c w hc (by rw [hoff, hl, hsz]; omega) (ones_rel hv hone)
     refine ⟨_, hst, ?_, hB⟩
     refine hr.put hi hm (by cases k <;> first | rfl | exact absurd rfl hk) (by simp) (fun k hk _ => setRow_other w f.blk k _ hk) ?_
     refine ⟨_, e', (0, 0), setRow_heap w f.blk c _ e' _ hc, fun j v hj => ?_, fun _ => ⟨hoff, rfl, hB, rfl, ?_⟩, fun e => absurd e hk, hvar⟩
     · rw [hoff]
       simp only [Nat.zero_add, Nat.add_zero, List.getElem?_toArray]
       have hcl : cs.length ≤ c.size := by rw [hsz]; omega
       rw [List.append_assoc] at hj ⊢
       rcases Nat.lt_or_ge j o with h1 | h1
       · rw [List.getElem?_append_left (by simp; omega), List.getElem?_take_of_lt h1] at hj
         obtain ⟨v', h2, h3⟩ := hcs j v hj
         refine ⟨v', ?_, h3⟩
         rw [List.getElem?_append_left (by simp; omega), List.getElem?_take_of_lt h1]
         simpa [hoff] using h2
       · have l1 : (cs.take o).length = o := by simp; omega
         have l2 : (c.toList.take o).length = o := by simp; omega
         rw [List.getElem?_append_right (by omega), l1] at hj
         rw [List.getElem?_append_right (by omega), l2]
         rcases Nat.lt_or_ge (j - o) vs.length with h2 | h2
         · rw [List.getElem?_append_left h2] at hj
           rw [List.getElem?_append_left (by omega)]
           exact hv.get hj
         · rw [List.getElem?_append_right h2, List.getElem?_drop] at hj
           rw [List.getElem?_append_right (by omega), List.getElem?_drop, hl]
           obtain ⟨v', h3, h4⟩ := hcs _ v hj
           exact ⟨v', by simpa [hoff] using h3, h4⟩
     · have hcl : cs.length ≤ c.size := by rw [hsz]; omega
       simp only [List.size_toArray, List.length_append, List.length_take, List.length_drop, Array.length_toList, Nat.add_zero]
       rw [hoff]
       omega
   · cases h
 · cases h
theorem sliceCells_sound (hr : Rel P B0 m H w) {s : Nat} {x x' : Value} {n : Nat} {vs : List Value} (hx : VRel m x x') (h : sliceCells H s x = some (n, vs)) :
    ∃ ad c vs', x' = .slice ad n c ∧ (ad = none → n = 0) ∧ VsRel m vs vs' ∧ vs'.length = n * s ∧ ∀ b, ad = some b → ∀ (j : Nat) v, vs'[j]? = some v → w.cell? (b.add j) = some v := by
 unfold sliceCells at h
 split at h
 · cases h
   have := hx.eq_of_atomic rfl
   subst this
   exact ⟨none, 0, [], rfl, fun _ => rfl, .nil, by simp, fun b hb => by cases hb⟩
 · rename_i i o n0 c
   split at h
   · rename_i cs e k hi
     split at h
     · rename_i hlen
       cases h
       obtain ⟨f, ad, hm, hn, hfa, rfl⟩ := hx.slice_inv
       obtain ⟨cc, e', fr, hc, hcs, _⟩ := hr.blocks i _ f hi hm
       have hg : ∀ j, j < n * s → ∃ v', cc[f.off + o + j]? = some v' ∧ ∀ v, cs[o + j]? = some v → VRel m v v' := by
        intro j hj
        have hv : cs[o + j]? = some (cs[o + j]'(by omega)) := List.getElem?_eq_getElem (by omega)
        obtain ⟨v', h1, h2⟩ := hcs (o + j) _ hv
        exact ⟨v', by rw [← h1]; congr 1; omega, fun v h3 => by rw [hv] at h3; cases h3; exact h2⟩
       have hl2 : ((cc.toList.drop (f.off + o)).take (n * s)).length = n * s := by
        rcases Nat.eq_zero_or_pos (n * s) with h0 | h0
        · simp [h0]
        · obtain ⟨v', h1, _⟩ := hg (n * s - 1) (by omega)
          have := (Array.getElem?_eq_some_iff.1 h1).1
          simp; omega
       refine ⟨some ad, _, (cc.toList.drop (f.off + o)).take (n * s), rfl, by simp, ?_, hl2, fun b hb j v hj => ?_⟩
       · refine .of_get (by rw [hl2]; simp; omega) fun j v hj => ?_
         have hjs : j < n * s := by
          have := (List.getElem?_eq_some_iff.1 hj).1
          simp at this; omega
         rw [List.getElem?_take_of_lt hjs, List.getElem?_drop] at hj
         obtain ⟨v', h1, h2⟩ := hg j hjs
         exact ⟨v', by rw [List.getElem?_take_of_lt hjs, List.getElem?_drop]; simpa using h1, h2 v hj⟩
       · cases hb
         have hjs : j < n * s := by
          have := (List.getElem?_eq_some_iff.1 hj).1
          omega
         rw [List.getElem?_take_of_lt hjs, List.getElem?_drop] at hj
         have hpos : 0 < n := by
          rcases Nat.eq_zero_or_pos n with h0 | h0
          · rw [h0] at hjs; simp at hjs
          · exact h0
         rw [hfa (by omega), addr_add]
         simp only [World.cell?, hc]
         simpa using hj
     · cases h
   · split at h
     · rename_i h0
       cases h
       subst h0
       obtain ⟨f, ad, hm, hn, hfa, rfl⟩ := hx.slice_inv
       exact ⟨some ad, _, [], rfl, fun _ => rfl, .nil, by simp, fun b _ j v hj => by cases hj⟩
     · cases h
 · cases h
end
end Go.Ab
