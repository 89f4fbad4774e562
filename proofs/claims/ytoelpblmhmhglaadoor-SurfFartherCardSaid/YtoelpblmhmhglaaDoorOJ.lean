/- ABSTRACT MEMORY, 41: WHAT A RUN COMES TO, AS A PROPOSITION THAT THE KERNEL COMPUTES: control is concrete, integers may be variables; what can't be computed is hinted, and becomes a conjunct. -/
import Derived.Test.YtoelpblmhmhglaaDoorOI
namespace Go.Ab
open Go Go.RowKit
inductive Hint where
 | val (v : Value)
 | op (r : XR)
 | call (r : ARes) (m : Mem)
 | split (l r : List (Nat × Hint))
 | loop (e : AExit) (s : St)
 | again
 | grow
 | st
 | con (C : Con)
 | conN (C : ConN)
 | conW (C : ConW)
 | loopT (T : Tm) (e : AExit) (T' : Tm) (f : Hx → Hx)
 | tm (i : Nat) (π : List (Nat × Nat))
 | loopW (T : Tw) (e : AExit) (T' : Tw) (f : Hw → Hw)
 | mset (es : List (Value × Value))
 | mk (n : Nat) (cs : List Value)
 | growN
 | same
 | put (cs : List Value)
structure LookC (P : Program) (kt : TypeId) (z : Value) (es : List (Value × Value)) (k : Value) (ok : Bool) (v : Value) : Prop where
 h : ((findA P kt k es 0).bind fun r => some (lookR z ok r)) = some v
structure SetC (P : Program) (kt : TypeId) (es : List (Value × Value)) (k v : Value) (es' : List (Value × Value)) : Prop where
 h : ((findA P kt k es 0).bind fun r =>
           match r with
           | none => some (es ++ [(k, v)])
           | some (j, _) => match es[j]? with
            | some e => if (flat e.1 = true ∧ flat k = true) ∧ Instr.sameBits 10000 e.1 k = true then some (es.set j (k, v)) else none
            | none => none) = some es'
def cAs (P : Program) (ρ : Operand → Option Value) (H : AHeap) (op : Op) (v : Value) : Prop :=
 match op with
 | .binOp bo t x y yt => match ρ x, ρ y with
  | some (.int k a), some (.int k' b) => (match bo with
   | .shl => (0 ≤ b ∧ b ≤ k.bits) ∧ v = .int k (k.wrap (a * 2 ^ b.toNat))
   | .shr => (0 ≤ b ∧ b ≤ k.bits) ∧ v = .int k (a / 2 ^ b.toNat)
   | .quo => (b ≠ 0 ∧ k = k') ∧ v = .int k (k.wrap (a.tdiv b))
   | .rem => (b ≠ 0 ∧ k = k') ∧ v = .int k (a.tmod b)
   | _ => aPure P ρ H (.binOp bo t x y yt) = some v)
  | _, _ => aPure P ρ H (.binOp bo t x y yt) = some v
 | .load t x => match ρ x with
  | some (.pointer (some ⟨i, o, none⟩)) => match H i with
   | some (.cells cs _ _) => match tAgg P t with
    | some true => match tSize P t with
     | some s => o + s ≤ cs.length ∧ v = .agg ⟨(cs.drop o).take s⟩
     | none => False
    | some false => cs[o]? = some v
    | none => False
   | _ => False
  | _ => False
 | .indexAddr t x ix => match ρ x, ρ ix with
  | some (.slice (some ⟨i, o, none⟩) n _), some (.int _ j) => match (tSlice P t).bind (tSize P) with
   | some s => (0 ≤ j ∧ j < n) ∧ v = .pointer (some ⟨i, o + j.toNat * s, none⟩)
   | none => False
  | some (.pointer (some ⟨i, o, none⟩)), some (.int _ j) => match tArr P t with
   | some ne => match tSize P ne.2 with
    | some s => (0 ≤ j ∧ j < ne.1) ∧ v = .pointer (some ⟨i, o + j.toNat * s, none⟩)
    | none => False
   | none => False
  | _, _ => False
 | .index t x ix => match ρ x, ρ ix with
  | some (.agg ⟨cs⟩), some (.int _ j) => match tArr P t with
   | some ne => match tSize P ne.2 with
    | some s => (0 ≤ j ∧ j < ne.1) ∧ partV P ne.2 cs (j.toNat * s) = some v
    | none => False
   | none => False
  | _, _ => aPure P ρ H (.index t x ix) = some v
 | .lookup t x k ok => match ρ x, ρ k with
  | some (.map (some i)), some kv => match H i with
   | some (.map es) => match tMap P t with
    | some ke => match tZero P ke.2 with
     | some z => cond (ckV P 20 ke.1 kv && flat z && (P.underlying ke.1).isSome) (LookC P ke.1 z es kv ok v) False
     | none => False
    | none => False
   | _ => False
  | _, _ => aPure P ρ H (.lookup t x k ok) = some v
 | .slice t x (some lo) none none => match ρ x, ρ lo with
  | some (.slice (some ⟨i, o, none⟩) n c), some (.int _ l) => match (tSlice P t).bind (tSize P) with
   | some s => (0 ≤ l ∧ l ≤ n ∧ (n : Int) ≤ c) ∧ v = .slice (some ⟨i, o + l.toNat * s, none⟩) (n - l.toNat) (c - l.toNat)
   | none => False
  | _, _ => aPure P ρ H (.slice t x (some lo) none none) = some v
 | .slice t x none (some hi) none => match ρ x, ρ hi with
  | some (.slice (some ⟨i, o, none⟩) _ c), some (.int _ h) => match (tSlice P t).bind (tSize P) with
   | some _ => (0 ≤ h ∧ h ≤ (c : Int)) ∧ v = .slice (some ⟨i, o, none⟩) h.toNat c
   | none => False
  | _, _ => aPure P ρ H (.slice t x none (some hi) none) = some v
 | op => aPure P ρ H op = some v
theorem cAs_sound {P : Program} {ρ : Operand → Option Value} {H : AHeap} {op : Op} {v : Value} (h : cAs P ρ H op v) : aPure P ρ H op = some v := by
 unfold cAs at h
 split at h
 · rename_i bo t x y yt
   split at h
   · rename_i k a k' b hx hy
     split at h
     · obtain ⟨h1, rfl⟩ := h
       simp only [aPure, hx, hy, shBin, h1, and_self, if_true]
     · obtain ⟨h1, rfl⟩ := h
       simp only [aPure, hx, hy, shBin, h1, and_self, if_true]
     · obtain ⟨⟨h1, rfl⟩, rfl⟩ := h
       simp only [aPure, hx, hy, intBin, h1, if_false, if_true]
     · obtain ⟨⟨h1, rfl⟩, rfl⟩ := h
       simp only [aPure, hx, hy, intBin, h1, if_false, if_true]
     · exact h
   · exact h
 · rename_i t x
   split at h
   · rename_i i o hx
     split at h
     · rename_i cs _ _ hH
       split at h
       · rename_i ht
         split at h
         · rename_i s hs
           obtain ⟨h1, rfl⟩ := h
           simp only [aPure, hx, loadV, hH, ht, hs, Option.bind_some, h1, if_true]
         · exact h.elim
       · rename_i ht
         simp only [aPure, hx, loadV, hH, ht]
         exact h
       · exact h.elim
     · exact h.elim
   · exact h.elim
 · rename_i t x ix
   split at h
   · rename_i i o n c k j hx hi
     split at h
     · rename_i s hs
       obtain ⟨e, he, hs'⟩ := Option.bind_eq_some_iff.1 hs
       obtain ⟨h1, rfl⟩ := h
       simp only [aPure, hx, hi, he, Option.bind_some, hs', h1, and_self, if_true]
     · exact h.elim
   · rename_i i o k j hx hi
     split at h
     · rename_i ne hne
       split at h
       · rename_i s hs
         obtain ⟨h1, rfl⟩ := h
         simp only [aPure, hx, hi, hne, Option.bind_some, hs, h1, and_self, if_true]
       · exact h.elim
     · exact h.elim
   · exact h.elim
 · rename_i t x ix
   split at h
   · rename_i cs k j hx hi
     split at h
     · rename_i ne hne
       split at h
       · rename_i s hs
         obtain ⟨h1, h2⟩ := h
         simp only [aPure, hx, hi, hne, Option.bind_some, hs, h1, and_self, if_true]
         exact h2
       · exact h.elim
     · exact h.elim
   · exact h
 · rename_i t x k ok
   split at h
   · rename_i i kv hx hk
     split at h
     · rename_i es hH
       split at h
       · rename_i ke hke
         split at h
         · rename_i z hz
           cases hc : (ckV P 20 ke.1 kv && flat z && (P.underlying ke.1).isSome) with
           | false => rw [hc] at h; exact h.elim
           | true =>
            rw [hc] at h
            simp only [Bool.and_eq_true] at hc
            obtain ⟨⟨c1, c2⟩, c3⟩ := hc
            simp only [aPure, hx, hk, Option.bind_some, lookupV, hke, hz, c1, c2, c3, and_self, if_true, hH]
            exact h.h
         · exact h.elim
       · exact h.elim
     · exact h.elim
   · exact h
 · rename_i t x lo
   split at h
   · rename_i i o n c k l hx hl
     split at h
     · rename_i s hs
       obtain ⟨e, he, hs'⟩ := Option.bind_eq_some_iff.1 hs
       obtain ⟨h1, rfl⟩ := h
       simp only [aPure, hx, hl, oev, Option.map_some, Option.bind_some, slicePart, sliceV, he, hs', h1, and_self, if_true, Int.toNat_natCast]
     · exact h.elim
   · exact h
 · rename_i t x hi
   split at h
   · rename_i i o n c k l hx hl
     split at h
     · rename_i s hs
       obtain ⟨e, he, hs'⟩ := Option.bind_eq_some_iff.1 hs
       obtain ⟨h1, rfl⟩ := h
       simp only [aPure, hx, hl, oev, Option.map_some, Option.bind_some, slicePart, sliceV, he, hs', h1.1, h1.2, and_self, if_true, Int.le_refl, Int.toNat_zero, Nat.zero_mul, Nat.add_zero, Nat.sub_zero]
     · exact h.elim
   · exact h
 · exact h
abbrev HS := List (Nat × Hint)
def tick : HS → Option Hint × HS
 | (0, h) :: r => (some h, r)
 | (k + 1, h) :: r => (none, (k, h) :: r)
 | [] => (none, [])
structure Vx where
 code : Option Nat → Loc → (AExit → St → HS → Prop) → St → HS → Prop
 loop : Option Nat → Loc → (AExit → St → HS → Prop) → St → HS → Prop
 codeS : Loc → (AExit → AMode → St → HS → Prop) → AMode → St → HS → Prop
 call : FuncId → List Value → (ARes → Mem → HS → Prop) → Mem → HS → Prop
 dcall : FuncId → List Value → (Value → AMode → Mem → HS → Prop) → AMode → Mem → HS → Prop
 round : Nat → List Value → (ARes → Mem → HS → Prop) → Mem → HS → Prop
def Vx.zero : Vx := ⟨fun _ _ _ _ _ => False, fun _ _ _ _ _ => False, fun _ _ _ _ _ => False, fun _ _ _ _ _ => False, fun _ _ _ _ _ _ => False, fun _ _ _ _ _ => False⟩
section
variable [TT] [PR]
def Fgt (s : St) (a : AAct) (H : AHeap) : Prop := s.n = a.n ∧ s.ds = a.defers ∧ (∀ t v, s.a.f t = some v → a.f t = some v) ∧ Sub s.H H
def vFnVal (X : Vx) (P : Program) (fv : Value) (args : List Value) (K : ARes → Mem → HS → Prop) (m : Mem) (hs : HS) : Prop :=
 match fv with
 | .func (.func f) ⟨first⟩ ⟨cap⟩ => X.call f (first ++ args ++ cap) K m hs
 | .func (.yield l) ⟨first⟩ _ => X.round l (first ++ args) K m hs
 | .func (.via t path f ptr) ⟨first⟩ _ =>
  match first ++ args with
  | x :: rest => match (aFollow P path.toList t x).bind fun tv => aRecv P tv.1 tv.2 ptr with
   | some u => X.call f (u :: rest) K m hs
   | none => False
  | [] => False
 | _ => False
def vInvoke (X : Vx) (P : Program) (rv : Value) (name : String) (args : List Value) (K : ARes → Mem → HS → Prop) (m : Mem) (hs : HS) : Prop :=
 match rv with
 | .iface t v => match aMethod P t v name with
  | some fu => X.call fu.1 (fu.2 :: args) K m hs
  | none => False
 | _ => False
def vRet (s : St) (dst : Option Tmp) (K : XR → HS → Prop) : ARes → Mem → HS → Prop
 | .ret v, m, hs => K (.ok ({ s with m := m }.put dst v)) hs
 | .pan v, m, hs => K (.pan v m) hs
def calls : Op → Option Call
 | .call c => match c.callee with
  | .builtin _ => none
  | _ => some c
 | _ => none
def vCall (X : Vx) (P : Program) (s : St) (dst : Option Tmp) (c : Call) (K : XR → HS → Prop) (hs : HS) : Prop :=
 match c.callee with
 | .value f => match s.a.eval P f, evs (s.a.eval P) c.args.toList with
  | some fv, some vs => vFnVal X P fv vs (vRet s dst K) s.m hs
  | _, _ => False
 | .invoke r name => match s.a.eval P r, evs (s.a.eval P) c.args.toList with
  | some rv, some vs => vInvoke X P rv name vs (vRet s dst K) s.m hs
  | _, _ => False
 | .builtin _ => False
noncomputable def vGrowV (P : Program) (s : St) (dst : Option Tmp) (t : TypeId) (u v : Value) : Option (Prop × XR) :=
 (tSlice P t).bind fun e => (tSize P e).bind fun sz => (tBytes P e).bind fun by_ => (tZero P e).bind fun z => (sliceCells s.H sz v).bind fun kx =>
  cond (decide (0 < sz ∧ z.cells.size = sz ∧ P.cellsOf e = sz ∧ kx.2.all one))
   ((vSlice u).bind fun x => (s.m.h.get x.1).bind fun b => (cellsX b).bind fun y =>
    cond ((Nat.beq x.2.1 0 && kEq y.2.2 .row) && ((Nat.beq y.2.1 e && Nat.blt 0 kx.1) && ((s.m.put x.1 .dead).free && Nat.ble x.1 1000000000)))
     (some (¬ (x.2.2.1 + kx.1 ≤ x.2.2.2) ∧ x.2.2.2 * sz = y.1.length ∧ (x.2.2.1 + kx.1) * by_ ≤ 2 ^ 47 ∧ x.2.2.1 + kx.1 ≤ 2 ^ 62, .ok ({ s with m := (s.m.put x.1 .dead).new (.cells (y.1.take (x.2.2.1 * sz) ++ kx.2) e .row) }.put dst (.slice (some ⟨s.m.nx, 0, none⟩) (x.2.2.1 + kx.1) (x.2.2.1 + kx.1))))) none) none
noncomputable def vGrow (P : Program) (s : St) (dst : Option Tmp) (op : Op) : Option (Prop × XR) :=
 match op with
 | .call c => match c.callee, c.args.toList, c.argTypes.toList with
  | .builtin .append, [x, y], [t, t'] => cond (Nat.beq t' t) ((s.a.eval P x).bind fun u => (s.a.eval P y).bind fun v => vGrowV P s dst t u v) none
  | _, _, _ => none
 | _ => none
noncomputable def vGrowNV (P : Program) (s : St) (dst : Option Tmp) (t : TypeId) (u v : Value) : Option (Prop × XR) :=
 (tSlice P t).bind fun e => (tSize P e).bind fun sz => (tBytes P e).bind fun by_ => (tZero P e).bind fun z =>
  (vSlice v).bind fun q => (s.m.h.get q.1).bind fun c0 => (cellsX c0).bind fun d =>
  cond (decide (0 < sz ∧ z.cells.size = sz ∧ P.cellsOf e = sz))
   ((vSlice u).bind fun x => (s.m.h.get x.1).bind fun b => (cellsX b).bind fun y =>
    cond ((Nat.beq x.2.1 0 && kEq y.2.2 .row) && (Nat.beq y.2.1 e && ((s.m.put x.1 .dead).free && Nat.ble x.1 1000000000)))
     (some (((0 < q.2.2.1 ∧ q.2.1 + q.2.2.1 * sz ≤ d.1.length) ∧ ((d.1.drop q.2.1).take (q.2.2.1 * sz)).all one = true) ∧ ¬ (x.2.2.1 + q.2.2.1 ≤ x.2.2.2) ∧ x.2.2.2 * sz = y.1.length ∧ (x.2.2.1 + q.2.2.1) * by_ ≤ 2 ^ 47 ∧ x.2.2.1 + q.2.2.1 ≤ 2 ^ 62,
      .ok ({ s with m := (s.m.put x.1 .dead).new (.cells (y.1.take (x.2.2.1 * sz) ++ (d.1.drop q.2.1).take (q.2.2.1 * sz)) e .row) }.put dst (.slice (some ⟨s.m.nx, 0, none⟩) (x.2.2.1 + q.2.2.1) (x.2.2.1 + q.2.2.1))))) none) none
noncomputable def vGrowN (P : Program) (s : St) (dst : Option Tmp) (op : Op) : Option (Prop × XR) :=
 match op with
 | .call c => match c.callee, c.args.toList, c.argTypes.toList with
  | .builtin .append, [x, y], [t, t'] => cond (Nat.beq t' t) ((s.a.eval P x).bind fun u => (s.a.eval P y).bind fun v => vGrowNV P s dst t u v) none
  | _, _, _ => none
 | _ => none
noncomputable def vSameV (P : Program) (s : St) (dst : Option Tmp) (t : TypeId) (u v : Value) : Option (Prop × XR) :=
 (tSlice P t).bind fun e => (tSize P e).bind fun sz => (tBytes P e).bind fun _ => (tZero P e).bind fun z =>
  (vSlice v).bind fun q => (s.m.h.get q.1).bind fun c0 => (cellsX c0).bind fun d =>
  cond (decide (0 < sz ∧ z.cells.size = sz ∧ P.cellsOf e = sz))
   ((vSlice u).bind fun x => cond (Nat.beq x.2.1 0) (some ((q.2.2.1 = 0 ∧ q.2.1 + q.2.2.1 * sz ≤ d.1.length), .ok (s.put dst u))) none) none
noncomputable def vSame (P : Program) (s : St) (dst : Option Tmp) (op : Op) : Option (Prop × XR) :=
 match op with
 | .call c => match c.callee, c.args.toList, c.argTypes.toList with
  | .builtin .append, [x, y], [t, t'] => cond (Nat.beq t' t) ((s.a.eval P x).bind fun u => (s.a.eval P y).bind fun v => vSameV P s dst t u v) none
  | _, _, _ => none
 | _ => none
noncomputable def vStore (P : Program) (s : St) (dst : Option Tmp) (op : Op) : Option (Prop × XR) :=
 match op with
 | .store t x y => (s.a.eval P x).bind fun u => (s.a.eval P y).bind fun v => (vPtr u).bind fun a => (s.m.h.get a.1).bind fun b => (cellsX b).bind fun c =>
     (tSize P t).bind fun z => cond ((Nat.beq z v.cells.size && !(kEq c.2.2 .ro)) && (v.cells.toList.all one && Nat.ble a.1 1000000000))
      (some (a.2 + v.cells.toList.length ≤ c.1.length, .ok ({ s with m := s.m.put a.1 (.cells (c.1.take a.2 ++ v.cells.toList ++ c.1.drop (a.2 + v.cells.toList.length)) c.2.1 c.2.2) }.put dst undef))) none
 | _ => none
noncomputable def vStoreP (P : Program) (s : St) (dst : Option Tmp) (op : Op) (cs : List Value) : Option (Prop × XR) :=
 match op with
 | .store t x y => (s.a.eval P x).bind fun u => (s.a.eval P y).bind fun v => (vPtr u).bind fun a => (s.m.h.get a.1).bind fun b => (cellsX b).bind fun c =>
     (tSize P t).bind fun z => cond ((Nat.beq z v.cells.size && !(kEq c.2.2 .ro)) && (v.cells.toList.all one && Nat.ble a.1 1000000000))
      (some (a.2 + v.cells.toList.length ≤ c.1.length ∧ c.1.take a.2 ++ v.cells.toList ++ c.1.drop (a.2 + v.cells.toList.length) = cs, .ok ({ s with m := s.m.put a.1 (.cells cs c.2.1 c.2.2) }.put dst undef))) none
 | _ => none
noncomputable def vMk (P : Program) (ρ : Operand → Option Value) (op : Op) (n : Nat) (cs : List Value) : Option (Prop × TypeId) :=
 match op with
 | .makeSlice t l c => (tSlice P t).bind fun e => (tSize P e).bind fun s => (tZero P e).bind fun z => (tBytes P e).bind fun by_ => match ρ l, ρ c with
  | some (.int _ l), some (.int _ c) => cond (z.cells.toList.all atomic && decide (z.cells.size = s)) (some ((l = (n : Int) ∧ c = (n : Int)) ∧ ((n : Int) ≤ 2 ^ 40 ∧ (by_ : Int) * (n : Int) ≤ 2 ^ 48) ∧ zCells z.cells.toList (n * s) = cs, e)) none
  | _, _ => none
 | _ => none
theorem vMk_sound {P : Program} {ρ : Operand → Option Value} {op : Op} {n : Nat} {cs : List Value} {p : Prop} {e : TypeId} (h : vMk P ρ op n cs = some (p, e)) (hp : p) : aAlloc P ρ op = some (.cells cs e .row, fun i => .slice (some ⟨i, 0, none⟩) n n) := by
 have _ := TT.tt
 have _ := PR.prog
 unfold vMk at h
 split at h
 · rename_i t l c
   obtain ⟨e', e1, h⟩ := bindSome h
   obtain ⟨sz, e2, h⟩ := bindSome h
   obtain ⟨z, e3, h⟩ := bindSome h
   obtain ⟨by_, e4, h⟩ := bindSome h
   split at h
   · rename_i k1 a k2 b hl hc
     obtain ⟨hz, h⟩ := condSome h
     simp only [Bool.and_eq_true, decide_eq_true_eq] at hz
     cases h
     obtain ⟨⟨rfl, rfl⟩, ⟨q1, q2⟩, rfl⟩ := hp
     simp only [aAlloc, e1, e2, e3, e4, Option.bind_some, hl, hc, hz.1, hz.2, q1, q2, Int.natCast_nonneg, Int.le_refl, and_self, if_true, Int.toNat_natCast]
   · cases h
 · cases h
theorem vMk_pure {P : Program} {ρ : Operand → Option Value} {H : AHeap} {op : Op} {n : Nat} {cs : List Value} {x : Prop × TypeId} (h : vMk P ρ op n cs = some x) : aPure P ρ H op = none := by
 have _ := TT.tt
 have _ := PR.prog
 unfold vMk at h
 split at h
 · rfl
 · cases h
noncomputable def vMset (P : Program) (s : St) (dst : Option Tmp) (op : Op) (es' : List (Value × Value)) : Option (Prop × XR) :=
 match op with
 | .mapUpdate t x k y => (s.a.eval P x).bind fun u => (s.a.eval P k).bind fun kv => (s.a.eval P y).bind fun v => (vMap u).bind fun i => (s.m.h.get i).bind fun b => (mapX b).bind fun es => (tMap P t).bind fun ke =>
     cond ((ckV P 20 ke.1 kv && (P.underlying ke.1).isSome) && Nat.ble i 1000000000) (some (SetC P ke.1 es kv v es', .ok ({ s with m := s.m.put i (.map es') }.put dst undef))) none
 | _ => none
def vAll (s : St) (dst : Option Tmp) (r i sn : Nat) (seen : List Nat) (es : List (Value × Value)) (K : XR → HS → Prop) (hs : HS) : List Nat → Prop
 | [] => True
 | j :: l => (match es[j]? with | some e => K (.ok ({ s with m := s.m.put r (.iter i sn (seen ++ [j]) es.length) }.put dst (.tuple #[.bool true, e.1, e.2]))) hs | none => False) ∧ vAll s dst r i sn seen es K hs l
def vNext (P : Program) (s : St) (dst : Option Tmp) (op : Op) (K : XR → HS → Prop) (hs : HS) : Prop :=
 match op with
 | .next x false => match s.a.eval P x with
  | some (.pointer (some ⟨r, 0, none⟩)) => match s.m.h.get r with
   | some (.iter i sn seen c) => match s.m.h.get i with
    | some (.map es) => cond (Nat.ble es.length sn && Nat.ble sn c && Nat.ble r 1000000000) (match leftI es.length seen with
     | [] => False
     | j :: l => vAll s dst r i sn seen es K hs (j :: l)) False
    | _ => False
   | _ => False
  | _ => False
 | _ => False
def vOp (X : Vx) (P : Program) (ro : Option Nat) (s : St) (dst : Option Tmp) (op : Op) (K : XR → HS → Prop) (hs : HS) : Prop :=
 cond (slotOK dst)
  (match calls op with
  | some c => vCall X P s dst c K hs
  | none => match tick hs with
   | (some (.val v), hs) => cAs P (s.a.eval P) s.H op v ∧ K (.ok (s.put dst v)) hs
   | (some (.split h1 h2), _) => match aPure P (s.a.eval P) s.H op with
    | some (.bool b) => (b = true → K (.ok (s.put dst (.bool true))) h1) ∧ (b = false → K (.ok (s.put dst (.bool false))) h2)
    | _ => False
   | (some (.op r), hs) => xOp Ex.zero P ro s dst op = some r ∧ K r hs
   | (some .st, hs) => match vStore P s dst op with
    | some pr => pr.1 ∧ K pr.2 hs
    | none => False
   | (some (.put cs), hs) => match vStoreP P s dst op cs with
    | some pr => pr.1 ∧ K pr.2 hs
    | none => False
   | (some .grow, hs) => match vGrow P s dst op with
    | some pr => pr.1 ∧ K pr.2 hs
    | none => False
   | (some .same, hs) => match vSame P s dst op with
    | some pr => pr.1 ∧ K pr.2 hs
    | none => False
   | (some .growN, hs) => match vGrowN P s dst op with
    | some pr => pr.1 ∧ K pr.2 hs
    | none => False
   | (some (.mk n cs), hs) => match vMk P (s.a.eval P) op n cs with
    | some pr => pr.1 ∧ cond s.m.free (K (.ok ({ s with m := s.m.new (.cells cs pr.2 .row) }.put dst (.slice (some ⟨s.m.nx, 0, none⟩) n n))) hs) False
    | none => False
   | (some (.mset es), hs) => match vMset P s dst op es with
    | some pr => pr.1 ∧ K pr.2 hs
    | none => False
   | (_, hs) => match xOp Ex.zero P ro s dst op with
    | some r => K r hs
    | none => vNext P s dst op K hs)
  False
def vOps (X : Vx) (P : Program) (ro : Option Nat) (ops : List Oper) (K : AExit → St → HS → Prop) : List Oper → St → HS → Prop
 | [], s, hs => K .normal s hs
 | o :: l, s, hs => match aWanted ⟨ops⟩ s.a o with
  | some true => vOp X P ro s o.dst o.op (fun r hs => match r with | .ok s' => vOps X P ro ops K l s' hs | .pan v m => K (.panic v) { s with m := m } hs) hs
  | some false => cond (slotOK o.dst) (vOps X P ro ops K l (s.put o.dst undef) hs) False
  | none => False
end
section
variable [TT] [PR]
def QQ (Q : AExit → St → HS → Prop) (e : AExit) (a : AAct) (H : AHeap) : Prop := ∃ s hs, Q e s hs ∧ a = s.a ∧ H = s.H
def QS (Q : AExit → AMode → St → HS → Prop) (e : AExit) (u : AMode) (a : AAct) (H : AHeap) : Prop := ∃ s hs, Q e u s hs ∧ a = s.a ∧ H = s.H
def RR (K : ARes → Mem → HS → Prop) (r : ARes) (H : AHeap) : Prop := ∃ m hs, K r m hs ∧ H = m.H
def DD (K : Value → AMode → Mem → HS → Prop) (v : Value) (u : AMode) (H : AHeap) : Prop := ∃ m hs, K v u m hs ∧ H = m.H
structure VSound (P : Program) (N : Nat) (X : Vx) : Prop where
 code : ∀ {ro : Option Nat} {p : Loc} {Q : AExit → St → HS → Prop} {s : St} {hs : HS}, X.code ro p Q s hs → AWp P ro (codeGet p) (QQ Q) s.a s.H
 loop : ∀ {ro : Option Nat} {p : Loc} {Q : AExit → St → HS → Prop} {s : St} {hs : HS}, X.loop ro p Q s hs → ∀ (B0 : Prot) (m : NMap) (w : World) (a' : Act) (F : Fence), Rel P B0 m s.H w → ARel m s.a a' → FRel m ro F → ∀ n, Code.roundsIn F n P (codeGet p) (LiftQ P B0 m s.H w (QQ Q)) N a' w
 codeS : ∀ {p : Loc} {Q : AExit → AMode → St → HS → Prop} {u : AMode} {s : St} {hs : HS}, X.codeS p Q u s hs → AWpS P (codeGet p) (QS Q) u s.a s.H
 call : ∀ {f : FuncId} {args : List Value} {K : ARes → Mem → HS → Prop} {m : Mem} {hs : HS}, X.call f args K m hs → Callable P f ∧ SCalls P f args m.H (RR K)
 dcall : ∀ {f : FuncId} {args : List Value} {K : Value → AMode → Mem → HS → Prop} {u : AMode} {m : Mem} {hs : HS}, X.dcall f args K u m hs → Callable P f ∧ SDCalls P f args u m.H (DD K)
 round : ∀ {l : Nat} {args : List Value} {K : ARes → Mem → HS → Prop} {m : Mem} {hs : HS}, X.round l args K m hs → SRound P l args m.H (RR K)
variable {P : Program} {N : Nat} {X : Vx} {ro : Option Nat} {s : St} {dst : Option Tmp} {hs : HS}
theorem ex_zero_sound : Sound P 0 Ex.zero := ⟨fun h => (by cases h), fun h => (by cases h), fun h => (by cases h), fun h => (by cases h), fun h => (by cases h), fun h => (by cases h)⟩
theorem cond_false' {b : Bool} {p : Prop} (h : cond b p False) : b = true ∧ p := by
 have _ := TT.tt
 have _ := PR.prog
 cases b with
 | true => exact ⟨rfl, h⟩
 | false => exact h.elim
theorem vFnVal_sound (hX : VSound P N X) {fv : Value} {args : List Value} {K : ARes → Mem → HS → Prop} {m : Mem} (h : vFnVal X P fv args K m hs) : ACall P fv args m.H (RR K) := by
 unfold vFnVal at h
 split at h
 · exact hX.call h
 · exact hX.round h
 · unfold ACall
   simp only
   split at h
   · rename_i x rest hx
     rw [hx]
     split at h
     · rename_i u hu
       exact ⟨u, hu, hX.call h⟩
     · exact h.elim
   · exact h.elim
 · exact h.elim
theorem vInvoke_sound (hX : VSound P N X) {rv : Value} {name : String} {args : List Value} {K : ARes → Mem → HS → Prop} {m : Mem} (h : vInvoke X P rv name args K m hs) : AInvoke P rv name args m.H (RR K) := by
 unfold vInvoke at h
 split at h
 · split at h
   · rename_i fu hfu
     obtain ⟨h1, h2⟩ := hX.call h
     exact ⟨fu.1, fu.2, hfu, h1, h2⟩
   · exact h.elim
 · exact h.elim
def OkK (K : XR → HS → Prop) (a : AAct) (H : AHeap) : Prop := ∃ s' hs', K (.ok s') hs' ∧ a = s'.a ∧ H = s'.H
def PanK (K : XR → HS → Prop) (v : Value) (H : AHeap) : Prop := ∃ m hs', K (.pan v m) hs' ∧ H = m.H
theorem vRet_sound {K : XR → HS → Prop} (hd : slotOK dst = true) : ∀ r' H', RR (vRet s dst K) r' H' → onRes (fun v H' => OkK K (s.a.put dst v) H') (PanK K) r' H' := by
 rintro r' H' ⟨m, hs', hk, rfl⟩
 cases r' with
 | ret v => exact ⟨_, hs', hk, (St.putm_a hd).symm, St.putm_H.symm⟩
 | pan v => exact ⟨m, hs', hk, rfl⟩
theorem AOp_k {a : AAct} {H : AHeap} {op : Op} {r : XR} {K : XR → HS → Prop} (hk : K r hs) (h : AOp P ro a H dst op (KOk r) (KPan r)) : AOp P ro a H dst op (OkK K) (PanK K) :=
 AOp_congr (fun _ _ => rfl) rfl (fun v ds H' hh => by obtain ⟨s', rfl, ha, hH⟩ := hh; exact ⟨s', hs, hk, ha, hH⟩) (fun v H' hh => by obtain ⟨m, rfl, hH⟩ := hh; exact ⟨m, hs, hk, hH⟩) h
theorem vGrowV_sound {t : TypeId} {u v : Value} {p : Prop} {r : XR} (h : vGrowV P s dst t u v = some (p, r)) (hp : p) : xAppend P s dst t u v = some r := by
 unfold vGrowV at h
 obtain ⟨e, e1, h⟩ := bindSome h
 obtain ⟨sz, e2, h⟩ := bindSome h
 obtain ⟨by_, e3, h⟩ := bindSome h
 obtain ⟨z, e4, h⟩ := bindSome h
 obtain ⟨kx, e5, h⟩ := bindSome h
 obtain ⟨hc, h⟩ := condSome h
 have hc := of_decide_eq_true hc
 obtain ⟨x, e6, h⟩ := bindSome h
 obtain ⟨b, e7, h⟩ := bindSome h
 obtain ⟨y, e8, h⟩ := bindSome h
 obtain ⟨hd, h⟩ := condSome h
 simp only [Bool.and_eq_true] at hd
 obtain ⟨⟨d1, d2⟩, ⟨d3, d4⟩, d5, d6⟩ := hd
 cases h
 obtain ⟨q1, q2, q3, q4⟩ := hp
 have d3 := Nat.eq_of_beq_eq_true d3
 have d4 : 0 < kx.1 := by simpa [Nat.blt_eq] using d4
 have hu := vSlice_eq e6
 rw [Nat.eq_of_beq_eq_true d1] at hu
 have hb := cellsX_eq e8
 rw [kEq_eq2 d2, d3] at hb
 have hH : s.H x.1 = some (.cells y.1 e .row) := by
  have := Mem.get_H e7
  rw [hb] at this
  exact this
 have d4' : ¬ kx.1 = 0 := by omega
 subst hu
 simp only [xAppend, aAppend, e1, e2, e3, e4, e5, Option.bind_some, hc, and_self, if_true, d4', if_false, hH, q1, q2, q3, q4, XB.of, d5, d6, Bool.and_true, cond_true]
theorem vGrow_sound {op : Op} {p : Prop} {r : XR} (hd : slotOK dst = true) (h : vGrow P s dst op = some (p, r)) (hp : p) : xOp Ex.zero P ro s dst op = some r := by
 unfold vGrow at h
 split at h
 · rename_i c
   obtain ⟨cal, ar, ats⟩ := c
   simp only at h
   split at h
   · rename_i x y t t' h2 h3
     obtain ⟨ht, h⟩ := condSome h
     obtain ⟨u, e1, h⟩ := bindSome h
     obtain ⟨v, e2, h⟩ := bindSome h
     have := vGrowV_sound h hp
     simp only [xOp, hd, cond_true, aPure, aAlloc, xEff, xCall, xBuiltin, h2, h3, ht, e1, e2, Option.bind_some, this]
   · cases h
 · cases h
theorem vGrowNV_sound {t : TypeId} {u v : Value} {p : Prop} {r : XR} (h : vGrowNV P s dst t u v = some (p, r)) (hp : p) : xAppend P s dst t u v = some r := by
 unfold vGrowNV at h
 obtain ⟨e, e1, h⟩ := bindSome h
 obtain ⟨sz, e2, h⟩ := bindSome h
 obtain ⟨by_, e3, h⟩ := bindSome h
 obtain ⟨z, e4, h⟩ := bindSome h
 obtain ⟨q, f1, h⟩ := bindSome h
 obtain ⟨c0, f2, h⟩ := bindSome h
 obtain ⟨d, f3, h⟩ := bindSome h
 obtain ⟨hc, h⟩ := condSome h
 have hc := of_decide_eq_true hc
 obtain ⟨x, e6, h⟩ := bindSome h
 obtain ⟨b, e7, h⟩ := bindSome h
 obtain ⟨y, e8, h⟩ := bindSome h
 obtain ⟨hd, h⟩ := condSome h
 simp only [Bool.and_eq_true] at hd
 obtain ⟨⟨d1, d2⟩, d3, d5, d6⟩ := hd
 cases h
 obtain ⟨⟨⟨d4, q5⟩, q6⟩, q1, q2, q3, q4⟩ := hp
 have d3 := Nat.eq_of_beq_eq_true d3
 have hu := vSlice_eq e6
 have hv := vSlice_eq f1
 rw [Nat.eq_of_beq_eq_true d1] at hu
 have hb := cellsX_eq e8
 rw [kEq_eq2 d2, d3] at hb
 have hH : s.H x.1 = some (.cells y.1 e .row) := by
  have := Mem.get_H e7
  rw [hb] at this
  exact this
 have hH2 : s.H q.1 = some (.cells d.1 d.2.1 d.2.2) := by
  have := Mem.get_H f2
  rw [cellsX_eq f3] at this
  exact this
 have e5 : sliceCells s.H sz v = some (q.2.2.1, (d.1.drop q.2.1).take (q.2.2.1 * sz)) := by
  rw [hv]
  simp only [sliceCells, hH2, q5, if_true]
 have q7 := q6
 have d4' : ¬ q.2.2.1 = 0 := by omega
 subst hu
 simp only [xAppend, aAppend, e1, e2, e3, e4, e5, Option.bind_some, hc, q7, and_self, if_true, d4', if_false, hH, q1, q2, q3, q4, XB.of, d5, d6, Bool.and_true, cond_true]
theorem vGrowN_sound {op : Op} {p : Prop} {r : XR} (hd : slotOK dst = true) (h : vGrowN P s dst op = some (p, r)) (hp : p) : xOp Ex.zero P ro s dst op = some r := by
 unfold vGrowN at h
 split at h
 · rename_i c
   obtain ⟨cal, ar, ats⟩ := c
   simp only at h
   split at h
   · rename_i x y t t' h2 h3
     obtain ⟨ht, h⟩ := condSome h
     obtain ⟨u, e1, h⟩ := bindSome h
     obtain ⟨v, e2, h⟩ := bindSome h
     have := vGrowNV_sound h hp
     simp only [xOp, hd, cond_true, aPure, aAlloc, xEff, xCall, xBuiltin, h2, h3, ht, e1, e2, Option.bind_some, this]
   · cases h
 · cases h
theorem vSameV_sound {t : TypeId} {u v : Value} {p : Prop} {r : XR} (h : vSameV P s dst t u v = some (p, r)) (hp : p) : xAppend P s dst t u v = some r := by
 unfold vSameV at h
 obtain ⟨e, e1, h⟩ := bindSome h
 obtain ⟨sz, e2, h⟩ := bindSome h
 obtain ⟨by_, e3, h⟩ := bindSome h
 obtain ⟨z, e4, h⟩ := bindSome h
 obtain ⟨q, f1, h⟩ := bindSome h
 obtain ⟨c0, f2, h⟩ := bindSome h
 obtain ⟨d, f3, h⟩ := bindSome h
 obtain ⟨hc, h⟩ := condSome h
 have hc := of_decide_eq_true hc
 obtain ⟨x, e6, h⟩ := bindSome h
 obtain ⟨hd, h⟩ := condSome h
 cases h
 obtain ⟨q1, q2⟩ := hp
 have hu := vSlice_eq e6
 rw [Nat.eq_of_beq_eq_true hd] at hu
 have hv := vSlice_eq f1
 have hH2 : s.H q.1 = some (.cells d.1 d.2.1 d.2.2) := by
  have := Mem.get_H f2
  rw [cellsX_eq f3] at this
  exact this
 have e5 : sliceCells s.H sz v = some (q.2.2.1, (d.1.drop q.2.1).take (q.2.2.1 * sz)) := by
  rw [hv]
  simp only [sliceCells, hH2, q2, if_true]
 rw [q1] at e5
 subst hu
 simp only [xAppend, aAppend, e1, e2, e3, e4, e5, Option.bind_some, hc, Nat.zero_mul, List.take_zero, List.all_nil, and_self, if_true]
theorem vSame_sound {op : Op} {p : Prop} {r : XR} (hd : slotOK dst = true) (h : vSame P s dst op = some (p, r)) (hp : p) : xOp Ex.zero P ro s dst op = some r := by
 unfold vSame at h
 split at h
 · rename_i c
   obtain ⟨cal, ar, ats⟩ := c
   simp only at h
   split at h
   · rename_i x y t t' h2 h3
     obtain ⟨ht, h⟩ := condSome h
     obtain ⟨u, e1, h⟩ := bindSome h
     obtain ⟨v, e2, h⟩ := bindSome h
     have := vSameV_sound h hp
     simp only [xOp, hd, cond_true, aPure, aAlloc, xEff, xCall, xBuiltin, h2, h3, ht, e1, e2, Option.bind_some, this]
   · cases h
 · cases h
theorem vStore_sound {op : Op} {p : Prop} {r : XR} (hd : slotOK dst = true) (h : vStore P s dst op = some (p, r)) (hp : p) : xOp Ex.zero P ro s dst op = some r := by
 unfold vStore at h
 split at h
 · rename_i t x y
   obtain ⟨u, e1, h⟩ := bindSome h
   obtain ⟨v, e2, h⟩ := bindSome h
   obtain ⟨a, e3, h⟩ := bindSome h
   obtain ⟨b, e4, h⟩ := bindSome h
   obtain ⟨c, e5, h⟩ := bindSome h
   obtain ⟨z, e6, h⟩ := bindSome h
   obtain ⟨hc, h⟩ := condSome h
   cases h
   simp only [Bool.and_eq_true, Bool.not_eq_true'] at hc
   obtain ⟨⟨c1, c2⟩, c3, c4⟩ := hc
   have c1 := Nat.eq_of_beq_eq_true c1
   have hu := vPtr_eq e3
   subst hu
   have hb := cellsX_eq e5
   have hH : s.H a.1 = some (.cells c.1 c.2.1 c.2.2) := by
    have := Mem.get_H e4
    rw [hb] at this
    exact this
   have hk : c.2.2 ≠ .ro := by
    intro hk
    rw [hk] at c2
    cases c2
   simp only [xOp, hd, cond_true, aPure, aAlloc, xEff, e1, e2, Option.bind_some, e6, c1, if_true, hH, storeB, ne_eq, hk, not_false_eq_true, hp, c3, and_self, xWrite, XB.of, c4]
 · cases h
theorem vStoreP_sound {op : Op} {cs : List Value} {p : Prop} {r : XR} (hd : slotOK dst = true) (h : vStoreP P s dst op cs = some (p, r)) (hp : p) : xOp Ex.zero P ro s dst op = some r := by
 unfold vStoreP at h
 split at h
 · rename_i t x y
   obtain ⟨u, e1, h⟩ := bindSome h
   obtain ⟨v, e2, h⟩ := bindSome h
   obtain ⟨a, e3, h⟩ := bindSome h
   obtain ⟨b, e4, h⟩ := bindSome h
   obtain ⟨c, e5, h⟩ := bindSome h
   obtain ⟨z, e6, h⟩ := bindSome h
   obtain ⟨hc, h⟩ := condSome h
   cases h
   obtain ⟨hp, rfl⟩ := hp
   refine vStore_sound (ro := ro) (p := a.2 + v.cells.toList.length ≤ c.1.length) hd ?_ hp
   simp only [vStore, e1, e2, e3, e4, e5, e6, hc, Option.bind_some, cond_true]
 · cases h
theorem vMset_sound {op : Op} {es' : List (Value × Value)} {p : Prop} {r : XR} (hd : slotOK dst = true) (h : vMset P s dst op es' = some (p, r)) (hp : p) : xOp Ex.zero P ro s dst op = some r := by
 unfold vMset at h
 split at h
 · rename_i t x k y
   obtain ⟨u, e1, h⟩ := bindSome h
   obtain ⟨kv, e2, h⟩ := bindSome h
   obtain ⟨v, e3, h⟩ := bindSome h
   obtain ⟨i, e4, h⟩ := bindSome h
   obtain ⟨b, e5, h⟩ := bindSome h
   obtain ⟨es, e6, h⟩ := bindSome h
   obtain ⟨ke, e7, h⟩ := bindSome h
   obtain ⟨hc, h⟩ := condSome h
   simp only [Bool.and_eq_true] at hc
   obtain ⟨⟨c1, c2⟩, c3⟩ := hc
   cases h
   have hu : u = .map (some i) := by
    unfold vMap at e4
    split at e4 <;> cases e4
    rfl
   have hb : b = .map es := by
    unfold mapX at e6
    split at e6 <;> cases e6
    rfl
   subst hu
   have hH : s.H i = some (.map es) := by
    have := Mem.get_H e5
    rw [hb] at this
    exact this
   have hset : mapSet P s.H t (.map (some i)) kv v = some (i, .map es') := by
    have h1 := hp.h
    simp only [mapSet, e7, Option.bind_some, c1, c2, and_self, if_true, hH]
    obtain ⟨r, hr, h1⟩ := Option.bind_eq_some_iff.1 h1
    rw [hr, Option.bind_some]
    cases r with
    | none => simp only [Option.some.injEq] at h1; subst h1; rfl
    | some q =>
     obtain ⟨j, x0⟩ := q
     simp only at h1 ⊢
     split at h1
     · rename_i e he
       rw [he]
       simp only
       split at h1
       · rename_i hcc
         rw [if_pos hcc]
         cases h1
         rfl
       · cases h1
     · cases h1
   simp only [xOp, hd, cond_true, aPure, aAlloc, xEff, e1, e2, e3, Option.bind_some, hset, xWrite, XB.of, c3]
 · cases h
theorem vAll_sound {K : XR → HS → Prop} {r i sn : Nat} {seen : List Nat} {es : List (Value × Value)} (hd : slotOK dst = true) (hr : Nat.ble r 1000000000 = true) : ∀ {l : List Nat}, vAll s dst r i sn seen es K hs l →
    ∀ j ∈ l, ∀ e, es[j]? = some e → OkK K (s.a.put dst (.tuple #[.bool true, e.1, e.2])) (upd s.H r (.iter i sn (seen ++ [j]) es.length)) := by
 intro l
 induction l with
 | nil => intro _ j hj; cases hj
 | cons k l ih =>
  intro h j hj e he
  rcases List.mem_cons.1 hj with rfl | hj
  · have h1 := h.1
    rw [he] at h1
    refine ⟨_, hs, h1, (St.putm_a hd).symm, ?_⟩
    rw [St.putm_H, Mem.put_H hr]
    rfl
  · exact ih h.2 j hj e he
theorem vNext_sound {op : Op} {K : XR → HS → Prop} (hd : slotOK dst = true) (h : vNext P s dst op K hs) : AOp P ro s.a s.H dst op (OkK K) (PanK K) := by
 unfold vNext at h
 split at h
 · rename_i x
   split at h
   · rename_i r hx
     split at h
     · rename_i i sn seen c hr
       split at h
       · rename_i es hi
         obtain ⟨hc, h⟩ := cond_false' h
         simp only [Bool.and_eq_true, Nat.ble_eq] at hc
         have hr2 : s.H r = some (.iter i sn seen c) := Mem.get_H hr
         have hi2 : s.H i = some (.map es) := Mem.get_H hi
         show AEff P ro s.a s.H dst (OkK K) (PanK K) (.next x false)
         simp only [AEff]
         refine ⟨_, hx, ?_⟩
         simp only [ANext, hr2, hi2]
         refine ⟨hc.1, ?_⟩
         split at h
         · exact h.elim
         · rename_i j l hl
           rw [hl]
           exact ⟨fun hn => (by cases hn), vAll_sound hd (Nat.ble_eq_true_of_le hc.2) h⟩
       · exact h.elim
     · exact h.elim
   · exact h.elim
 · exact h.elim
theorem vOp_sound (htt : TT.tt = true) (hX : VSound P N X) {op : Op} {K : XR → HS → Prop} (h : vOp X P ro s dst op K hs) : AOp P ro s.a s.H dst op (OkK K) (PanK K) := by
 unfold vOp at h
 obtain ⟨hd, h⟩ := cond_false' h
 split at h
 · rename_i c hc
   cases op with
   | call c0 =>
    obtain ⟨callee, args, ats⟩ := c0
    have hp : aPure P (s.a.eval P) s.H (.call ⟨callee, args, ats⟩) = none := by
     cases callee <;> first | rfl | (cases hc)
    have hal : aAlloc P (s.a.eval P) (.call ⟨callee, args, ats⟩) = none := by
     cases callee <;> first | rfl | (cases hc)
    unfold AOp
    rw [hp]
    simp only
    rw [hal]
    simp only
    cases callee with
    | value f =>
     cases hc
     simp only [vCall] at h
     split at h
     · rename_i fv vs hfv hvs
       simp only [AEff]
       exact ⟨fv, hfv, vs, hvs, ACall_mono (vRet_sound hd) (vFnVal_sound hX h)⟩
     · exact h.elim
    | invoke r name =>
     cases hc
     simp only [vCall] at h
     split at h
     · rename_i fv vs hfv hvs
       simp only [AEff]
       exact ⟨fv, hfv, vs, hvs, AInvoke_mono (vRet_sound hd) (vInvoke_sound hX h)⟩
     · exact h.elim
    | builtin b => cases hc
   | _ => cases hc
 · split at h
   · rename_i v hs' ht
     obtain ⟨hv, hk⟩ := h
     unfold AOp
     rw [cAs_sound hv]
     exact ⟨_, hs', hk, (St.put_a hd).symm, St.put_H.symm⟩
   · rename_i h1 h2 _ ht
     split at h
     · rename_i b hv
       unfold AOp
       rw [hv]
       cases b with
       | true => exact ⟨_, h1, h.1 rfl, (St.put_a hd).symm, St.put_H.symm⟩
       | false => exact ⟨_, h2, h.2 rfl, (St.put_a hd).symm, St.put_H.symm⟩
     · exact h.elim
   · rename_i r hs' ht
     exact AOp_k h.2 (xOp_sound htt ex_zero_sound h.1)
   · rename_i hs' ht
     split at h
     · rename_i pr hpr
       exact AOp_k h.2 (xOp_sound htt ex_zero_sound (vStore_sound hd hpr h.1))
     · exact h.elim
   · rename_i cs hs' ht
     split at h
     · rename_i pr hpr
       exact AOp_k h.2 (xOp_sound htt ex_zero_sound (vStoreP_sound hd hpr h.1))
     · exact h.elim
   · rename_i hs' ht
     split at h
     · rename_i pr hpr
       exact AOp_k h.2 (xOp_sound htt ex_zero_sound (vGrow_sound hd hpr h.1))
     · exact h.elim
   · rename_i hs' ht
     split at h
     · rename_i pr hpr
       exact AOp_k h.2 (xOp_sound htt ex_zero_sound (vSame_sound hd hpr h.1))
     · exact h.elim
   · rename_i hs' ht
     split at h
     · rename_i pr hpr
       exact AOp_k h.2 (xOp_sound htt ex_zero_sound (vGrowN_sound hd hpr h.1))
     · exact h.elim
   · rename_i n cs hs' ht
     split at h
     · rename_i pr hpr
       obtain ⟨h1, h2⟩ := h
       obtain ⟨hf, h2⟩ := cond_false' h2
       refine AOp_k h2 (xOp_sound htt ex_zero_sound ?_)
       simp only [xOp, hd, cond_true, vMk_pure hpr, vMk_sound hpr h1, XB.of, Option.bind_some, hf]
     · exact h.elim
   · rename_i es hs' ht
     split at h
     · rename_i pr hpr
       exact AOp_k h.2 (xOp_sound htt ex_zero_sound (vMset_sound hd hpr h.1))
     · exact h.elim
   · rename_i o hs' _ _ _ _ _ _ _ _ _ _ ht
     split at h
     · rename_i r hr
       exact AOp_k h (xOp_sound htt ex_zero_sound hr)
     · exact vNext_sound hd h
end
end Go.Ab
