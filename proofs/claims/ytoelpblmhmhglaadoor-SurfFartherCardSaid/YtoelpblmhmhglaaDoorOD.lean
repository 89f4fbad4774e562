/- ABSTRACT MEMORY, 21: closed runs, reckoned: the reckoner. -/
import Derived.Test.YtoelpblmhmhglaaDoorOC
namespace Go.Ab
open Go Go.RowKit
inductive Tr (α : Type) where
 | nil
 | node (l : Tr α) (v : Option α) (r : Tr α)
noncomputable def Tr.get {α : Type} (t : Tr α) : Nat → Option α :=
 Tr.rec (motive := fun _ => Nat → Option α) (fun _ => none) (fun _ v _ gl gr k => Nat.rec (motive := fun _ => Option α) v (fun j _ => Nat.rec (motive := fun _ => Option α) (gl (Nat.div j 2)) (fun _ _ => gr (Nat.div j 2)) (Nat.mod j 2)) k) t
noncomputable def Tr.set {α : Type} (d : Nat) : Tr α → Nat → α → Tr α :=
 Nat.rec (motive := fun _ => Tr α → Nat → α → Tr α) (fun t _ _ => t) (fun _ ih t k v => Tr.rec (motive := fun _ => Tr α)
  (Nat.rec (motive := fun _ => Tr α) (.node .nil (some v) .nil) (fun j _ => Nat.rec (motive := fun _ => Tr α) (.node (ih .nil (Nat.div j 2) v) none .nil) (fun _ _ => .node .nil none (ih .nil (Nat.div j 2) v)) (Nat.mod j 2)) k)
  (fun l x r _ _ => Nat.rec (motive := fun _ => Tr α) (.node l (some v) r) (fun j _ => Nat.rec (motive := fun _ => Tr α) (.node (ih l (Nat.div j 2) v) x r) (fun _ _ => .node l x (ih r (Nat.div j 2) v)) (Nat.mod j 2)) k) t) d
section
variable {α : Type}
theorem Tr.get_nil {k : Nat} : (Tr.nil : Tr α).get k = none := rfl
theorem half_odd {j : Nat} (h : j % 2 = 0) : (j + 1) % 2 = 1 ∧ (j + 1) / 2 = j / 2 := by omega
theorem half_even {j : Nat} (h : j % 2 = 1) : (j + 1) % 2 = 0 ∧ (j + 1) / 2 - 1 = j / 2 := by omega
theorem mod2 (j : Nat) : j % 2 = 0 ∨ j % 2 = 1 := by omega
theorem Tr.get_node {l r : Tr α} {v : Option α} {k : Nat} : (Tr.node l v r).get k = if k = 0 then v else if k % 2 = 1 then l.get (k / 2) else r.get (k / 2 - 1) := by
 cases k with
 | zero => rfl
 | succ j =>
  have e : (Tr.node l v r).get (j + 1) = Nat.rec (motive := fun _ => Option α) (l.get (j / 2)) (fun _ _ => r.get (j / 2)) (j % 2) := rfl
  rw [e, if_neg (by omega)]
  rcases mod2 j with h | h
  · rw [h, if_pos (half_odd h).1, (half_odd h).2]
    rfl
  · rw [h, if_neg (by rw [(half_even h).1]; simp), (half_even h).2]
    rfl
theorem Tr.set_node {d k : Nat} {l r : Tr α} {x : Option α} {v : α} : Tr.set (d + 1) (.node l x r) k v = if k = 0 then Tr.node l (some v) r else if k % 2 = 1 then Tr.node (Tr.set d l (k / 2) v) x r else Tr.node l x (Tr.set d r (k / 2 - 1) v) := by
 cases k with
 | zero => rfl
 | succ j =>
  have e : Tr.set (d + 1) (.node l x r) (j + 1) v = Nat.rec (motive := fun _ => Tr α) (.node (Tr.set d l (j / 2) v) x r) (fun _ _ => .node l x (Tr.set d r (j / 2) v)) (j % 2) := rfl
  rw [e, if_neg (by omega)]
  rcases mod2 j with h | h
  · rw [h, if_pos (half_odd h).1, (half_odd h).2]
    rfl
  · rw [h, if_neg (by rw [(half_even h).1]; simp), (half_even h).2]
    rfl
theorem Tr.set_nil {d k : Nat} {v : α} : Tr.set (d + 1) .nil k v = Tr.set (d + 1) (.node .nil none .nil) k v := by
 cases k with
 | zero => rfl
 | succ j => rfl
theorem Tr.get_set {d : Nat} : ∀ {t : Tr α} {k j : Nat} {v : α}, k + 1 < 2 ^ d → (Tr.set d t k v).get j = if j = k then some v else t.get j := by
 induction d with
 | zero => intro t k j v h; simp at h
 | succ d ih =>
  have key : ∀ {l r : Tr α} {x : Option α} {k j : Nat} {v : α}, k + 1 < 2 ^ (d + 1) → (Tr.set (d + 1) (.node l x r) k v).get j = if j = k then some v else (Tr.node l x r).get j := by
   intro l r x k j v h
   rw [Nat.pow_succ] at h
   rw [Tr.set_node]
   by_cases h0 : k = 0
   · subst h0
     simp only [if_true, Tr.get_node]
     by_cases hj : j = 0 <;> simp [hj]
   · simp only [h0, if_false]
     by_cases h1 : k % 2 = 1
     · simp only [h1, if_true, Tr.get_node]
       rw [ih (by omega)]
       by_cases hj : j = 0
       · subst hj; simp; omega
       · simp only [hj, if_false]
         by_cases hj1 : j % 2 = 1
         · simp only [hj1, if_true]
           by_cases e : j = k
           · subst e; simp
           · have : j / 2 ≠ k / 2 := by omega
             simp [e, this]
         · have : j ≠ k := by rintro rfl; exact hj1 h1
           simp [hj1, this]
     · simp only [h1, if_false, Tr.get_node]
       rw [ih (by omega)]
       by_cases hj : j = 0
       · subst hj; simp; omega
       · simp only [hj, if_false]
         by_cases hj1 : j % 2 = 1
         · have : j ≠ k := by rintro rfl; exact h1 hj1
           simp [hj1, this]
         · simp only [hj1, if_false]
           by_cases e : j = k
           · subst e; simp
           · have : j / 2 - 1 ≠ k / 2 - 1 := by omega
             simp [e, this]
  intro t k j v h
  cases t with
  | nil =>
   rw [Tr.set_nil, key h, Tr.get_node]
   simp [Tr.get_nil]
  | node l x r => exact key h
end
class PR where
 prog : Program
inductive Loc where
 | top (f : Nat)
 | l (p : Loc)
 | r (p : Loc)
def kidL : Code → Code
 | .seq a _ => a
 | .cond _ a _ => a
 | .block _ a => a
 | .loop a => a
 | .scope a => a
 | .rangeFunc _ _ a _ => a
 | _ => .skip
def kidR : Code → Code
 | .seq _ b => b
 | .cond _ _ b => b
 | .rangeFunc _ _ _ b => b
 | _ => .skip
def bodyOf (P : Program) (f : Nat) : Code := ((P.funcs[f]?).bind fun fn => fn.body).getD .skip
noncomputable def codeGet [PR] (p : Loc) : Code := Loc.rec (motive := fun _ => Code) (fun f => bodyOf PR.prog f) (fun _ c => kidL c) (fun _ c => kidR c) p
noncomputable def locEq (p : Loc) : Loc → Bool :=
 Loc.rec (motive := fun _ => Loc → Bool) (fun f q => Loc.rec (motive := fun _ => Bool) (fun g => Nat.beq f g) (fun _ _ => false) (fun _ _ => false) q)
  (fun _ ih q => Loc.rec (motive := fun _ => Bool) (fun _ => false) (fun q' _ => ih q') (fun _ _ => false) q) (fun _ ih q => Loc.rec (motive := fun _ => Bool) (fun _ => false) (fun _ _ => false) (fun q' _ => ih q') q) p
theorem locEq_eq {p : Loc} : ∀ {q : Loc}, locEq p q = true → p = q := by
 induction p with
 | top f => intro q h; cases q with
  | top g => rw [Nat.eq_of_beq_eq_true (show Nat.beq f g = true from h)]
  | _ => exact absurd h (by simp [locEq])
 | l p ih => intro q h; cases q with
  | l q => rw [ih (show locEq p q = true from h)]
  | _ => exact absurd h (by simp [locEq])
 | r p ih => intro q h; cases q with
  | r q => rw [ih (show locEq p q = true from h)]
  | _ => exact absurd h (by simp [locEq])
structure XLoop where
 state : LoopState
 pending : Option Code
 n : Nat
 t : Tr (Option Value)
 params : Array Tmp
 loc : Loc
inductive XB where
 | dead
 | cells (cs : List Value) (e : TypeId) (k : BKind)
 | map (es : List (Value × Value))
 | loop (L : XLoop)
 | defs
 | iter (i s : Nat) (seen : List Nat) (c : Nat)
section
variable [PR]
noncomputable def tF (t : Tr (Option Value)) : Nat → Option Value := fun x => Option.casesOn (motive := fun _ => Option Value) (t.get x) (some undef) fun o => o
noncomputable def XLoop.a (L : XLoop) : ALoop := ⟨L.state, L.pending, ⟨L.n, tF L.t⟩, L.params, codeGet (.l L.loc), codeGet (.r L.loc)⟩
noncomputable def XB.a : XB → ABlk
 | .dead => .dead
 | .cells cs e k => .cells cs e k
 | .map es => .map es
 | .loop L => .loop L.a
 | .defs => .defs
 | .iter i s seen c => .iter i s seen c
def XB.of : ABlk → Option XB
 | .dead => some .dead
 | .cells cs e k => some (.cells cs e k)
 | .map es => some (.map es)
 | .defs => some .defs
 | .loop _ => none
 | .iter i s seen c => some (.iter i s seen c)
theorem XB.of_a {b : ABlk} {x : XB} (h : XB.of b = some x) : x.a = b := by cases b <;> cases h <;> rfl
structure Mem where
 h : Tr XB
 nx : Nat
noncomputable def Mem.H (m : Mem) : AHeap := fun i => Option.casesOn (motive := fun _ => Option ABlk) (m.h.get i) none fun b => some b.a
structure St where
 n : Nat
 t : Tr (Option Value)
 ds : List Deferred
 m : Mem
noncomputable def St.a (s : St) : AAct := ⟨s.n, tF s.t, s.ds⟩
noncomputable def St.H (s : St) : AHeap := s.m.H
noncomputable def Mem.put (m : Mem) (i : Nat) (b : XB) : Mem := ⟨Tr.set 40 m.h i b, m.nx⟩
noncomputable def Mem.new (m : Mem) (b : XB) : Mem := ⟨Tr.set 40 m.h m.nx b, Nat.succ m.nx⟩
noncomputable def Mem.free (m : Mem) : Bool := Option.casesOn (motive := fun _ => Bool) (m.h.get m.nx) (Nat.ble m.nx 1000000000) fun _ => false
noncomputable def St.put (s : St) (dst : Option Tmp) (v : Value) : St :=
 Option.casesOn (motive := fun _ => St) dst s fun d => { s with t := Tr.set 40 s.t d (some (cond (Nat.ble (Nat.succ d) s.n) v undef)) }
noncomputable def slotOK (dst : Option Tmp) : Bool := Option.casesOn (motive := fun _ => Bool) dst true fun d => Nat.ble d 1000000000
section
theorem lt40 {k : Nat} (h : Nat.ble k 1000000000 = true) : k + 1 < 2 ^ 40 := by
 have _ := PR.prog
 have h1 : k ≤ 1000000000 := Nat.le_of_ble_eq_true h
 have h2 : (1000000000 : Nat) + 1 < 2 ^ 40 := by decide
 exact Nat.lt_of_le_of_lt (Nat.succ_le_succ h1) h2
theorem tF_set {t : Tr (Option Value)} {d : Nat} {o : Option Value} (h : Nat.ble d 1000000000 = true) : tF (Tr.set 40 t d o) = fun x => if x = d then o else tF t x := by
 funext x
 unfold tF
 rw [Tr.get_set (lt40 h)]
 by_cases e : x = d
 · simp only [e, if_true]
 · simp only [e, if_false]
theorem ble_cond {d n : Nat} {v : Value} : some (cond (Nat.ble (Nat.succ d) n) v undef) = if d < n then some v else some undef := by
 have _ := PR.prog
 by_cases hl : d < n
 · rw [Nat.ble_eq_true_of_le (Nat.succ_le_of_lt hl), if_pos hl]; rfl
 · have : Nat.ble (Nat.succ d) n = false := by
    cases hb : Nat.ble (Nat.succ d) n with
    | false => rfl
    | true => exact absurd (Nat.le_of_ble_eq_true hb) hl
   rw [this, if_neg hl]; rfl
theorem St.put_a {s : St} {dst : Option Tmp} {v : Value} (h : slotOK dst = true) : (s.put dst v).a = s.a.put dst v := by
 cases dst with
 | none => rfl
 | some d =>
  have e : (s.put (some d) v).a = ⟨s.n, tF (Tr.set 40 s.t d (some (cond (Nat.ble (Nat.succ d) s.n) v undef))), s.ds⟩ := rfl
  rw [e, tF_set h, ble_cond]
  rfl
theorem St.put_H {s : St} {dst : Option Tmp} {v : Value} : (s.put dst v).H = s.H := by cases dst <;> rfl
theorem Mem.put_H {m : Mem} {i : Nat} {b : XB} (h : Nat.ble i 1000000000 = true) : (m.put i b).H = upd m.H i b.a := by
 funext j
 unfold Mem.H Mem.put upd
 simp only
 rw [Tr.get_set (lt40 h)]
 by_cases e : j = i
 · subst e; simp
 · simp [e]
theorem Mem.new_H {m : Mem} {b : XB} (h : m.free = true) : (m.new b).H = upd m.H m.nx b.a ∧ m.H m.nx = none := by
 unfold Mem.free at h
 cases hg : m.h.get m.nx with
 | some x => rw [hg] at h; cases h
 | none =>
  rw [hg] at h
  refine ⟨?_, by simp [Mem.H, hg]⟩
  funext j
  unfold Mem.H Mem.new upd
  simp only
  rw [Tr.get_set (lt40 h)]
  by_cases e : j = m.nx
  · subst e; simp
  · simp [e]
end
end
def adEq : Option Addr → Option Addr → Bool
 | none, none => true
 | some ⟨i, o, none⟩, some ⟨j, p, none⟩ => Nat.beq i j && Nat.beq o p
 | _, _ => false
theorem adEq_eq {a b : Option Addr} (h : adEq a b = true) : a = b := by
 unfold adEq at h
 split at h
 · rfl
 · simp only [Bool.and_eq_true] at h; rw [Nat.eq_of_beq_eq_true h.1, Nat.eq_of_beq_eq_true h.2]
 · cases h
def rfEq : Option Nat → Option Nat → Bool
 | none, none => true
 | some i, some j => Nat.beq i j
 | _, _ => false
theorem rfEq_eq {a b : Option Nat} (h : rfEq a b = true) : a = b := by
 unfold rfEq at h
 split at h
 · rfl
 · rw [Nat.eq_of_beq_eq_true h]
 · cases h
def veqW (f : Value → Value → Bool) (g : List Value → List Value → Bool) (u v : Value) : Bool :=
 match u with
 | .bool a => (match v with | .bool b => a == b | _ => false)
 | .int j a => (match v with | .int k b => decide (j = k) && decide (a = b) | _ => false)
 | .string a => (match v with | .string b => decide (a = b) | _ => false)
 | .pointer a => (match v with | .pointer b => adEq a b | _ => false)
 | .slice a n c => (match v with | .slice b n' c' => adEq a b && Nat.beq n n' && Nat.beq c c' | _ => false)
 | .map a => (match v with | .map b => rfEq a b | _ => false)
 | .func h a c => (match v with | .func k b d => decide (h = k) && g a.toList b.toList && g c.toList d.toList | _ => false)
 | .nilFunc => (match v with | .nilFunc => true | _ => false)
 | .nilIface => (match v with | .nilIface => true | _ => false)
 | .iface t a => (match v with | .iface s b => Nat.beq t s && f a b | _ => false)
 | .agg a => (match v with | .agg b => g a.toList b.toList | _ => false)
 | .tuple a => (match v with | .tuple b => g a.toList b.toList | _ => false)
 | _ => false
def vseqW (f : Value → Value → Bool) (g : List Value → List Value → Bool) : List Value → List Value → Bool
 | [], [] => true
 | u :: us, v :: vs => f u v && g us vs
 | _, _ => false
def veqN : Nat → (Value → Value → Bool) × (List Value → List Value → Bool)
 | 0 => (fun _ _ => false, fun _ _ => false)
 | n + 1 => (veqW (veqN n).1 (veqN n).2, vseqW (veqN n).1 (veqN n).2)
def veq (n : Nat) : Value → Value → Bool := (veqN n).1
theorem veqN_eq (n : Nat) : (∀ u v, (veqN n).1 u v = true → u = v) ∧ (∀ us vs, (veqN n).2 us vs = true → us = vs) := by
 induction n with
 | zero => exact ⟨fun u v h => by simp [veqN] at h, fun us vs h => by simp [veqN] at h⟩
 | succ n ih =>
  have arr : ∀ a b : Array Value, (veqN n).2 a.toList b.toList = true → a = b := fun a b h => by
   have := ih.2 _ _ h
   exact Array.toList_inj.1 this
  refine ⟨fun u v h => ?_, fun us vs h => ?_⟩
  · change veqW (veqN n).1 (veqN n).2 u v = true at h
    cases u with
    | bool a => cases v <;> first | cases h; done | (simp [veqW] at h; rw [h])
    | int j a => cases v <;> first | cases h; done | (simp [veqW] at h; rw [h.1, h.2])
    | string a => cases v <;> first | cases h; done | (simp [veqW] at h; rw [h])
    | pointer a => cases v <;> first | cases h; done | (simp only [veqW] at h; rw [adEq_eq h])
    | slice a x y => cases v <;> first | cases h; done | (simp only [veqW, Bool.and_eq_true] at h; rw [adEq_eq h.1.1, Nat.eq_of_beq_eq_true h.1.2, Nat.eq_of_beq_eq_true h.2])
    | map a => cases v <;> first | cases h; done | (simp only [veqW] at h; rw [rfEq_eq h])
    | func f a c => cases v <;> first | cases h; done | (simp only [veqW, Bool.and_eq_true, decide_eq_true_eq] at h; rw [h.1.1, arr _ _ h.1.2, arr _ _ h.2])
    | nilFunc => cases v <;> first | rfl | cases h
    | nilIface => cases v <;> first | rfl | cases h
    | iface t a => cases v <;> first | cases h; done | (simp only [veqW, Bool.and_eq_true] at h; rw [Nat.eq_of_beq_eq_true h.1, ih.1 _ _ h.2])
    | agg a => cases v <;> first | cases h; done | (simp only [veqW] at h; rw [arr _ _ h])
    | tuple a => cases v <;> first | cases h; done | (simp only [veqW] at h; rw [arr _ _ h])
    | _ => cases h
  · change vseqW (veqN n).1 (veqN n).2 us vs = true at h
    unfold vseqW at h
    split at h
    · rfl
    · simp only [Bool.and_eq_true] at h; rw [ih.1 _ _ h.1, ih.2 _ _ h.2]
    · cases h
theorem veq_eq {n : Nat} {u v : Value} (h : veq n u v = true) : u = v := (veqN_eq n).1 u v h
inductive XR where
 | ok (s : St)
 | pan (v : Value) (m : Mem)
structure Ex where
 code : Option Nat → Loc → St → Option (AExit × St)
 loop : Option Nat → Loc → St → Option (AExit × St)
 codeS : Loc → AMode → St → Option (AExit × AMode × St)
 call : FuncId → List Value → Mem → Option (ARes × Mem)
 dcall : FuncId → List Value → AMode → Mem → Option (Value × AMode × Mem)
 round : Nat → List Value → Mem → Option (ARes × Mem)
def Ex.zero : Ex := ⟨fun _ _ _ => none, fun _ _ _ => none, fun _ _ _ => none, fun _ _ _ => none, fun _ _ _ _ => none, fun _ _ _ => none⟩
section
variable [PR]
noncomputable def xFnVal (X : Ex) (P : Program) (fv : Value) (args : List Value) (m : Mem) : Option (ARes × Mem) :=
 match fv with
 | .func (.func f) ⟨first⟩ ⟨cap⟩ => X.call f (first ++ args ++ cap) m
 | .func (.yield l) ⟨first⟩ _ => X.round l (first ++ args) m
 | .func (.via t path f ptr) ⟨first⟩ _ =>
  match first ++ args with
  | x :: rest => ((aFollow P path.toList t x).bind fun tv => aRecv P tv.1 tv.2 ptr).bind fun u => X.call f (u :: rest) m
  | [] => none
 | _ => none
noncomputable def xInvoke (X : Ex) (P : Program) (rv : Value) (name : String) (args : List Value) (m : Mem) : Option (ARes × Mem) :=
 match rv with
 | .iface t v => (aMethod P t v name).bind fun fu => X.call fu.1 (fu.2 :: args) m
 | _ => none
noncomputable def xRet (s : St) (dst : Option Tmp) (r : Option (ARes × Mem)) : Option XR :=
 r.bind fun rm => match rm.1 with
  | .ret v => some (.ok ({ s with m := rm.2 }.put dst v))
  | .pan v => some (.pan v rm.2)
noncomputable def xWrite (s : St) (dst : Option Tmp) (v : Value) (i : Nat) (b : ABlk) : Option XR :=
 (XB.of b).bind fun b => cond (Nat.ble i 1000000000) (some (.ok ({ s with m := s.m.put i b }.put dst v))) none
noncomputable def xAppend (P : Program) (s : St) (dst : Option Tmp) (t : TypeId) (u v : Value) : Option XR :=
 (aAppend P s.H t u v).bind fun r =>
  match r with
  | .same v => some (.ok (s.put dst v))
  | .inpl v i b => xWrite s dst v i b
  | .grow _ n b =>
   (XB.of b).bind fun b =>
    match u with
    | .slice none 0 0 => cond s.m.free (some (.ok ({ s with m := s.m.new b }.put dst (.slice (some ⟨s.m.nx, 0, none⟩) n n)))) none
    | .slice (some ⟨i, 0, none⟩) _ _ => cond ((s.m.put i .dead).free && Nat.ble i 1000000000) (some (.ok ({ s with m := (s.m.put i .dead).new b }.put dst (.slice (some ⟨s.m.nx, 0, none⟩) n n)))) none
    | _ => none
noncomputable def xBuiltin (P : Program) (s : St) (dst : Option Tmp) (bi : Builtin) (args : List Operand) (ats : List TypeId) : Option XR :=
 match bi with
 | .append => match args, ats with
  | [x, y], [t, t'] => cond (Nat.beq t' t) ((s.a.eval P x).bind fun u => (s.a.eval P y).bind fun v => xAppend P s dst t u v) none
  | _, _ => none
 | .copy => match args, ats with
  | [x, y], [t, t'] => (s.a.eval P x).bind fun u => (s.a.eval P y).bind fun v => (aCopy P s.H t t' u v).bind fun r =>
      match r.2 with
      | none => some (.ok (s.put dst (.int .i64 r.1)))
      | some (i, b) => xWrite s dst (.int .i64 r.1) i b
  | _, _ => none
 | .clear => match args, ats with
  | [x], [t] => (s.a.eval P x).bind fun u => (aClear P s.H t u).bind fun r =>
      match r with
      | none => some (.ok (s.put dst (.tuple #[])))
      | some (i, b) => xWrite s dst (.tuple #[]) i b
  | _, _ => none
 | .panic => match args with
  | [x] => (s.a.eval P x).bind fun u => match u with | .iface t v => some (.pan (.iface t v) s.m) | _ => none
  | _ => none
 | _ => none
noncomputable def xCall (X : Ex) (P : Program) (s : St) (dst : Option Tmp) (c : Call) : Option XR :=
 match c.callee with
 | .value f => (s.a.eval P f).bind fun fv => (evs (s.a.eval P) c.args.toList).bind fun vs => xRet s dst (xFnVal X P fv vs s.m)
 | .invoke r name => (s.a.eval P r).bind fun rv => (evs (s.a.eval P) c.args.toList).bind fun vs => xRet s dst (xInvoke X P rv name vs s.m)
 | .builtin b => xBuiltin P s dst b c.args.toList c.argTypes.toList
noncomputable def xDefer (P : Program) (ro : Option Nat) (s : St) (dst : Option Tmp) (c : Call) : Option XR :=
 match ro, c.callee with
 | none, .value f => (s.a.eval P f).bind fun fv => (evs (s.a.eval P) c.args.toList).bind fun vs =>
     match fv with
     | .func fn ⟨first⟩ cap => some (.ok ({ s with ds := ⟨.fn fn cap, ⟨first ++ vs⟩⟩ :: s.ds }.put dst undef))
     | _ => none
 | _, _ => none
noncomputable def xItOn (P : Program) (s : St) (dst : Option Tmp) (t : TypeId) (u : Value) : Option XR :=
 (aRange P s.H t u).bind fun b => (XB.of b).bind fun b => cond s.m.free (some (.ok ({ s with m := s.m.new b }.put dst (.pointer (some ⟨s.m.nx, 0, none⟩))))) none
noncomputable def xNext (s : St) (dst : Option Tmp) (u : Value) : Option XR :=
 match u with
 | .pointer (some ⟨r, 0, none⟩) => match s.H r with
  | some (.iter i sn seen c) => match s.H i with
   | some (.map es) => cond (Nat.ble es.length sn && Nat.ble sn c)
       (match leftI es.length seen with
       | [] => some (.ok (s.put dst (.tuple #[.bool false])))
       | [j] => (es[j]?).bind fun e => xWrite s dst (.tuple #[.bool true, e.1, e.2]) r (.iter i sn (seen ++ [j]) es.length)
       | _ => none) none
   | _ => none
  | _ => none
 | _ => none
noncomputable def xEff (X : Ex) (P : Program) (ro : Option Nat) (s : St) (dst : Option Tmp) (op : Op) : Option XR :=
 match op with
 | .store t x y => (s.a.eval P x).bind fun u => (s.a.eval P y).bind fun v =>
     match u with
     | .pointer (some ⟨i, o, none⟩) => if tSize P t = some v.cells.size then ((s.H i).bind fun b => storeB b o v.cells.toList).bind fun b => xWrite s dst undef i b else none
     | _ => none
 | .mapUpdate t x k y => (s.a.eval P x).bind fun u => (s.a.eval P k).bind fun kv => (s.a.eval P y).bind fun v => (mapSet P s.H t u kv v).bind fun r => xWrite s dst undef r.1 r.2
 | .insert t x k y => (s.a.eval P x).bind fun u => (s.a.eval P k).bind fun kv => (s.a.eval P y).bind fun v => (mapSet P s.H t u kv v).bind fun r => xWrite s dst undef r.1 r.2
 | .range t x => (s.a.eval P x).bind fun u => xItOn P s dst t u
 | .next x st => cond st none ((s.a.eval P x).bind fun u => xNext s dst u)
 | .entry x => (s.a.eval P x).bind fun u => (aStep s.H u).bind fun v => some (.ok (s.put dst v))
 | .call c => xCall X P s dst c
 | .panic x => (s.a.eval P x).bind fun u => match u with | .iface t v => some (.pan (.iface t v) s.m) | _ => none
 | .defer c => xDefer P ro s dst c
 | _ => none
noncomputable def xOp (X : Ex) (P : Program) (ro : Option Nat) (s : St) (dst : Option Tmp) (op : Op) : Option XR :=
 cond (slotOK dst)
  (match aPure P (s.a.eval P) s.H op with
  | some v => some (.ok (s.put dst v))
  | none =>
   match aAlloc P (s.a.eval P) op with
   | some (b, mk) => (XB.of b).bind fun b => cond s.m.free (some (.ok ({ s with m := s.m.new b }.put dst (mk s.m.nx)))) none
   | none => xEff X P ro s dst op)
  none
def kEq : BKind → BKind → Bool
 | .ro, .ro => true
 | .var, .var => true
 | .row, .row => true
 | _, _ => false
def beqB : ABlk → ABlk → Bool
 | .cells cs e k, .cells cs' e' k' => (veqN 1000).2 cs cs' && Nat.beq e e' && kEq k k'
 | .map [], .map [] => true
 | _, _ => false
def againLT (ops : Array Oper) (y : Nat) (D : List Nat) : List Nat := let A := ancOf ops ops.size (depsOf ops y); D.filter fun i => againAt ops i && !A.contains i
noncomputable def xAgain1 (P : Program) (s : St) (o : Oper) (d : Tmp) : Bool :=
 cond (isFloat o.op)
  (match aPure P (s.a.eval P) s.H o.op, s.a.f d with
  | some u, some v => veq 1000 u v
  | _, _ => false)
  (match aAlloc P (s.a.eval P) o.op, s.a.f d with
  | some (b, mk), some v => match nameOf v with
   | some z => veq 1000 v (mk z) && (match s.H z with | some b' => beqB b' b | none => false)
   | none => false
  | _, _ => false)
noncomputable def xAgain (P : Program) (ops : Array Oper) (y : Nat) (D : List Nat) (s : St) : Bool :=
 (againLT ops y D).all fun i => match ops[i]? with
  | some o => match o.dst with
   | some d => match aWanted ops s.a o with
    | some true => xAgain1 P s o d
    | some false => true
    | none => true
   | none => false
  | none => false
noncomputable def xSans (ops : List Oper) (t : Tr (Option Value)) : Tr (Option Value) :=
 match ops with
 | [] => t
 | o :: l => match o.dst with
  | some d => xSans l (Tr.set 40 t d none)
  | none => xSans l t
noncomputable def xFill : List Value → Nat → Tr (Option Value) → Tr (Option Value)
 | [], _, t => t
 | v :: l, k, t => xFill l (Nat.succ k) (Tr.set 40 t k (some v))
noncomputable def xSetPs (n : Nat) (t : Tr (Option Value)) : List (Tmp × Value) → Tr (Option Value)
 | [] => t
 | (d, v) :: l => xSetPs n (Tr.set 40 t d (some (cond (Nat.ble (Nat.succ d) n) v undef))) l
def isYield : Value → Bool
 | .func (.yield _) _ _ => true
 | _ => false
def isRecover : Op → Bool
 | .call ⟨.builtin .recover, _, _⟩ => true
 | _ => false
noncomputable def xSOps (P : Program) : List Oper → AMode → St → Option (AExit × AMode × St)
 | [], u, s => some (.normal, u, s)
 | o :: l, u, s => match o.guard with
  | none => cond (slotOK o.dst)
      (cond (isRecover o.op) (match u with | .pan v => xSOps P l .caught (s.put o.dst v) | u => xSOps P l u (s.put o.dst .nilIface))
       ((aPure P (s.a.eval P) s.H o.op).bind fun v => xSOps P l u (s.put o.dst v))) none
  | some _ => none
end
end Go.Ab
