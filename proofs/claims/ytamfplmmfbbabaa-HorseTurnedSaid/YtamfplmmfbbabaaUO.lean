/- ABSTRACT MEMORY, 28: the reckoner with a table of calls that are known. -/
import Derived.Test.YtamfplmmfbbabaaUI
namespace Go.Ab
open Go Go.RowKit
variable [PR]
structure Ent where
  f : FuncId
  args : List Value
  bs : List (Option (List Value × TypeId))
  r : Value
def bOf : Option (List Value × TypeId) → XB
  | none => .dead
  | some (cs, e) => .cells cs e .ro
noncomputable def fillB (l : List (Option (List Value × TypeId))) : Nat → Tr XB → Tr XB :=
  List.rec (motive := fun _ => Nat → Tr XB → Tr XB) (fun _ t => t) (fun b _ ih k t => ih (Nat.succ k) (Tr.set 40 t k (bOf b))) l
theorem fillB_get (l : List (Option (List Value × TypeId))) : ∀ {k : Nat} {t : Tr XB}, k + l.length ≤ 1000000000 → ∀ x, (fillB l k t).get x = if k ≤ x ∧ x < k + l.length then (l[x - k]?).map bOf else t.get x := by
  induction l with
  | nil =>
    intro k t _ x
    rw [if_neg (by simp only [List.length_nil]; omega)]
    rfl
  | cons v l ih =>
    intro k t h x
    simp only [List.length_cons] at h ⊢
    show (fillB l (Nat.succ k) (Tr.set 40 t k (bOf v))).get x = _
    rw [ih (by omega)]
    have hb : Nat.ble k 1000000000 = true := Nat.ble_eq_true_of_le (by omega)
    by_cases h1 : Nat.succ k ≤ x ∧ x < Nat.succ k + l.length
    · rw [if_pos h1, if_pos (by omega)]
      have e : x - k = (x - Nat.succ k) + 1 := by omega
      rw [e, List.getElem?_cons_succ]
    · rw [if_neg h1, Tr.get_set (lt40 hb)]
      by_cases e : x = k
      · subst e
        rw [if_pos rfl, if_pos (by omega)]
        simp
      · rw [if_neg e, if_neg (by omega)]
noncomputable def Ent.mem (e : Ent) : Mem := ⟨fillB e.bs 0 .nil, e.bs.length⟩
theorem Ent.mem_H {e : Ent} (h : e.bs.length ≤ 1000000) (i : Nat) : e.mem.H i = (e.bs[i]?).map fun b => (bOf b).a := by
  have hg := fillB_get e.bs (k := 0) (t := .nil) (by omega) i
  simp only [Mem.H, Ent.mem]
  rw [hg]
  by_cases hi : i < e.bs.length
  · rw [if_pos (by omega)]
    simp [List.getElem?_eq_getElem hi]
  · rw [if_neg (by omega)]
    simp only [Tr.get_nil]
    rw [List.getElem?_eq_none (by omega)]
    rfl
section
variable [TT] {P : Program}
structure EntOK (P : Program) (e : Ent) : Prop where
  calls : Callable P e.f
  says : SCalls P e.f e.args e.mem.H fun r' _ => r' = .ret e.r
  closed : cl 50 e.r = true
  small : e.bs.length ≤ 1000000
  glob : P.globals.size ≤ e.bs.length
theorem Ent.alone {e : Ent} (h : EntOK P e) : Alone P e.bs.length e.mem.H where
  has i hi := by
    rw [Ent.mem_H h.small, List.getElem?_eq_getElem hi]
    cases hb : e.bs[i] with
    | none => exact .inl rfl
    | some x => exact .inr ⟨x.1, x.2, rfl⟩
  no i hi := by rw [Ent.mem_H h.small, List.getElem?_eq_none hi]; rfl
  glob := h.glob
end
def uniW (f : Value → Value → List (Nat × Nat)) (g : List Value → List Value → List (Nat × Nat)) (u v : Value) : List (Nat × Nat) :=
  match u with
  | .pointer (some ⟨i, _, none⟩) => (match v with | .pointer (some ⟨j, _, none⟩) => [(i, j)] | _ => [])
  | .slice (some ⟨i, _, none⟩) _ _ => (match v with | .slice (some ⟨j, _, none⟩) _ _ => [(i, j)] | _ => [])
  | .iface _ a => (match v with | .iface _ b => f a b | _ => [])
  | .agg a => (match v with | .agg b => g a.toList b.toList | _ => [])
  | .tuple a => (match v with | .tuple b => g a.toList b.toList | _ => [])
  | _ => []
def uniL (f : Value → Value → List (Nat × Nat)) (g : List Value → List Value → List (Nat × Nat)) : List Value → List Value → List (Nat × Nat)
  | u :: us, v :: vs => f u v ++ g us vs
  | _, _ => []
def uniN : Nat → (Value → Value → List (Nat × Nat)) × (List Value → List Value → List (Nat × Nat))
  | 0 => (fun _ _ => [], fun _ _ => [])
  | n + 1 => (uniW (uniN n).1 (uniN n).2, uniL (uniN n).1 (uniN n).2)
noncomputable def piOf (g : Nat) (l : List (Nat × Nat)) (i : Nat) : Nat := cond (Nat.blt i g) i (List.rec (motive := fun _ => Nat) i (fun x _ ih => cond (Nat.beq x.1 i) x.2 ih) l)
noncomputable def uniB (bs : List (Option (List Value × TypeId))) (m : Mem) (l : List (Nat × Nat)) : List (Nat × Nat) :=
  l ++ l.flatMap fun x => match bs[x.1]?, m.H x.2 with
    | some (some (cs, _)), some (.cells cs' _ _) => (uniN 50).2 cs cs'
    | _, _ => []
noncomputable def matE (g : Nat) (e : Ent) (args : List Value) (m : Mem) : Bool :=
  let π := piOf g (uniB e.bs m ((uniN 50).2 e.args args))
  (matN e.bs.length π 50).2 e.args args && (List.range e.bs.length).all fun i => match e.bs[i]? with
    | some (some (cs, _)) => match m.H (π i) with
      | some (.cells cs' _ _) => (matN e.bs.length π 50).2 cs cs'
      | _ => false
    | _ => true
noncomputable def tabFind (g : Nat) (T : List Ent) (f : FuncId) (args : List Value) (m : Mem) : Option Value :=
  List.rec (motive := fun _ => Option Value) none (fun e _ ih => cond (Nat.beq e.f f) (cond (matE g e args m) (some e.r) ih) ih) T
noncomputable def xTab (X : Ex) (P : Program) (T : List Ent) (f : FuncId) (args : List Value) (m : Mem) : Option (ARes × Mem) :=
  match tabFind P.globals.size T f args m with
  | some r => some (.ret r, m)
  | none => xCallF X P f args m
end Go.Ab
namespace Go.Ab
open Go Go.RowKit
noncomputable def pth (d : Nat) : Nat → List Bool :=
  Nat.rec (motive := fun _ => Nat → List Bool) (fun _ => []) (fun _ ih k => Nat.rec (motive := fun _ => List Bool) [] (fun j _ => Nat.rec (motive := fun _ => List Bool) (true :: ih (Nat.div j 2)) (fun _ _ => false :: ih (Nat.div j 2)) (Nat.mod j 2)) k) d
noncomputable def getp {α : Type} (p : List Bool) : Tr α → Option α :=
  List.rec (motive := fun _ => Tr α → Option α) (fun t => Tr.rec (motive := fun _ => Option α) none (fun _ v _ _ _ => v) t)
    (fun b _ ih t => Tr.rec (motive := fun _ => Option α) none (fun l _ r _ _ => Bool.rec (motive := fun _ => Option α) (ih r) (ih l) b) t) p
noncomputable def setp {α : Type} (p : List Bool) : Tr α → α → Tr α :=
  List.rec (motive := fun _ => Tr α → α → Tr α) (fun t v => Tr.rec (motive := fun _ => Tr α) (.node .nil (some v) .nil) (fun l _ r _ _ => .node l (some v) r) t)
    (fun b _ ih t v => Tr.rec (motive := fun _ => Tr α) (Bool.rec (motive := fun _ => Tr α) (.node .nil none (ih .nil v)) (.node (ih .nil v) none .nil) b)
      (fun l x r _ _ => Bool.rec (motive := fun _ => Tr α) (.node l x (ih r v)) (.node (ih l v) x r) b) t) p
noncomputable def wrap64 (n : Int) : Int :=
  Int.rec (motive := fun _ => Int) (fun m => Bool.rec (motive := fun _ => Int) (IntKind.i64.wrap (Int.ofNat m)) (Int.ofNat m) (Nat.ble m 9223372036854775807)) (fun m => Bool.rec (motive := fun _ => Int) (IntKind.i64.wrap (Int.negSucc m)) (Int.negSucc m) (Nat.ble m 9223372036854775807)) n
noncomputable def fwrap (k : IntKind) (n : Int) : Int := IntKind.rec (motive := fun _ => Int) (k.wrap n) (k.wrap n) (k.wrap n) (wrap64 n) (k.wrap n) (k.wrap n) (k.wrap n) (k.wrap n) k
noncomputable def ile (a b : Int) : Bool :=
  Int.rec (motive := fun _ => Bool) (fun m => Int.rec (motive := fun _ => Bool) (fun n => Nat.ble m n) (fun _ => false) b) (fun m => Int.rec (motive := fun _ => Bool) (fun _ => true) (fun n => Nat.ble n m) b) a
noncomputable def ieq (a b : Int) : Bool :=
  Int.rec (motive := fun _ => Bool) (fun m => Int.rec (motive := fun _ => Bool) (fun n => Nat.beq m n) (fun _ => false) b) (fun m => Int.rec (motive := fun _ => Bool) (fun _ => false) (fun n => Nat.beq m n) b) a
end Go.Ab
namespace Go.Ab
open Go Go.RowKit
variable [PR]
structure EvC where
  get : Tr (Option Value) → Option Value
noncomputable def evTmp (k : Nat) : EvC := Bool.rec (motive := fun _ => EvC) ⟨fun t => tF t k⟩ ⟨fun t => Option.rec (motive := fun _ => Option Value) (some undef) (fun o => o) (getp (pth 40 k) t)⟩ (Nat.ble k 1000000000)
noncomputable def evC (P : Program) (x : Operand) : EvC :=
  Operand.rec (motive := fun _ => EvC) (fun k => evTmp k) (fun v => Bool.rec (motive := fun _ => EvC) ⟨fun _ => none⟩ ⟨fun _ => some v⟩ (flat v))
    (fun g => Bool.rec (motive := fun _ => EvC) ⟨fun _ => none⟩ ⟨fun _ => some (.pointer (some ⟨g, 0, none⟩))⟩ (Nat.ble (Nat.succ g) P.globals.size)) (fun f => ⟨fun _ => some (.func (.func f) #[] #[])⟩) x
noncomputable def ikN (k : IntKind) : Nat := IntKind.rec (motive := fun _ => Nat) 0 1 2 3 4 5 6 7 k
noncomputable def ikEq (a b : IntKind) : Bool := Nat.beq (ikN a) (ikN b)
structure I2 where
  run : IntKind → Int → Int → Option Value
noncomputable def iop (op : BinOp) : Option I2 :=
  match op with
  | .add => some ⟨fun k a b => some (.int k (fwrap k (Int.add a b)))⟩
  | .sub => some ⟨fun k a b => some (.int k (fwrap k (Int.sub a b)))⟩
  | .mul => some ⟨fun k a b => some (.int k (fwrap k (Int.mul a b)))⟩
  | .lss => some ⟨fun _ a b => some (.bool (Bool.rec (motive := fun _ => Bool) true false (ile b a)))⟩
  | .leq => some ⟨fun _ a b => some (.bool (ile a b))⟩
  | .gtr => some ⟨fun _ a b => some (.bool (Bool.rec (motive := fun _ => Bool) true false (ile a b)))⟩
  | .geq => some ⟨fun _ a b => some (.bool (ile b a))⟩
  | .eql => some ⟨fun _ a b => some (.bool (ieq a b))⟩
  | .neq => some ⟨fun _ a b => some (.bool (Bool.rec (motive := fun _ => Bool) true false (ieq a b)))⟩
  | _ => none
structure V2 where
  run : Value → Value → Option Value
noncomputable def v2int (f : I2) (g : Value → Value → Option Value) (u v : Value) : Option Value :=
  match u with
  | .int k a => (match v with | .int k' b => cond (ikEq k k') (f.run k a b) none | v => g u v)
  | u => g u v
noncomputable def v2 (P : Program) (op : BinOp) (t : TypeId) (y : Operand) : V2 :=
  match iop op with
  | some f => ⟨v2int f (b_two P op t y)⟩
  | none => ⟨b_two P op t y⟩
structure PC where
  run : Tr (Option Value) → Mem → Option Value
noncomputable def lnth (l : List Value) : Nat → Option Value :=
  List.rec (motive := fun _ => Nat → Option Value) (fun _ => none) (fun v _ ih k => Nat.rec (motive := fun _ => Option Value) (some v) (fun j _ => ih j) k) l
noncomputable def ld1 (m : Mem) (u : Value) : Option Value :=
  match u with
  | .pointer (some ⟨i, o, none⟩) => Option.rec (motive := fun _ => Option Value) none (fun b => XB.rec (motive := fun _ => Option Value) none (fun cs _ _ => lnth cs o) (fun _ => none) (fun _ => none) none (fun _ _ _ _ => none) b) (m.h.get i)
  | _ => none
noncomputable def pcLoad (P : Program) (ty : TypeId) (x : Operand) : PC :=
  match tAgg P ty with
  | some false => ⟨fun t m => Option.rec (motive := fun _ => Option Value) none (fun u => ld1 m u) ((evC P x).get t)⟩
  | _ => ⟨fun t m => p_load P (fun x => (evC P x).get t) m.H ty x⟩
noncomputable def addOff (off : Nat) (u : Value) : Option Value :=
  match u with
  | .pointer (some ⟨i, o, none⟩) => some (.pointer (some ⟨i, Nat.add o off, none⟩))
  | _ => none
noncomputable def pcFieldAddr (P : Program) (s : TypeId) (x : Operand) (f : Nat) : PC :=
  match fOff P s f with
  | some (off, _) => ⟨fun t _ => Option.rec (motive := fun _ => Option Value) none (fun u => addOff off u) ((evC P x).get t)⟩
  | none => ⟨fun _ _ => none⟩
noncomputable def pcGen (P : Program) (op : Op) : PC := ⟨fun t m => fPure P (fun x => (evC P x).get t) m.H op⟩
noncomputable def pc (P : Program) (op : Op) : PC :=
  match op with
  | .move x => ⟨fun t _ => (evC P x).get t⟩
  | .assign x => ⟨fun t _ => (evC P x).get t⟩
  | .load ty x => pcLoad P ty x
  | .binOp op ty x y _ => ⟨fun t _ => Option.rec (motive := fun _ => Option Value) none (fun u => Option.rec (motive := fun _ => Option Value) none (fun v => (v2 P op ty y).run u v) ((evC P y).get t)) ((evC P x).get t)⟩
  | .fieldAddr s x f => pcFieldAddr P s x f
  | .pick c x y => ⟨fun t m => p_pick P (fun x => (evC P x).get t) m.H c x y⟩
  | .unOp op _ x => ⟨fun t _ => p_unOp (fun x => (evC P x).get t) op x⟩
  | .convert s d x => ⟨fun t _ => p_convert P (fun x => (evC P x).get t) s d x⟩
  | .makeInterface ty x => ⟨fun t _ => p_mkIface P (fun x => (evC P x).get t) ty x⟩
  | .makeFunc fn a b => ⟨fun t _ => p_makeFunc (fun x => (evC P x).get t) fn a b⟩
  | .field ty x f => ⟨fun t _ => p_field P (fun x => (evC P x).get t) ty x f⟩
  | .indexAddr ty x i => ⟨fun t m => p_indexAddr P (fun x => (evC P x).get t) m.H ty x i⟩
  | .index ty x i => ⟨fun t m => p_index P (fun x => (evC P x).get t) m.H ty x i⟩
  | .lookup ty x k ok => ⟨fun t m => p_lookup P (fun x => (evC P x).get t) m.H ty x k ok⟩
  | .extract x i => ⟨fun t _ => p_extract (fun x => (evC P x).get t) x i⟩
  | .typeAssert x a b ok => ⟨fun t m => p_typeAssert P (fun x => (evC P x).get t) m.H x a b ok⟩
  | .slice ty x lo hi mx => ⟨fun t m => p_slice P (fun x => (evC P x).get t) m.H ty x lo hi mx⟩
  | .build ty ps => ⟨fun t m => p_build P (fun x => (evC P x).get t) m.H ty ps⟩
  | op => pcGen P op
end Go.Ab
