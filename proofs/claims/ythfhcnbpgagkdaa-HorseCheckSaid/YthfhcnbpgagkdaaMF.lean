/- ABSTRACT MEMORY, 30: the reckoner with its operations made ready once: operations. -/
import Derived.Test.YthfhcnbpgagkdaaME
import Derived.Test.YthfhcnbpgagkdaaChecked
import Derived.IntWalk
import Derived.Laws.BitsLemmas
namespace Go.Ab
open Go Go.RowKit
variable [PR]

/-! ### Operands -/
structure EvC where
  get : Tr (Option Value) → Option Value
noncomputable def evTmp (k : Nat) : EvC := Bool.rec (motive := fun _ => EvC) ⟨fun t => tF t k⟩ ⟨fun t => Option.rec (motive := fun _ => Option Value) (some undef) (fun o => o) (getp (pth 40 k) t)⟩ (Nat.ble k 1000000000)
noncomputable def evC (P : Program) (x : Operand) : EvC :=
  Operand.rec (motive := fun _ => EvC) (fun k => evTmp k) (fun v => Bool.rec (motive := fun _ => EvC) ⟨fun _ => none⟩ ⟨fun _ => some v⟩ (flat v))
    (fun g => Bool.rec (motive := fun _ => EvC) ⟨fun _ => none⟩ ⟨fun _ => some (.pointer (some ⟨g, 0, none⟩))⟩ (Nat.ble (Nat.succ g) P.globals.size)) (fun f => ⟨fun _ => some (.func (.func f) #[] #[])⟩) x
theorem evC_eq {P : Program} {t : Tr (Option Value)} : (fun x => (evC P x).get t) = xev P t := by
  funext x
  cases x with
  | tmp k =>
    show (evTmp k).get t = tF t k
    unfold evTmp
    cases hb : Nat.ble k 1000000000 with
    | false => rfl
    | true =>
      show Option.rec (motive := fun _ => Option Value) (some undef) (fun o => o) (getp (pth 40 k) t) = tF t k
      rw [getp_eq 40 t k (lt40 hb)]
      unfold tF
      cases t.get k <;> rfl
  | const v =>
    show (Bool.rec (motive := fun _ => EvC) ⟨fun _ => none⟩ ⟨fun _ => some v⟩ (flat v) : EvC).get t = cond (flat v) (some v) none
    cases flat v <;> rfl
  | global g =>
    show (Bool.rec (motive := fun _ => EvC) ⟨fun _ => none⟩ ⟨fun _ => some (.pointer (some ⟨g, 0, none⟩))⟩ (Nat.ble (Nat.succ g) P.globals.size) : EvC).get t = cond (Nat.ble (Nat.succ g) P.globals.size) (some (.pointer (some ⟨g, 0, none⟩))) none
    cases Nat.ble (Nat.succ g) P.globals.size <;> rfl
  | func f => rfl
theorem evC_at {P : Program} {t : Tr (Option Value)} (x : Operand) : (evC P x).get t = xev P t x := congrFun (evC_eq (P := P) (t := t)) x

/-! ### Two numbers -/
noncomputable def ikN (k : IntKind) : Nat := IntKind.rec (motive := fun _ => Nat) 0 1 2 3 4 5 6 7 k
theorem ikN_inj {a b : IntKind} (h : ikN a = ikN b) : a = b := by have _ := PR.prog; cases a <;> cases b <;> first | rfl | (exact absurd h (by decide))
noncomputable def ikEq (a b : IntKind) : Bool := Nat.beq (ikN a) (ikN b)
theorem ikEq_eq (a b : IntKind) : ikEq a b = decide (a = b) := by
  unfold ikEq
  rw [beq_iff, decide_eq_decide]
  exact ⟨ikN_inj, fun h => by rw [h]⟩
structure I2 where
  run : IntKind → Int → Int → Option Value
noncomputable def iop (op : BinOp) : Option I2 :=
  match op with
  | .add => some ⟨fun k a b => some (.int k (fwrap k (Int.add a b)))⟩
  | .sub => some ⟨fun k a b => some (.int k (fwrap k (Int.sub a b)))⟩
  | .mul => some ⟨fun k a b => some (.int k (fwrap k (Int.mul a b)))⟩
  | .lss => some ⟨fun _ a b => some (.bool (Bool.rec (motive := fun _ => Bool) true false (ile b a)))⟩
  | .leq => some ⟨fun _ a b => some (.bool (ile a b))⟩
  | .gtr => some ⟨fun _ a b => some (.bool (Bool.rec (motive := fun _ => Bool) true false (ile a b)))⟩
  | .geq => some ⟨fun _ a b => some (.bool (ile b a))⟩
  | .eql => some ⟨fun _ a b => some (.bool (ieq a b))⟩
  | .neq => some ⟨fun _ a b => some (.bool (Bool.rec (motive := fun _ => Bool) true false (ieq a b)))⟩
  | _ => none
theorem iop_eq {op : BinOp} {f : I2} (h : iop op = some f) (k k' : IntKind) (a b : Int) : b_int op k k' a b = cond (ikEq k k') (f.run k a b) none := by
  have hk : (if k = k' then intBin op k a b else none) = cond (ikEq k k') (intBin op k a b) none := by
    rw [ikEq_eq]; by_cases e : k = k' <;> simp [e]
  have nt : ∀ c : Bool, (Bool.rec (motive := fun _ => Bool) true false c : Bool) = !c := fun c => by cases c <;> rfl
  unfold iop at h
  split at h <;> cases h <;> simp only [b_int, hk] <;> congr 1 <;> simp only [intBin, fwrap_eq, ile_eq, ieq_eq, nt] <;> first | rfl | (congr 2; rw [← decide_not, decide_eq_decide]; omega) | skip
  all_goals first | (congr 2; simp) | (congr 2; simp; omega)
structure V2 where
  run : Value → Value → Option Value
noncomputable def v2int (f : I2) (g : Value → Value → Option Value) (u v : Value) : Option Value :=
  match u with
  | .int k a => (match v with | .int k' b => cond (ikEq k k') (f.run k a b) none | v => g u v)
  | u => g u v
noncomputable def v2 (P : Program) (op : BinOp) (t : TypeId) (y : Operand) : V2 :=
  match iop op with
  | some f => ⟨v2int f (b_two P op t y)⟩
  | none => ⟨b_two P op t y⟩
theorem v2_eq {P : Program} {op : BinOp} {t : TypeId} {y : Operand} (u v : Value) : (v2 P op t y).run u v = b_two P op t y u v := by
  unfold v2
  split
  · rename_i f hf
    show v2int f (b_two P op t y) u v = _
    unfold v2int
    split
    · split
      · show _ = b_int op _ _ _ _
        rw [iop_eq hf]
      · rfl
    · rfl
  · rfl

/-! ### What computes, or reads -/
structure PC where
  run : Tr (Option Value) → Mem → Option Value
noncomputable def lnth (l : List Value) : Nat → Option Value :=
  List.rec (motive := fun _ => Nat → Option Value) (fun _ => none) (fun v _ ih k => Nat.rec (motive := fun _ => Option Value) (some v) (fun j _ => ih j) k) l
theorem lnth_eq (l : List Value) : ∀ k, lnth l k = l[k]? := by
  have _ := PR.prog
  induction l with
  | nil => intro k; rfl
  | cons v l ih =>
    intro k
    cases k with
    | zero => rfl
    | succ k => rw [List.getElem?_cons_succ, ← ih]; rfl
noncomputable def ld1 (m : Mem) (u : Value) : Option Value :=
  match u with
  | .pointer (some ⟨i, o, none⟩) => Option.rec (motive := fun _ => Option Value) none (fun b => XB.rec (motive := fun _ => Option Value) none (fun cs _ _ => lnth cs o) (fun _ => none) (fun _ => none) none b) (m.h.get i)
  | _ => none
noncomputable def pcLoad (P : Program) (ty : TypeId) (x : Operand) : PC :=
  match tAgg P ty with
  | some false => ⟨fun t m => Option.rec (motive := fun _ => Option Value) none (fun u => ld1 m u) ((evC P x).get t)⟩
  | _ => ⟨fun t m => p_load P (fun x => (evC P x).get t) m.H ty x⟩
noncomputable def addOff (off : Nat) (u : Value) : Option Value :=
  match u with
  | .pointer (some ⟨i, o, none⟩) => some (.pointer (some ⟨i, Nat.add o off, none⟩))
  | _ => none
noncomputable def pcFieldAddr (P : Program) (s : TypeId) (x : Operand) (f : Nat) : PC :=
  match fOff P s f with
  | some (off, _) => ⟨fun t _ => Option.rec (motive := fun _ => Option Value) none (fun u => addOff off u) ((evC P x).get t)⟩
  | none => ⟨fun _ _ => none⟩
noncomputable def pcGen (P : Program) (op : Op) : PC := ⟨fun t m => fPure P (fun x => (evC P x).get t) m.H op⟩
noncomputable def pc (P : Program) (op : Op) : PC :=
  match op with
  | .move x => ⟨fun t _ => (evC P x).get t⟩
  | .assign x => ⟨fun t _ => (evC P x).get t⟩
  | .load ty x => pcLoad P ty x
  | .binOp op ty x y _ => ⟨fun t _ => Option.rec (motive := fun _ => Option Value) none (fun u => Option.rec (motive := fun _ => Option Value) none (fun v => (v2 P op ty y).run u v) ((evC P y).get t)) ((evC P x).get t)⟩
  | .fieldAddr s x f => pcFieldAddr P s x f
  | .pick c x y => ⟨fun t m => p_pick P (fun x => (evC P x).get t) m.H c x y⟩
  | .unOp op _ x => ⟨fun t _ => p_unOp (fun x => (evC P x).get t) op x⟩
  | .convert s d x => ⟨fun t _ => p_convert P (fun x => (evC P x).get t) s d x⟩
  | .makeInterface ty x => ⟨fun t _ => p_mkIface P (fun x => (evC P x).get t) ty x⟩
  | .makeFunc fn a b => ⟨fun t _ => p_makeFunc (fun x => (evC P x).get t) fn a b⟩
  | .field ty x f => ⟨fun t _ => p_field P (fun x => (evC P x).get t) ty x f⟩
  | .indexAddr ty x i => ⟨fun t m => p_indexAddr P (fun x => (evC P x).get t) m.H ty x i⟩
  | .index ty x i => ⟨fun t m => p_index P (fun x => (evC P x).get t) m.H ty x i⟩
  | .lookup ty x k ok => ⟨fun t m => p_lookup P (fun x => (evC P x).get t) m.H ty x k ok⟩
  | .extract x i => ⟨fun t _ => p_extract (fun x => (evC P x).get t) x i⟩
  | .typeAssert x a b ok => ⟨fun t m => p_typeAssert P (fun x => (evC P x).get t) m.H x a b ok⟩
  | .slice ty x lo hi mx => ⟨fun t m => p_slice P (fun x => (evC P x).get t) m.H ty x lo hi mx⟩
  | .build ty ps => ⟨fun t m => p_build P (fun x => (evC P x).get t) m.H ty ps⟩
  | op => pcGen P op
theorem optRec {α β : Type} {o : Option α} {f : α → Option β} : (Option.rec (motive := fun _ => Option β) none f o : Option β) = o.bind f := by have _ := PR.prog; cases o <;> rfl
theorem pcGen_eq {P : Program} {t : Tr (Option Value)} {m : Mem} (op : Op) : (pcGen P op).run t m = fPure P (xev P t) m.H op := by
  unfold pcGen
  simp only [evC_eq]
theorem pc_eq {P : Program} {t : Tr (Option Value)} {m : Mem} (op : Op) : (pc P op).run t m = fPure P (xev P t) m.H op := by
  have hρ := evC_eq (P := P) (t := t)
  cases op with
  | move x => exact evC_at x
  | assign x => exact evC_at x
  | load ty x =>
    show (pcLoad P ty x).run t m = p_load P (xev P t) m.H ty x
    unfold pcLoad
    split
    · rename_i hag
      show Option.rec (motive := fun _ => Option Value) none (fun u => ld1 m u) ((evC P x).get t) = _
      rw [evC_at]
      unfold p_load
      cases hx : xev P t x with
      | none => rfl
      | some u =>
        show ld1 m u = _
        unfold ld1
        split
        · rename_i i o
          simp only [loadV, hag]
          unfold Mem.H
          cases m.h.get i with
          | none => rfl
          | some b => cases b <;> first | exact lnth_eq _ _ | rfl
        · rename_i hn
          split
          · rename_i i o e; cases e; exact absurd rfl (hn _ _)
          · rfl
    · show p_load P (fun x => (evC P x).get t) m.H ty x = _
      rw [hρ]
  | binOp op ty x y yt =>
    show Option.rec (motive := fun _ => Option Value) none (fun u => Option.rec (motive := fun _ => Option Value) none (fun v => (v2 P op ty y).run u v) ((evC P y).get t)) ((evC P x).get t) = p_binOp P (xev P t) op ty x y
    rw [evC_at, evC_at]
    unfold p_binOp
    cases xev P t x with
    | none => rfl
    | some u => cases xev P t y with
      | none => rfl
      | some v => exact v2_eq u v
  | fieldAddr s x f =>
    show (pcFieldAddr P s x f).run t m = p_fieldAddr P (xev P t) s x f
    unfold pcFieldAddr p_fieldAddr
    split
    · rename_i off ft hf
      show Option.rec (motive := fun _ => Option Value) none (fun u => addOff off u) ((evC P x).get t) = _
      rw [evC_at, hf]
      cases xev P t x with
      | none => rfl
      | some u =>
        show addOff off u = _
        unfold addOff
        split
        · rfl
        · rename_i hn
          split
          · rename_i e1 e2; cases e2; exact absurd rfl (hn _ _)
          · rfl
    · rename_i hf; rw [hf]
  | pick c x y => show p_pick P (fun x => (evC P x).get t) m.H c x y = _; rw [hρ]; rfl
  | unOp op ty x => show p_unOp (fun x => (evC P x).get t) op x = _; rw [hρ]; rfl
  | convert s d x => show p_convert P (fun x => (evC P x).get t) s d x = _; rw [hρ]; rfl
  | makeInterface ty x => show p_mkIface P (fun x => (evC P x).get t) ty x = _; rw [hρ]; rfl
  | makeFunc fn a b => show p_makeFunc (fun x => (evC P x).get t) fn a b = _; rw [hρ]; rfl
  | field ty x f => show p_field P (fun x => (evC P x).get t) ty x f = _; rw [hρ]; rfl
  | indexAddr ty x i => show p_indexAddr P (fun x => (evC P x).get t) m.H ty x i = _; rw [hρ]; rfl
  | index ty x i => show p_index P (fun x => (evC P x).get t) m.H ty x i = _; rw [hρ]; rfl
  | lookup ty x k ok => show p_lookup P (fun x => (evC P x).get t) m.H ty x k ok = _; rw [hρ]; rfl
  | extract x i => show p_extract (fun x => (evC P x).get t) x i = _; rw [hρ]; rfl
  | typeAssert x a b ok => show p_typeAssert P (fun x => (evC P x).get t) m.H x a b ok = _; rw [hρ]; rfl
  | slice ty x lo hi mx => show p_slice P (fun x => (evC P x).get t) m.H ty x lo hi mx = _; rw [hρ]; rfl
  | build ty ps => show p_build P (fun x => (evC P x).get t) m.H ty ps = _; rw [hρ]; rfl
  | _ => exact pcGen_eq _
end Go.Ab

/- ABSTRACT MEMORY, 31: the reckoner with its operations made ready once: regions, code. -/
namespace Go.Ab
open Go Go.RowKit
variable [PR]

/-- An operation that neither computes nor makes a block. -/
def isEff : Op → Bool
  | .store _ _ _ | .mapUpdate _ _ _ _ | .insert _ _ _ _ | .panic _ | .defer _ => true
  | .call c => match c.callee with
    | .value _ | .invoke _ _ => true
    | _ => false
  | _ => false
theorem eff_pure {P : Program} {ρ : Operand → Option Value} {H : AHeap} {op : Op} (h : isEff op = true) : aPure P ρ H op = none ∧ aAlloc P ρ op = none := by
  have _ := PR.prog
  cases op with
  | call c =>
    obtain ⟨callee, args, ats⟩ := c
    cases callee with
    | builtin b => simp [isEff] at h
    | _ => exact ⟨rfl, rfl⟩
  | _ => first | exact ⟨rfl, rfl⟩ | (simp [isEff] at h)
theorem mk_pure {P : Program} {ρ : Operand → Option Value} {H : AHeap} {op : Op} (h : isMk op = true) : aPure P ρ H op = none := by
  have _ := PR.prog
  cases op <;> first | rfl | (simp [isMk] at h)
theorem mk_eff {X : Ex} {P : Program} {ro : Option Nat} {s : St} {dst : Option Tmp} {op : Op} (h : isMk op = true) : xEff X P ro s dst op = none := by
  cases op <;> first | rfl | (simp [isMk] at h)
theorem float_eff {X : Ex} {P : Program} {ρ : Operand → Option Value} {ro : Option Nat} {s : St} {dst : Option Tmp} {op : Op} (h : isFloat op = true) : aAlloc P ρ op = none ∧ xEff X P ro s dst op = none := by
  cases op with
  | call c =>
    obtain ⟨callee, args, ats⟩ := c
    cases callee with
    | builtin b => cases b <;> first | exact ⟨rfl, rfl⟩ | (simp [isFloat] at h)
    | _ => simp [isFloat] at h
  | _ => first | exact ⟨rfl, rfl⟩ | (simp [isFloat] at h)

abbrev Res := Option (AExit × St)
/-- What is made ready: of a run of operations. -/
structure RC where
  run : Ex → Option Nat → Nat → Tr (Option Value) → List Deferred → Mem → Res
structure PutC where
  put : Nat → Tr (Option Value) → Value → Tr (Option Value)
noncomputable def putC (dst : Option Tmp) : PutC :=
  Option.rec (motive := fun _ => PutC) ⟨fun _ t _ => t⟩ (fun d => ⟨fun n t v => setp (pth 40 d) t (some (Bool.rec (motive := fun _ => Value) undef v (Nat.ble (Nat.succ d) n)))⟩) dst
theorem putC_eq {dst : Option Tmp} (h : slotOK dst = true) (n : Nat) (t : Tr (Option Value)) (ds : List Deferred) (m : Mem) (v : Value) : (⟨n, (putC dst).put n t v, ds, m⟩ : St) = (⟨n, t, ds, m⟩ : St).put dst v := by
  cases dst with
  | none => rfl
  | some d =>
    show (⟨n, setp (pth 40 d) t (some (Bool.rec (motive := fun _ => Value) undef v (Nat.ble (Nat.succ d) n))), ds, m⟩ : St) = ⟨n, Tr.set 40 t d (some (cond (Nat.ble (Nat.succ d) n) v undef)), ds, m⟩
    rw [setp_eq 40 t d _ (lt40 h)]
    congr 2
    cases Nat.ble (Nat.succ d) n <;> rfl

/-- One operation, and what comes behind it. -/
noncomputable def stepC (P : Program) (dst : Option Tmp) (op : Op) (ih : RC) : RC :=
  Bool.rec (motive := fun _ => RC) ⟨fun _ _ _ _ _ _ => none⟩
    (Bool.rec (motive := fun _ => RC)
      (Bool.rec (motive := fun _ => RC)
        (Bool.rec (motive := fun _ => RC)
          ⟨fun X ro n t ds m => Option.rec (motive := fun _ => Res) none (fun r => XR.rec (motive := fun _ => Res) (fun s' => ih.run X ro s'.n s'.t s'.ds s'.m) (fun v m' => some (.panic v, ⟨n, t, ds, m'⟩)) r) (fStep X P ro ⟨n, t, ds, m⟩ dst op)⟩
          ⟨fun X ro n t ds m => Option.rec (motive := fun _ => Res) none (fun r => XR.rec (motive := fun _ => Res) (fun s' => ih.run X ro s'.n s'.t s'.ds s'.m) (fun v m' => some (.panic v, ⟨n, t, ds, m'⟩)) r) (xEff X P ro ⟨n, t, ds, m⟩ dst op)⟩
          (isEff op))
        ⟨fun X ro n t ds m => Option.rec (motive := fun _ => Res) none (fun bm => Option.rec (motive := fun _ => Res) none (fun b => Bool.rec (motive := fun _ => Res) none (ih.run X ro n ((putC dst).put n t (bm.2 m.nx)) ds (m.new b)) m.free) (XB.of bm.1)) (aAlloc P (fun x => (evC P x).get t) op)⟩
        (isMk op))
      ⟨fun X ro n t ds m => Option.rec (motive := fun _ => Res) none (fun v => ih.run X ro n ((putC dst).put n t v) ds m) ((pc P op).run t m)⟩
      (isFloat op))
    (slotOK dst)
theorem stepC_eq {P : Program} {dst : Option Tmp} {op : Op} {ih : RC} {X : Ex} {ro : Option Nat} {n : Nat} {t : Tr (Option Value)} {ds : List Deferred} {m : Mem} : (stepC P dst op ih).run X ro n t ds m =
    (fStep X P ro ⟨n, t, ds, m⟩ dst op).bind fun r => match r with | .ok s' => ih.run X ro s'.n s'.t s'.ds s'.m | .pan v m' => some (.panic v, ⟨n, t, ds, m'⟩) := by
  have hx : xev P t = (⟨n, t, ds, m⟩ : St).a.eval P := xev_eq (s := ⟨n, t, ds, m⟩)
  have hres : ∀ o : Option XR, (Option.rec (motive := fun _ => Res) none (fun r => XR.rec (motive := fun _ => Res) (fun s' => ih.run X ro s'.n s'.t s'.ds s'.m) (fun v m' => some (.panic v, ⟨n, t, ds, m'⟩)) r) o : Res) =
      o.bind fun r => match r with | .ok s' => ih.run X ro s'.n s'.t s'.ds s'.m | .pan v m' => some (.panic v, ⟨n, t, ds, m'⟩) := fun o => by
    rw [optRec]
    congr 1
    funext r
    cases r <;> rfl
  unfold stepC
  cases hs : slotOK dst with
  | false =>
    have : fStep X P ro ⟨n, t, ds, m⟩ dst op = none := by unfold fStep; rw [hs]; rfl
    rw [this]
    rfl
  | true =>
    cases hf : isFloat op with
    | true =>
      show (Option.rec (motive := fun _ => Res) none (fun v => ih.run X ro n ((putC dst).put n t v) ds m) ((pc P op).run t m) : Res) = _
      rw [optRec, pc_eq]
      unfold fStep
      rw [hs]
      simp only [cond_true]
      cases hp : fPure P (xev P t) m.H op with
      | some v =>
        show ih.run X ro n ((putC dst).put n t v) ds m = ih.run X ro _ _ _ _
        rw [← putC_eq hs n t ds m v]
      | none =>
        obtain ⟨h1, h2⟩ := float_eff (X := X) (P := P) (ρ := xev P t) (ro := ro) (s := ⟨n, t, ds, m⟩) (dst := dst) hf
        simp only [h1, h2]
        rfl
    | false =>
      cases hm : isMk op with
      | true =>
        show (Option.rec (motive := fun _ => Res) none (fun bm => Option.rec (motive := fun _ => Res) none (fun b => Bool.rec (motive := fun _ => Res) none (ih.run X ro n ((putC dst).put n t (bm.2 m.nx)) ds (m.new b)) m.free) (XB.of bm.1)) (aAlloc P (fun x => (evC P x).get t) op) : Res) = _
        rw [evC_eq]
        unfold fStep
        rw [hs]
        simp only [cond_true]
        have hp : fPure P (xev P t) m.H op = none := by rw [fPure_eq]; exact mk_pure hm
        rw [hp]
        simp only
        cases ha : aAlloc P (xev P t) op with
        | none => simp only [mk_eff hm]; rfl
        | some bm =>
          obtain ⟨b, mk⟩ := bm
          simp only
          cases hb : XB.of b with
          | none => rfl
          | some x =>
            cases hfr : m.free with
            | false => rfl
            | true =>
              show ih.run X ro n ((putC dst).put n t (mk m.nx)) ds (m.new x) = ih.run X ro _ _ _ _
              rw [← putC_eq hs n t ds (m.new x) (mk m.nx)]
      | false =>
        cases he : isEff op with
        | true =>
          show (Option.rec (motive := fun _ => Res) none _ (xEff X P ro ⟨n, t, ds, m⟩ dst op) : Res) = _
          rw [hres]
          congr 1
          unfold fStep
          rw [hs]
          simp only [cond_true]
          obtain ⟨h1, h2⟩ := eff_pure (P := P) (ρ := xev P t) (H := m.H) he
          rw [fPure_eq, h1]
          simp only [h2]
        | false => exact hres _
/-- A region in the text's order, made ready. -/
noncomputable def opsC (P : Program) (ops : List Oper) (l : List Oper) : RC :=
  List.rec (motive := fun _ => RC) ⟨fun _ _ n t ds m => some (.normal, ⟨n, t, ds, m⟩)⟩
    (fun o _ ih => Option.rec (motive := fun _ => RC) (stepC P o.dst o.op ih)
      (fun _ => ⟨fun X ro n t ds m => Option.rec (motive := fun _ => Res) none (fun b => Bool.rec (motive := fun _ => Res) (Bool.rec (motive := fun _ => Res) none (ih.run X ro n ((putC o.dst).put n t undef) ds m) (slotOK o.dst)) ((stepC P o.dst o.op ih).run X ro n t ds m) b) (aWanted ⟨ops⟩ (⟨n, t, ds, m⟩ : St).a o)⟩) o.guard) l
theorem opsC_eq {X : Ex} {P : Program} {ro : Option Nat} {ops : List Oper} (l : List Oper) : ∀ {n : Nat} {t : Tr (Option Value)} {ds : List Deferred} {m : Mem}, (opsC P ops l).run X ro n t ds m = fOps X P ro ops l ⟨n, t, ds, m⟩ := by
  induction l with
  | nil => intro n t ds m; rfl
  | cons o l ih =>
    intro n t ds m
    have e : fOps X P ro ops (o :: l) ⟨n, t, ds, m⟩ = (aWanted ⟨ops⟩ (⟨n, t, ds, m⟩ : St).a o).bind fun b => cond b ((fStep X P ro ⟨n, t, ds, m⟩ o.dst o.op).bind fun r => XR.casesOn (motive := fun _ => Option (AExit × St)) r (fun s' => fOps X P ro ops l s') (fun v m' => some (.panic v, ⟨n, t, ds, m'⟩)))
        (cond (slotOK o.dst) (fOps X P ro ops l ((⟨n, t, ds, m⟩ : St).put o.dst undef)) none) := rfl
    rw [e]
    have hstep : (stepC P o.dst o.op (opsC P ops l)).run X ro n t ds m = (fStep X P ro ⟨n, t, ds, m⟩ o.dst o.op).bind fun r => XR.casesOn (motive := fun _ => Option (AExit × St)) r (fun s' => fOps X P ro ops l s') (fun v m' => some (.panic v, ⟨n, t, ds, m'⟩)) := by
      rw [stepC_eq]
      congr 1
      funext r
      cases r with
      | ok s' => exact ih
      | pan v m' => rfl
    have e2 : opsC P ops (o :: l) = Option.rec (motive := fun _ => RC) (stepC P o.dst o.op (opsC P ops l))
      (fun _ => ⟨fun X ro n t ds m => Option.rec (motive := fun _ => Res) none (fun b => Bool.rec (motive := fun _ => Res) (Bool.rec (motive := fun _ => Res) none ((opsC P ops l).run X ro n ((putC o.dst).put n t undef) ds m) (slotOK o.dst)) ((stepC P o.dst o.op (opsC P ops l)).run X ro n t ds m) b) (aWanted ⟨ops⟩ (⟨n, t, ds, m⟩ : St).a o)⟩) o.guard := rfl
    rw [e2]
    cases hg : o.guard with
    | none =>
      have hw : aWanted ⟨ops⟩ (⟨n, t, ds, m⟩ : St).a o = some true := by unfold aWanted; rw [hg]
      rw [hw]
      exact hstep
    | some g =>
      show (Option.rec (motive := fun _ => Res) none _ (aWanted ⟨ops⟩ (⟨n, t, ds, m⟩ : St).a o) : Res) = _
      rw [optRec]
      congr 1
      funext b
      cases b with
      | true => exact hstep
      | false =>
        show (Bool.rec (motive := fun _ => Res) none ((opsC P ops l).run X ro n ((putC o.dst).put n t undef) ds m) (slotOK o.dst) : Res) = cond (slotOK o.dst) _ none
        cases hs : slotOK o.dst with
        | false => rfl
        | true =>
          show (opsC P ops l).run X ro n ((putC o.dst).put n t undef) ds m = fOps X P ro ops l ((⟨n, t, ds, m⟩ : St).put o.dst undef)
          rw [ih, putC_eq hs]
end Go.Ab

/- ABSTRACT MEMORY, 32: the reckoner with its operations made ready once: regions that draw; the whole. -/
namespace Go.Ab
open Go Go.RowKit
variable [PR]

structure RG where
  run : Ex → Option Nat → Tr (Option Value) → Nat → Tr (Option Value) → List Deferred → Mem → Res
/-- An operation that is asked for, or is not. -/
noncomputable def guardG (ops : Array Oper) (o : Oper) (yes ih : RG) : RG :=
  Option.rec (motive := fun _ => RG) yes
    (fun _ => ⟨fun X ro t0 n t ds m => Option.rec (motive := fun _ => Res) none (fun b => Bool.rec (motive := fun _ => Res) (Bool.rec (motive := fun _ => Res) none (ih.run X ro t0 n ((putC o.dst).put n t undef) ds m) (slotOK o.dst)) (yes.run X ro t0 n t ds m) b) (aWanted ops (⟨n, t, ds, m⟩ : St).a o)⟩) o.guard
theorem guardG_eq {ops : Array Oper} {o : Oper} {yes ih : RG} {X : Ex} {ro : Option Nat} {t0 : Tr (Option Value)} {n : Nat} {t : Tr (Option Value)} {ds : List Deferred} {m : Mem} : (guardG ops o yes ih).run X ro t0 n t ds m =
    (aWanted ops (⟨n, t, ds, m⟩ : St).a o).bind fun b => cond b (yes.run X ro t0 n t ds m) (cond (slotOK o.dst) (ih.run X ro t0 n ((putC o.dst).put n t undef) ds m) none) := by
  unfold guardG
  cases hg : o.guard with
  | none =>
    have hw : aWanted ops (⟨n, t, ds, m⟩ : St).a o = some true := by unfold aWanted; rw [hg]
    rw [hw]
    rfl
  | some g =>
    show (Option.rec (motive := fun _ => Res) none _ (aWanted ops (⟨n, t, ds, m⟩ : St).a o) : Res) = _
    rw [optRec]
    congr 1
    funext b
    cases b with
    | true => rfl
    | false => cases slotOK o.dst <;> rfl
noncomputable def failG : RG := ⟨fun _ _ _ _ _ _ _ => none⟩
noncomputable def floatG (P : Program) (o : Oper) (ih : RG) : RG := ⟨fun X ro t0 n t ds m => Option.rec (motive := fun _ => Res) none (fun v => ih.run X ro t0 n ((putC o.dst).put n t v) ds m) ((pc P o.op).run t m)⟩
noncomputable def mkG (P : Program) (o : Oper) (ih : RG) : RG :=
  ⟨fun X ro t0 n t ds m => Option.rec (motive := fun _ => Res) none (fun bm => Option.rec (motive := fun _ => Res) none (fun b => Bool.rec (motive := fun _ => Res) none (ih.run X ro t0 n ((putC o.dst).put n t (bm.2 m.nx)) ds (m.new b)) m.free) (XB.of bm.1)) (aAlloc P (fun x => (evC P x).get t) o.op)⟩
noncomputable def effG (P : Program) (ops : Array Oper) (D : List Nat) (i : Nat) (o : Oper) (ih : RG) : RG :=
  List.rec (motive := fun _ => RG)
    ⟨fun X ro t0 n t ds m => Option.rec (motive := fun _ => Res) none (fun r => XR.rec (motive := fun _ => Res) (fun s' => ih.run X ro t0 s'.n s'.t s'.ds s'.m) (fun v m' => some (.panic v, ⟨n, t0, ds, m'⟩)) r) (fStep X P ro ⟨n, t, ds, m⟩ o.dst o.op)⟩
    (fun _ _ _ => ⟨fun X ro t0 n t ds m => Option.rec (motive := fun _ => Res) none (fun r => XR.rec (motive := fun _ => Res) (fun s' => cond (xAgain P ops i D s') (ih.run X ro t0 s'.n s'.t s'.ds s'.m) none) (fun v m' => some (.panic v, ⟨n, t0, ds, m'⟩)) r) (fStep X P ro ⟨n, t, ds, m⟩ o.dst o.op)⟩) (againLT ops i D)
theorem effG_eq {P : Program} {ops : Array Oper} {D : List Nat} {i : Nat} {o : Oper} {ih : RG} {X : Ex} {ro : Option Nat} {t0 : Tr (Option Value)} {n : Nat} {t : Tr (Option Value)} {ds : List Deferred} {m : Mem} : (effG P ops D i o ih).run X ro t0 n t ds m =
    (fStep X P ro ⟨n, t, ds, m⟩ o.dst o.op).bind fun r => match r with | .ok s' => cond (xAgain P ops i D s') (ih.run X ro t0 s'.n s'.t s'.ds s'.m) none | .pan v m' => some (.panic v, ⟨n, t0, ds, m'⟩) := by
  have hag : againLT ops i D = [] → ∀ s', xAgain P ops i D s' = true := fun h s' => by unfold xAgain; rw [h]; rfl
  unfold effG
  cases hl : againLT ops i D with
  | nil =>
    show (Option.rec (motive := fun _ => Res) none _ (fStep X P ro ⟨n, t, ds, m⟩ o.dst o.op) : Res) = _
    rw [optRec]
    congr 1
    funext r
    cases r with
    | ok s' => show _ = cond (xAgain P ops i D s') _ none; rw [hag hl s']; rfl
    | pan v m' => rfl
  | cons x l =>
    show (Option.rec (motive := fun _ => Res) none _ (fStep X P ro ⟨n, t, ds, m⟩ o.dst o.op) : Res) = _
    rw [optRec]
    congr 1
    funext r
    cases r <;> rfl
noncomputable def goC (P : Program) (ops : Array Oper) (k : Nat) : List Nat → RG :=
  Nat.rec (motive := fun _ => List Nat → RG) (fun _ => failG) (fun _ ih D =>
    match (readyL ops D).find? (floatAt ops) with
    | some i => (match ops[i]? with | none => failG | some o => cond (slotOK o.dst) (guardG ops o (floatG P o (ih (i :: D))) (ih (i :: D))) failG)
    | none => match (readyL ops D).find? (mkAt ops) with
      | some i => (match ops[i]? with | none => failG | some o => cond (slotOK o.dst) (guardG ops o (mkG P o (ih (i :: D))) (ih (i :: D))) failG)
      | none => match readyL ops D with
        | [] => ⟨fun _ _ _ n t ds m => some (.normal, ⟨n, t, ds, m⟩)⟩
        | [i] => (match ops[i]? with | none => failG | some o => guardG ops o (effG P ops D i o (ih (i :: D))) (ih (i :: D)))
        | _ => failG) k
theorem goC_eq {X : Ex} {P : Program} {ro : Option Nat} {ops : Array Oper} {t0 : Tr (Option Value)} (k : Nat) : ∀ {D : List Nat} {n : Nat} {t : Tr (Option Value)} {ds : List Deferred} {m : Mem}, (goC P ops k D).run X ro t0 n t ds m = fGo X P ro ops t0 k D ⟨n, t, ds, m⟩ := by
  induction k with
  | zero => intro D n t ds m; rfl
  | succ k ih =>
    intro D n t ds m
    rw [fGo_eq]
    simp only [xGo]
    show (match (readyL ops D).find? (floatAt ops) with
    | some i => (match ops[i]? with | none => failG | some o => cond (slotOK o.dst) (guardG ops o (floatG P o (goC P ops k (i :: D))) (goC P ops k (i :: D))) failG)
    | none => match (readyL ops D).find? (mkAt ops) with
      | some i => (match ops[i]? with | none => failG | some o => cond (slotOK o.dst) (guardG ops o (mkG P o (goC P ops k (i :: D))) (goC P ops k (i :: D))) failG)
      | none => match readyL ops D with
        | [] => (⟨fun _ _ _ n t ds m => some (.normal, ⟨n, t, ds, m⟩)⟩ : RG)
        | [i] => (match ops[i]? with | none => failG | some o => guardG ops o (effG P ops D i o (goC P ops k (i :: D))) (goC P ops k (i :: D)))
        | _ => failG).run X ro t0 n t ds m = _
    have ih' : ∀ {D : List Nat} {n : Nat} {t : Tr (Option Value)} {ds : List Deferred} {m : Mem}, (goC P ops k D).run X ro t0 n t ds m = xGo X P ro ops t0 k D ⟨n, t, ds, m⟩ := by intro D n t ds m; rw [ih, fGo_eq]
    cases hf : (readyL ops D).find? (floatAt ops) with
    | some i =>
      simp only
      cases ho : ops[i]? with
      | none => rfl
      | some o =>
        simp only
        cases hs : slotOK o.dst with
        | false => rfl
        | true =>
          simp only [cond_true]
          rw [guardG_eq]
          congr 1
          funext b
          cases b with
          | true =>
            show (Option.rec (motive := fun _ => Res) none (fun v => (goC P ops k (i :: D)).run X ro t0 n ((putC o.dst).put n t v) ds m) ((pc P o.op).run t m) : Res) = _
            rw [optRec, pc_eq, fPure_eq, xev_eq (s := ⟨n, t, ds, m⟩)]
            simp only [cond_true]
            congr 1
            funext v
            rw [ih', putC_eq hs]
          | false =>
            simp only [cond_false, hs, cond_true]
            rw [ih', putC_eq hs]
    | none =>
      simp only
      cases hm : (readyL ops D).find? (mkAt ops) with
      | some i =>
        simp only
        cases ho : ops[i]? with
        | none => rfl
        | some o =>
          simp only
          cases hs : slotOK o.dst with
          | false => rfl
          | true =>
            simp only [cond_true]
            rw [guardG_eq]
            congr 1
            funext b
            cases b with
            | true =>
              show (Option.rec (motive := fun _ => Res) none (fun bm => Option.rec (motive := fun _ => Res) none (fun b => Bool.rec (motive := fun _ => Res) none ((goC P ops k (i :: D)).run X ro t0 n ((putC o.dst).put n t (bm.2 m.nx)) ds (m.new b)) m.free) (XB.of bm.1)) (aAlloc P (fun x => (evC P x).get t) o.op) : Res) = _
              rw [optRec, evC_eq, xev_eq (s := ⟨n, t, ds, m⟩)]
              simp only [cond_true]
              congr 1
              funext bm
              rw [optRec]
              congr 1
              funext x
              cases hfr : m.free with
              | false => rfl
              | true =>
                simp only [cond_true]
                rw [ih', putC_eq hs]
            | false =>
              simp only [cond_false, hs, cond_true]
              rw [ih', putC_eq hs]
      | none =>
        simp only
        match readyL ops D with
        | [] => rfl
        | [i] =>
          simp only
          cases ho : ops[i]? with
          | none => rfl
          | some o =>
            simp only
            rw [guardG_eq]
            congr 1
            funext b
            cases b with
            | true =>
              rw [effG_eq, fStep_eq]
              simp only [cond_true]
              congr 1
              funext r
              cases r with
              | ok s' => simp only [ih']
              | pan v m' => rfl
            | false =>
              simp only [cond_false]
              cases hs : slotOK o.dst with
              | false => rfl
              | true =>
                simp only [cond_true]
                rw [ih', putC_eq hs]
        | _ :: _ :: _ => rfl

section
variable (X : Ex) (P : Program) (ro : Option Nat)
noncomputable def okDraw (ops : Array Oper) (n : Nat) : Bool := wfT ops n && ops.toList.all fun o => slotOK o.dst
noncomputable def h_draw (ops : Array Oper) (s : St) : Option (AExit × St) := cond (okDraw ops s.n) ((goC P ops (Nat.succ ops.size) []).run X ro (xSans ops.toList s.t) s.n s.t s.ds s.m) none
noncomputable def h_ops (ops : Array Oper) (s : St) : Option (AExit × St) := (opsC P ops.toList ops.toList).run X ro s.n s.t s.ds s.m
noncomputable def h_cond (c : Operand) (p : Loc) (s : St) : Option (AExit × St) := match (evC P c).get s.t with
    | some (.bool b) => cond b (X.code ro (.l p) s) (X.code ro (.r p) s)
    | _ => none
end
/-- A piece of code, made ready. -/
structure LC where
  run : Ex → Option Nat → St → Option (AExit × St)
noncomputable def comp (P : Program) (p : Loc) : LC :=
  match codeGet p with
  | .skip => ⟨fun _ _ s => some (.normal, s)⟩
  | .label _ => ⟨fun _ _ s => some (.normal, s)⟩
  | .exit id => ⟨fun _ _ s => some (.exit id, s)⟩
  | .ret => ⟨fun _ _ s => some (.ret, s)⟩
  | .region _ ops d => cond d ⟨fun X ro s => h_draw X P ro ops s⟩ ⟨fun X ro s => h_ops X P ro ops s⟩
  | .seq _ _ => ⟨fun X ro s => f_seq X ro p s⟩
  | .cond c _ _ => ⟨fun X ro s => h_cond X P ro c p s⟩
  | .block id _ => ⟨fun X ro s => f_block X ro id p s⟩
  | .loop _ => ⟨fun X ro s => X.loop ro (.l p) s⟩
  | .rangeFunc g ps _ _ => ⟨fun X ro s => xRange X P ro g ps p s⟩
  | .scope _ => ⟨fun X ro s => f_scope X ro p s⟩
  | _ => ⟨fun _ _ _ => none⟩
noncomputable def hCode (X : Ex) (P : Program) (ro : Option Nat) (p : Loc) (s : St) : Option (AExit × St) := (comp P p).run X ro s
theorem hCode_eq (X : Ex) (P : Program) (ro : Option Nat) (p : Loc) (s : St) : hCode X P ro p s = fCode X P ro p s := by
  unfold hCode comp fCode
  cases codeGet p with
  | region id ops d =>
    cases d with
    | true =>
      show cond (okDraw ops s.n) ((goC P ops (Nat.succ ops.size) []).run X ro (xSans ops.toList s.t) s.n s.t s.ds s.m) none = cond (okDraw ops s.n) _ none
      rw [goC_eq]
    | false => exact opsC_eq _
  | cond c x y => show h_cond X P ro c p s = f_cond X P ro c p s; unfold h_cond f_cond; rw [evC_at]; rfl
  | _ => rfl
noncomputable def hex (P : Program) (T : List Ent) (n : Nat) : Ex := Nat.rec (motive := fun _ => Ex) Ex.zero (fun _ X => ⟨hCode X P, xLoop X, xCodeS X P, xTab X P T, xDCallF X P, xRoundF X⟩) n
theorem hex_eq (P : Program) (T : List Ent) (n : Nat) : hex P T n = gex P T n := by
  induction n with
  | zero => rfl
  | succ n ih =>
    show (⟨hCode (hex P T n) P, xLoop (hex P T n), xCodeS (hex P T n) P, xTab (hex P T n) P T, xDCallF (hex P T n) P, xRoundF (hex P T n)⟩ : Ex) = (⟨fCode (gex P T n) P, xLoop (gex P T n), xCodeS (gex P T n) P, xTab (gex P T n) P T, xDCallF (gex P T n) P, xRoundF (gex P T n)⟩ : Ex)
    rw [ih]
    have e : hCode (gex P T n) P = fCode (gex P T n) P := by funext ro c s; exact hCode_eq _ _ _ _ _
    rw [e]
/-- A call is reckoned. -/
noncomputable def entH (P : Program) (T : List Ent) (n : Nat) (e : Ent) : Bool :=
  cl 50 e.r && Nat.ble e.bs.length 1000000 && Nat.ble P.globals.size e.bs.length && (match (hex P T n).call e.f e.args e.mem with | some (.ret v, _) => veq 1000 v e.r | _ => false)
theorem entH_eq (P : Program) (T : List Ent) (n : Nat) (e : Ent) : entH P T n e = entB P T n e := by unfold entH entB; rw [hex_eq]; rfl
end Go.Ab

/- ABSTRACT MEMORY, 33: the reckoner cut into parts: what is known of a state is used at each state that holds it. -/
namespace Go.Ab
open Go Go.RowKit

/-! ### Comparing trees, memory, states -/
noncomputable def allT {β : Type} (ok : Option β → Bool) (b : Tr β) : Bool :=
  Tr.rec (motive := fun _ => Bool) (ok none) (fun _ v _ il ir => Bool.rec (motive := fun _ => Bool) false (Bool.rec (motive := fun _ => Bool) false ir il) (ok v)) b
noncomputable def cmpT {α β : Type} (ok : Option α → Option β → Bool) (a : Tr α) : Tr β → Bool :=
  Tr.rec (motive := fun _ => Tr β → Bool) (fun b => allT (ok none) b)
    (fun _ v _ il ir b => Tr.rec (motive := fun _ => Bool) (Bool.rec (motive := fun _ => Bool) false (Bool.rec (motive := fun _ => Bool) false (ir .nil) (il .nil)) (ok v none))
      (fun l' v' r' _ _ => Bool.rec (motive := fun _ => Bool) false (Bool.rec (motive := fun _ => Bool) false (ir r') (il l')) (ok v v')) b) a
theorem condF {b x : Bool} (h : cond b x false = true) : b = true ∧ x = true := by cases b <;> simp_all
theorem brec {x y : Bool} (h : (Bool.rec (motive := fun _ => Bool) false x y : Bool) = true) : y = true ∧ x = true := by cases y <;> simp_all
theorem allT_get {β : Type} {ok : Option β → Bool} {b : Tr β} (h : allT ok b = true) : ∀ k, ok (b.get k) = true := by
  induction b with
  | nil => intro k; exact h
  | node l v r ihl ihr =>
    intro k
    have h' : (Bool.rec (motive := fun _ => Bool) false (Bool.rec (motive := fun _ => Bool) false (allT ok r) (allT ok l)) (ok v) : Bool) = true := h
    obtain ⟨h1, h2⟩ := brec h'
    obtain ⟨h3, h4⟩ := brec h2
    rw [Tr.get_node]
    split
    · exact h1
    · split
      · exact ihl h3 _
      · exact ihr h4 _
theorem cmpT_get {α β : Type} {ok : Option α → Option β → Bool} {a : Tr α} : ∀ {b : Tr β}, cmpT ok a b = true → ∀ k, ok (a.get k) (b.get k) = true := by
  induction a with
  | nil => intro b h k; exact allT_get (ok := ok none) h k
  | node l v r ihl ihr =>
    intro b h k
    cases b with
    | nil =>
      have h' : (Bool.rec (motive := fun _ => Bool) false (Bool.rec (motive := fun _ => Bool) false (cmpT ok r .nil) (cmpT ok l .nil)) (ok v none) : Bool) = true := h
      obtain ⟨h1, h2⟩ := brec h'
      obtain ⟨h3, h4⟩ := brec h2
      rw [Tr.get_node]
      split
      · exact h1
      · split
        · exact ihl h3 _
        · exact ihr h4 _
    | node l' v' r' =>
      have h' : (Bool.rec (motive := fun _ => Bool) false (Bool.rec (motive := fun _ => Bool) false (cmpT ok r r') (cmpT ok l l')) (ok v v') : Bool) = true := h
      obtain ⟨h1, h2⟩ := brec h'
      obtain ⟨h3, h4⟩ := brec h2
      rw [Tr.get_node, Tr.get_node]
      split
      · exact h1
      · split
        · exact ihl h3 _
        · exact ihr h4 _
/-- A slot: nothing is known, or the same. -/
def okSlot (x y : Option (Option Value)) : Bool :=
  match x with
  | some none => true
  | some (some v) => (match y with | some (some u) => veq 1000 u v | _ => false)
  | none => (match y with | none => true | some (some u) => veq 1000 u undef | _ => false)
theorem okSlot_f {S t : Tr (Option Value)} (h : cmpT okSlot S t = true) : ∀ k v, tF S k = some v → tF t k = some v := by
  intro k v hv
  have h1 := cmpT_get h k
  unfold tF at hv ⊢
  unfold okSlot at h1
  cases hs : S.get k with
  | none =>
    rw [hs] at hv h1
    cases ht : t.get k with
    | none => exact hv
    | some o =>
      rw [ht] at h1
      cases o with
      | none => cases h1
      | some u => rw [← hv]; exact congrArg some (veq_eq h1)
  | some o =>
    rw [hs] at hv h1
    cases o with
    | none => cases hv
    | some w =>
      cases ht : t.get k with
      | none => rw [ht] at h1; cases h1
      | some o =>
        rw [ht] at h1
        cases o with
        | none => cases h1
        | some u => rw [← hv]; exact congrArg some (veq_eq h1)
def esEq : List (Value × Value) → List (Value × Value) → Bool
  | [], [] => true
  | a :: l, b :: l' => veq 1000 a.1 b.1 && (veq 1000 a.2 b.2 && esEq l l')
  | _, _ => false
theorem esEq_eq : ∀ {l l' : List (Value × Value)}, esEq l l' = true → l = l' := by
  intro l
  induction l with
  | nil => intro l' h; cases l' with
    | nil => rfl
    | cons x l' => cases h
  | cons a l ih => intro l' h; cases l' with
    | nil => cases h
    | cons b l' =>
      simp only [esEq, Bool.and_eq_true] at h
      obtain ⟨a1, a2⟩ := a
      obtain ⟨b1, b2⟩ := b
      have e1 := veq_eq h.1
      have e2 := veq_eq h.2.1
      simp only at e1 e2
      rw [ih h.2.2, e1, e2]
/-- A block: nothing is known, or the same. -/
def okBlk (x y : Option XB) : Bool :=
  match x with
  | none => (match y with | none => true | _ => false)
  | some .dead => (match y with | some _ => true | none => false)
  | some (.cells cs e k) => (match y with | some (.cells cs' e' k') => (veqN 1000).2 cs cs' && (Nat.beq e e' && kEq k k') | _ => false)
  | some (.map es) => (match y with | some (.map es') => esEq es es' | _ => false)
  | some .defs => (match y with | some .defs => true | _ => false)
  | some (.loop _) => false
theorem kEq_eq {a b : BKind} (h : kEq a b = true) : a = b := by
  unfold kEq at h
  split at h <;> first | rfl | cases h

section
variable [PR]
noncomputable def memSub (M m : Mem) : Bool := cond (Nat.beq M.nx m.nx) (cmpT okBlk M.h m.h) false
noncomputable def dsEq (a b : List Deferred) : Bool :=
  match a, b with
  | [], [] => true
  | _, _ => false
noncomputable def stSub (S s : St) : Bool := cond (Nat.beq S.m.nx s.m.nx) (cond (Nat.beq S.n s.n) (cond (dsEq S.ds s.ds) (cond (cmpT okSlot S.t s.t) (cmpT okBlk S.m.h s.m.h) false) false) false) false
theorem cmpBlk_sub [TT] {M m : Mem} (h : cmpT okBlk M.h m.h = true) : Sub M.H m.H := by
  intro i
  have h1 := cmpT_get h i
  unfold Mem.H
  unfold okBlk at h1
  cases hM : M.h.get i with
  | none =>
    rw [hM] at h1
    cases hm : m.h.get i with
    | none => exact .inl rfl
    | some y => rw [hm] at h1; cases h1
  | some x =>
    rw [hM] at h1
    cases hm : m.h.get i with
    | none => rw [hm] at h1; cases x <;> cases h1
    | some y =>
      rw [hm] at h1
      cases x with
      | dead => exact .inr (.inl ⟨rfl, by simp⟩)
      | cells cs e k =>
        cases y with
        | cells cs' e' k' =>
          simp only [Bool.and_eq_true] at h1
          rw [(veqN_eq 1000).2 _ _ h1.1, Nat.eq_of_beq_eq_true h1.2.1, kEq_eq h1.2.2]
          exact .inl rfl
        | _ => cases h1
      | map es =>
        cases y with
        | map es' => rw [esEq_eq h1]; exact .inl rfl
        | _ => cases h1
      | defs =>
        cases y with
        | defs => exact .inl rfl
        | _ => cases h1
      | loop L => cases h1

/-! ### What is known -/
/-- A call in a memory. -/
structure EntX where
  f : FuncId
  args : List Value
  m : Mem
  r : ARes
  m' : Mem
/-- The rest of a loop in a state. -/
structure EntL where
  p : Loc
  s : St
  e : AExit
  s' : St
structure Tabs where
  ents : List Ent
  calls : List EntX
  loops : List EntL
noncomputable def findX (T : List EntX) (f : FuncId) (args : List Value) (m : Mem) : Option (ARes × Mem) :=
  List.rec (motive := fun _ => Option (ARes × Mem)) none (fun e _ ih => cond (Nat.beq e.f f) (cond (memSub e.m m) (cond ((veqN 1000).2 e.args args) (some (e.r, e.m')) ih) ih) ih) T
noncomputable def findL (T : List EntL) (ro : Option Nat) (p : Loc) (s : St) : Option (AExit × St) :=
  Option.rec (motive := fun _ => Option (AExit × St)) (List.rec (motive := fun _ => Option (AExit × St)) none (fun e _ ih => cond (Nat.beq e.s.m.nx s.m.nx) (cond (locEq e.p p) (cond (stSub e.s s) (some (e.e, e.s')) ih) ih) ih) T) (fun _ => none) ro

variable [TT]
theorem Ext.of_sub {m : NMap} {H H2 : AHeap} (h : Sub H2 H) : Ext m H m H2 := have _ := PR.prog; ⟨m.le_refl, fun ht i hi => ⟨rfl, by
  rcases h i with e | ⟨e, _⟩ | ⟨e, _⟩
  · rw [e]; exact hi
  · rw [e]; simp
  · rw [e] at ht; cases ht⟩⟩
structure XOK (P : Program) (e : EntX) : Prop where
  calls : Callable P e.f
  says : SCalls P e.f e.args e.m.H fun r' H' => r' = e.r ∧ H' = e.m'.H
/-- So many rounds at most. -/
def LRuns (P : Program) (e : EntL) (K : Nat) : Prop := ∀ (B0 : Nat) (m : NMap) (w : World) (a' : Act) (F : Fence), Rel P B0 m e.s.H w → ARel m e.s.a a' → FRel m none F → ∀ n, Code.roundsIn F n P (codeGet e.p) (LiftQ P B0 m e.s.H w fun x a H => x = e.e ∧ a = e.s'.a ∧ H = e.s'.H) K a' w
def LOK (P : Program) (e : EntL) : Prop := ∃ K, LRuns P e K
structure TabsOK (P : Program) (T : Tabs) : Prop where
  ents : ∀ e ∈ T.ents, EntOK P e
  calls : ∀ e ∈ T.calls, XOK P e
  loops : ∀ e ∈ T.loops, LOK P e
variable {P : Program}
theorem LRuns.mono {e : EntL} {K K' : Nat} (h : LRuns P e K) (hk : K ≤ K') : LRuns P e K' := fun B0 m w a' F hr ha hf n => roundsIn_mono hk (h B0 m w a' F hr ha hf n)
theorem loops_bound {T : List EntL} (h : ∀ e ∈ T, LOK P e) : ∃ K, ∀ e ∈ T, LRuns P e K := by
  induction T with
  | nil => exact ⟨0, fun e he => by cases he⟩
  | cons e T ih =>
    obtain ⟨K1, h1⟩ := h e List.mem_cons_self
    obtain ⟨K2, h2⟩ := ih fun x hx => h x (List.mem_cons_of_mem _ hx)
    refine ⟨max K1 K2, fun x hx => ?_⟩
    rcases List.mem_cons.1 hx with rfl | hx
    · exact h1.mono (by omega)
    · exact (h2 x hx).mono (by omega)
theorem findX_sound {T : List EntX} (hT : ∀ e ∈ T, XOK P e) {f : FuncId} {args : List Value} {m m' : Mem} {r : ARes} (h : findX T f args m = some (r, m')) : Callable P f ∧ SCalls P f args m.H fun r' H' => r' = r ∧ H' = m'.H := by
  induction T with
  | nil => cases h
  | cons e T ih =>
    have ih' := ih fun x hx => hT x (List.mem_cons_of_mem _ hx)
    have h' : cond (Nat.beq e.f f) (cond (memSub e.m m) (cond ((veqN 1000).2 e.args args) (some (e.r, e.m')) (findX T f args m)) (findX T f args m)) (findX T f args m) = some (r, m') := h
    cases h1 : Nat.beq e.f f with
    | false => rw [h1] at h'; exact ih' h'
    | true =>
      rw [h1] at h'
      simp only [cond_true] at h'
      cases h2 : memSub e.m m with
      | false => rw [h2] at h'; exact ih' h'
      | true =>
        rw [h2] at h'
        simp only [cond_true] at h'
        cases h3 : (veqN 1000).2 e.args args with
        | false => rw [h3] at h'; exact ih' h'
        | true =>
          rw [h3] at h'
          cases h'
          have he := hT e List.mem_cons_self
          rw [← Nat.eq_of_beq_eq_true h1, ← (veqN_eq 1000).2 _ _ h3]
          unfold memSub at h2
          exact ⟨he.calls, he.says.weaken (cmpBlk_sub (condF h2).2) fun r' H' hr => ⟨H', Sub.refl _, hr⟩⟩
theorem findL_sound {T : List EntL} {K : Nat} (hT : ∀ e ∈ T, LRuns P e K) {ro : Option Nat} {p : Loc} {s s' : St} {e : AExit} (h : findL T ro p s = some (e, s')) (B0 : Nat) (m : NMap) (w : World) (a' : Act) (F : Fence) (hr : Rel P B0 m s.H w) (ha : ARel m s.a a') (hf : FRel m ro F) (n : Nat) :
    Code.roundsIn F n P (codeGet p) (LiftQ P B0 m s.H w fun x a H => x = e ∧ a = s'.a ∧ H = s'.H) K a' w := by
  cases ro with
  | some l => cases h
  | none =>
    induction T with
    | nil => cases h
    | cons x T ih =>
      have ih' := ih fun y hy => hT y (List.mem_cons_of_mem _ hy)
      have h' : cond (Nat.beq x.s.m.nx s.m.nx) (cond (locEq x.p p) (cond (stSub x.s s) (some (x.e, x.s')) (findL T none p s)) (findL T none p s)) (findL T none p s) = some (e, s') := h
      cases h1 : Nat.beq x.s.m.nx s.m.nx with
      | false => rw [h1] at h'; exact ih' h'
      | true =>
        rw [h1] at h'
        simp only [cond_true] at h'
        cases h2 : locEq x.p p with
        | false => rw [h2] at h'; exact ih' h'
        | true =>
          rw [h2] at h'
          simp only [cond_true] at h'
          cases h3 : stSub x.s s with
          | false => rw [h3] at h'; exact ih' h'
          | true =>
            rw [h3] at h'
            cases h'
            have hx := hT x List.mem_cons_self
            rw [← locEq_eq h2]
            unfold stSub at h3
            obtain ⟨_, h3⟩ := condF h3
            obtain ⟨hn, h3⟩ := condF h3
            obtain ⟨hds, h3⟩ := condF h3
            obtain ⟨ht, h3⟩ := condF h3
            have hn := Nat.eq_of_beq_eq_true hn
            have hd : x.s.ds = [] ∧ s.ds = [] := by
              unfold dsEq at hds
              split at hds
              · exact ⟨by assumption, by assumption⟩
              · cases hds
            have hsub : Sub x.s.H s.H := cmpBlk_sub h3
            have ha2 : ARel m x.s.a a' := by
              refine ⟨⟨?_, fun t v hv => ha.1.2 t v (okSlot_f ht t v hv)⟩, ?_⟩
              · have := ha.1.1; show a'.tmps.size = x.s.n; rw [hn]; exact this
              · have := ha.2; show DsRel m x.s.ds a'.defers; rw [hd.1]; rw [show s.a.defers = s.ds from rfl, hd.2] at this; exact this
            exact roundsIn_lift (Ext.of_sub hsub) (Below.refl _ _) (hx B0 m w a' F (hr.sub hsub) ha2 hf n)
end

/-! ### The reckoner with what is known -/
section
variable [PR]
noncomputable def yCall (X : Ex) (P : Program) (T : Tabs) (f : FuncId) (args : List Value) (m : Mem) : Option (ARes × Mem) :=
  match findX T.calls f args m with
  | some r => some r
  | none => xTab X P T.ents f args m
noncomputable def yLoop (X : Ex) (T : Tabs) (ro : Option Nat) (p : Loc) (s : St) : Option (AExit × St) :=
  match findL T.loops ro p s with
  | some r => some r
  | none => xLoop X ro p s
noncomputable def oex (P : Program) (T : Tabs) (n : Nat) : Ex := Nat.rec (motive := fun _ => Ex) Ex.zero (fun _ X => ⟨hCode X P, yLoop X T, xCodeS X P, yCall X P T, xDCallF X P, xRoundF X⟩) n
variable [TT] {P : Program}
theorem oex_sound (htt : TT.tt = true) (hP : P = PR.prog) (hmix : P.follows .mixedOrders = true) (hc : ∀ f fn c, P.funcs[f]? = some fn → fn.body = some c → Callable P f) {T : Tabs} (hT : TabsOK P T) : ∃ K, ∀ n, Sound P (n + K) (oex P T n) := by
  obtain ⟨K, hK⟩ := loops_bound hT.loops
  refine ⟨K, fun n => ?_⟩
  induction n with
  | zero => exact ⟨fun h => (by cases h), fun h => (by cases h), fun h => (by cases h), fun h => (by cases h), fun h => (by cases h), fun h => (by cases h)⟩
  | succ n ih =>
    have hcode : ∀ {ro : Option Nat} {p : Loc} {s s' : St} {e : AExit}, hCode (oex P T n) P ro p s = some (e, s') → AWp P ro (codeGet p) (fun x a H => x = e ∧ a = s'.a ∧ H = s'.H) s.a s.H := fun h => xCode_sound htt hmix ih (by rw [← fCode_eq, ← hCode_eq]; exact h)
    refine ⟨fun h => hcode h, fun {ro p s s' e} h => ?_, fun h => xCodeS_sound ih h, fun {f args m m' r} h => ?_, fun h => xDCallF_sound ih hP hc h, fun h => xRoundF_sound ih h⟩
    · have h' : yLoop (oex P T n) T ro p s = some (e, s') := h
      unfold yLoop at h'
      intro B0 m w a' F hr ha hf k
      split at h'
      · rename_i q hq
        cases h'
        exact roundsIn_mono (by omega) (findL_sound hK hq B0 m w a' F hr ha hf k)
      · have := xLoop_sound ih h' B0 m w a' F hr ha hf k
        exact roundsIn_mono (by omega) this
    · have h' : yCall (oex P T n) P T f args m = some (r, m') := h
      unfold yCall at h'
      split at h'
      · rename_i q hq
        cases h'
        exact findX_sound hT.calls hq
      · unfold xTab at h'
        split at h'
        · rename_i v hv
          cases h'
          exact tabFind_sound hT.ents hv
        · exact xCallF_sound ih hP hc h'

/-- A call is reckoned: an entry of each kind. -/
noncomputable def entO (P : Program) (T : Tabs) (n : Nat) (e : Ent) : Bool :=
  cl 50 e.r && Nat.ble e.bs.length 1000000 && Nat.ble P.globals.size e.bs.length && (match (oex P T n).call e.f e.args e.mem with | some (.ret v, _) => veq 1000 v e.r | _ => false)
theorem entO_ok (htt : TT.tt = true) (hP : P = PR.prog) (hmix : P.follows .mixedOrders = true) (hc : ∀ f fn c, P.funcs[f]? = some fn → fn.body = some c → Callable P f) {T : Tabs} (hT : TabsOK P T) {e : Ent} (n : Nat) (h : entO P T n e = true) : EntOK P e := by
  simp only [entO, Bool.and_eq_true] at h
  obtain ⟨⟨⟨h1, h2⟩, h3⟩, h4⟩ := h
  split at h4
  · rename_i v m' hv
    obtain ⟨K, hS⟩ := oex_sound htt hP hmix hc hT
    obtain ⟨p1, p2⟩ := (hS n).call hv
    exact ⟨p1, p2.mono fun r' H' hr => by rw [hr.1, veq_eq h4], h1, Nat.le_of_ble_eq_true h2, Nat.le_of_ble_eq_true h3⟩
  · cases h4
def resEq (a b : ARes) : Bool :=
  match a, b with
  | .ret u, .ret v => veq 1000 u v
  | .pan u, .pan v => veq 1000 u v
  | _, _ => false
theorem resEq_eq {a b : ARes} (h : resEq a b = true) : a = b := by
  have _ := PR.prog
  have _ := TT.tt
  unfold resEq at h
  split at h
  · rw [veq_eq h]
  · rw [veq_eq h]
  · cases h
noncomputable def entXO (P : Program) (T : Tabs) (n : Nat) (e : EntX) : Bool :=
  match (oex P T n).call e.f e.args e.m with | some (r, m') => resEq r e.r && memSub e.m' m' | _ => false
theorem entXO_ok (htt : TT.tt = true) (hP : P = PR.prog) (hmix : P.follows .mixedOrders = true) (hc : ∀ f fn c, P.funcs[f]? = some fn → fn.body = some c → Callable P f) {T : Tabs} (hT : TabsOK P T) {e : EntX} (n : Nat) (h : entXO P T n e = true) : XOK P e := by
  unfold entXO at h
  split at h
  · rename_i r m' hv
    simp only [Bool.and_eq_true] at h
    obtain ⟨K, hS⟩ := oex_sound htt hP hmix hc hT
    obtain ⟨p1, p2⟩ := (hS n).call hv
    have h2 := (condF h.2).2
    exact ⟨p1, p2.weaken (Sub.refl _) fun r' H' hr => ⟨e.m'.H, by rw [hr.2]; exact cmpBlk_sub h2, by rw [hr.1]; exact resEq_eq h.1, rfl⟩⟩
  · cases h
def exEq (a b : AExit) : Bool :=
  match a, b with
  | .normal, .normal => true
  | .ret, .ret => true
  | .exit i, .exit j => Nat.beq i j
  | .panic u, .panic v => veq 1000 u v
  | _, _ => false
theorem exEq_eq {a b : AExit} (h : exEq a b = true) : a = b := by
  have _ := PR.prog
  have _ := TT.tt
  unfold exEq at h
  split at h
  · rfl
  · rfl
  · rw [Nat.eq_of_beq_eq_true h]
  · rw [veq_eq h]
  · cases h
/-- The end of a loop, known in part. -/
noncomputable def entLO (P : Program) (T : Tabs) (n : Nat) (e : EntL) : Bool :=
  match (oex P T n).loop none e.p e.s with | some (x, s') => exEq x e.e && stSub e.s' s' | _ => false
theorem roundsIn_post {F : Fence} {n : Nat} {c : Code} {Q Q' : Exit → Act → World → Prop} (hq : ∀ e a w, Q e a w → Q' e a w) {k : Nat} : ∀ {a : Act} {w : World}, Code.roundsIn F n P c Q k a w → Code.roundsIn F n P c Q' k a w := by
  have _ := PR.prog
  have _ := TT.tt
  induction k with
  | zero => intro a w h; exact h.elim
  | succ k ih =>
    intro a w h
    rw [roundsIn_succ] at h ⊢
    refine wpIn_mono h fun e a1 w1 he => ?_
    cases e <;> first | exact ih he | exact hq _ _ _ he
theorem entLO_ok (htt : TT.tt = true) (hP : P = PR.prog) (hmix : P.follows .mixedOrders = true) (hc : ∀ f fn c, P.funcs[f]? = some fn → fn.body = some c → Callable P f) {T : Tabs} (hT : TabsOK P T) {e : EntL} (n : Nat) (h : entLO P T n e = true) : LOK P e := by
  unfold entLO at h
  split at h
  · rename_i x s' hv
    simp only [Bool.and_eq_true] at h
    obtain ⟨K, hS⟩ := oex_sound htt hP hmix hc hT
    refine ⟨n + K, fun B0 m w a' F hr ha hf k => ?_⟩
    have hx := (hS n).loop hv B0 m w a' F hr ha hf k
    have hs := h.2
    unfold stSub at hs
    obtain ⟨_, hs⟩ := condF hs
    obtain ⟨hn, hs⟩ := condF hs
    obtain ⟨hds, hs⟩ := condF hs
    obtain ⟨ht, hs⟩ := condF hs
    have hn := Nat.eq_of_beq_eq_true hn
    have hd : e.s'.ds = [] ∧ s'.ds = [] := by
      unfold dsEq at hds
      split at hds
      · exact ⟨by assumption, by assumption⟩
      · cases hds
    have hsub : Sub e.s'.H s'.H := cmpBlk_sub hs
    refine roundsIn_post (fun e2 a2 w2 hl => ?_) hx
    obtain ⟨y, a3, H3, m3, ⟨rfl, rfl, rfl⟩, hE, hr3, ha3, hB3, hx3⟩ := hl
    refine ⟨y, e.s'.a, e.s'.H, m3, ⟨exEq_eq h.1, rfl, rfl⟩, hE.trans (Ext.of_sub hsub), hr3.sub hsub, ⟨⟨?_, fun t v hv => ha3.1.2 t v (okSlot_f ht t v hv)⟩, ?_⟩, hB3, hx3⟩
    · have := ha3.1.1; show a2.tmps.size = e.s'.n; rw [hn]; exact this
    · have := ha3.2; show DsRel m3 e.s'.ds a2.defers; rw [hd.1]; rw [show s'.a.defers = s'.ds from rfl, hd.2] at this; exact this
  · cases h
end
end Go.Ab

/- ABSTRACT MEMORY, 34: states, written out. -/
namespace Go.Ab
open Go Go.RowKit
/-- Names below n, of which nothing is known. -/
noncomputable def deads (n : Nat) : Tr XB :=
  Nat.rec (motive := fun _ => Nat → Tr XB) (fun _ => .nil) (fun _ ih n => Nat.rec (motive := fun _ => Tr XB) .nil (fun k _ => .node (ih (Nat.div (Nat.succ k) 2)) (some .dead) (ih (Nat.div k 2))) n) 40 n
noncomputable def memL (n : Nat) (l : List (Nat × XB)) : Mem := ⟨List.rec (motive := fun _ => Tr XB → Tr XB) (fun t => t) (fun x _ ih t => ih (Tr.set 40 t x.1 x.2)) l (deads n), n⟩
noncomputable def slotsL (l : List (Nat × Value)) : Tr (Option Value) := List.rec (motive := fun _ => Tr (Option Value) → Tr (Option Value)) (fun t => t) (fun x _ ih t => ih (Tr.set 40 t x.1 (some x.2))) l .nil
end Go.Ab

/- WHAT IS CLOSED ABOUT THIS PROGRAM, for the reckoner. -/
namespace Go.Ab
open Go Go.RowKit Go.Proofs
instance freeNames : TT := ⟨true⟩
noncomputable instance theProg : PR := ⟨Try.prog⟩
theorem callable_all {P : Program} (h : (P.funcs.toList.all fun fn => !(fn.name == "runtime.NumGoroutine")) = true) : ∀ f fn c, P.funcs[f]? = some fn → fn.body = some c → Callable P f := by
  intro f fn c hf hb args w
  have hm : fn ∈ P.funcs.toList := by
    obtain ⟨h1, h2⟩ := Array.getElem?_eq_some_iff.1 hf
    rw [← h2]; simp
  have hn := (List.all_eq_true.1 h) fn hm
  have hn' : (fn.name == "runtime.NumGoroutine") = false := by simpa using hn
  have hn2 : ¬ fn.name = "runtime.NumGoroutine" := by simpa using hn'
  simp [callFunc, hf, hn2, hb]
theorem mixed : Try.prog.follows .mixedOrders = true := by kernel_rfl
theorem callable : ∀ f fn c, Try.prog.funcs[f]? = some fn → fn.body = some c → Callable Try.prog f := callable_all (by kernel_rfl)
theorem known {T : Tabs} (hT : TabsOK Try.prog T) {e : Ent} (h : entO Try.prog T 1000000 e = true) : EntOK Try.prog e := entO_ok rfl rfl mixed callable hT 1000000 h
theorem knownX {T : Tabs} (hT : TabsOK Try.prog T) {e : EntX} (h : entXO Try.prog T 1000000 e = true) : XOK Try.prog e := entXO_ok rfl rfl mixed callable hT 1000000 h
theorem knownL {T : Tabs} (hT : TabsOK Try.prog T) {e : EntL} (h : entLO Try.prog T 1000000 e = true) : LOK Try.prog e := entLO_ok rfl rfl mixed callable hT 1000000 h
theorem tabs0 : TabsOK Try.prog ⟨[], [], []⟩ := ⟨fun _ h => (by cases h), fun _ h => (by cases h), fun _ h => (by cases h)⟩
theorem tabs1 {e : EntL} (h : LOK Try.prog e) : TabsOK Try.prog ⟨[], [], [e]⟩ := ⟨fun _ h => (by cases h), fun _ h => (by cases h), fun x hx => by rcases List.mem_cons.1 hx with rfl | hx; exact h; cases hx⟩
/-- Numbers, written short. -/
def I (n : Int) : Value := .int .i64 n
def G (l : List Int) : Value := .agg ⟨l.map I⟩
def Is (l : List Int) : List Value := l.map I
def K3 (a b c v : Int) : Value × Value := (.agg #[I a, I b, I c], I v)
end Go.Ab

/- WHAT THE PACKAGE horse IS GIVEN. -/
set_option maxRecDepth 100000
namespace Go.Ab
open Go Go.RowKit Go.Proofs
structure Mv where
  at_ : Int
  place : Int
  lo : Int
  hi : Int
noncomputable def mvV (m : Mv) : List Value := [I m.at_, I m.place, I m.lo, I m.hi]
noncomputable def mvs (n : Nat) (f : Nat → Mv) : List Value := flatC n fun i => mvV (f i)
noncomputable def hV (p : Int) (n c : Nat) : Value := .agg ⟨[I p, .slice (some ⟨0, 0, none⟩) n c]⟩
noncomputable def vx : Vx := vex Try.prog 1000000
theorem vx_sound : VSound Try.prog 1000000 vx := vex_sound rfl rfl mixed callable _
theorem nglob : Try.prog.globals.size = 0 := by kernel_rfl
end Go.Ab

/- ABSTRACT MEMORY, 51: cells of so many elements; numbers that fit; what a contract asks. -/
namespace Go.Ab
open Go Go.RowKit
section
theorem flatC_len {n k : Nat} {g : Nat → List Value} (hk : ∀ i, i < n → (g i).length = k) : (flatC n g).length = n * k := by
  induction n with
  | zero => simp [flatC]
  | succ n ih =>
    have h1 := ih (fun i hi => hk i (by omega))
    simp only [flatC, List.range_succ, List.flatMap_append, List.length_append] at h1 ⊢
    rw [h1]
    simp only [List.flatMap_cons, List.flatMap_nil, List.append_nil, hk n (by omega), Nat.succ_mul]
theorem flatC_succ {n : Nat} {g : Nat → List Value} : flatC (n + 1) g = flatC n g ++ g n := by simp [flatC, List.range_succ]
theorem flatC_part {n k : Nat} {g : Nat → List Value} (hk : ∀ i, i < n → (g i).length = k) {i : Nat} (hi : i < n) : ((flatC n g).drop (i * k)).take k = g i := by
  induction n with
  | zero => omega
  | succ n ih =>
    have hl := flatC_len (n := n) (g := g) (k := k) fun i hi => hk i (by omega)
    rw [flatC_succ]
    by_cases h : i = n
    · subst h
      rw [List.drop_append_of_le_length (by omega), List.drop_eq_nil_of_le (by omega)]
      have := hk i (by omega)
      rw [List.nil_append, ← this, List.take_length]
    · have h2 := ih (fun i hi => hk i (by omega)) (by omega)
      have h3 : i * k + k ≤ n * k := by
        have : (i + 1) * k ≤ n * k := Nat.mul_le_mul_right k (by omega)
        rw [Nat.succ_mul] at this; exact this
      rw [List.drop_append_of_le_length (by omega), List.take_append_of_le_length (by rw [List.length_drop]; omega)]
      exact h2
theorem flatC_get {n k : Nat} {g : Nat → List Value} (hk : ∀ i, i < n → (g i).length = k) {i j : Nat} (hi : i < n) (hj : j < k) : (flatC n g)[i * k + j]? = (g i)[j]? := by
  have h := flatC_part hk hi
  have : (((flatC n g).drop (i * k)).take k)[j]? = (g i)[j]? := by rw [h]
  rw [List.getElem?_take_of_lt hj, List.getElem?_drop] at this
  exact this
theorem flatC_bound {n k i : Nat} (h : i < n) : i * k + k ≤ n * k := by
  have : (i + 1) * k ≤ n * k := Nat.mul_le_mul_right k (by omega)
  rw [Nat.succ_mul] at this; exact this
theorem flatC_atomic {n : Nat} {g : Nat → List Value} (h : ∀ i, i < n → ∀ v ∈ g i, atomic v = true) : ∀ v ∈ flatC n g, atomic v = true := by
  intro v hv
  simp only [flatC, List.mem_flatMap, List.mem_range] at hv
  obtain ⟨i, hi, hv⟩ := hv
  exact h i hi v hv
theorem wrapI {x : Int} (h1 : -9223372036854775808 ≤ x) (h2 : x < 9223372036854775808) : IntKind.i64.wrap x = x := Go.IntWalk.i64_in x ⟨h1, by omega⟩
end
variable [TT] [PR] {P : Program}
theorem con_of {N : Nat} {V : Vx} (hV : VSound P N V) {f : FuncId} {C : Con} (x0 : Hx) (h : ∀ x, C.pre x → ∃ hs, V.call f (C.args x) (retK fun r => r = C.res x) (C.mem x) hs) (hx : C.pre x0) (hc : ∀ x, C.pre x → clR 50 (C.res x) = true) (ha : ∀ x, C.pre x → Atoms x.ls)
    (hr : allRo C.bs = true) (hs : C.bs.length ≤ 1000000) (hg : P.globals.size ≤ C.bs.length) : ConOK P f C where
  calls := by obtain ⟨hs, hv⟩ := h x0 hx; exact (hV.call hv).1
  says x hp := by
    obtain ⟨hs, hv⟩ := h x hp
    refine (hV.call hv).2.mono ?_
    rintro r H ⟨m, hs', hk, rfl⟩
    exact hk
  closed := hc
  atoms := ha
  ro := hr
  small := hs
  glob := hg
end Go.Ab
namespace Go.Ab
open Go Go.RowKit
/-- A result, and the memory behind it, in a template's form: the value in slot 0. -/
noncomputable def retN (T : Tm) (R : Hx → Prop) : ARes → Mem → HS → Prop := fun r m hs =>
  match r with
  | .ret v => match tick hs with
    | (some (.tm _ π), _) => match T.ext π ⟨1, Tr.set 40 .nil 0 (some v), [], m⟩ with
      | some x => R x
      | none => False
    | _ => False
  | .pan _ => False
variable [TT] [PR] {P : Program}
theorem retN_says {N : Nat} {V : Vx} (htt : TT.tt = true) (hV : VSound P N V) {f : FuncId} {args : List Value} {m : Mem} {T : Tm} {y : Hx} {hs : HS} (hT : T.n = 1) (hg : P.globals.size ≤ T.k) (hk : ∀ j, T.k ≤ j → m.H j = none) (hat : Atoms y.ls)
    (h : V.call f args (retN T fun x => x = y) m hs) {v : Value} (hv : (T.inst y).a.f 0 = some v) : SCalls P f args m.H fun r' H' => r' = .ret v ∧ H' = (T.inst y).H := by
  intro B0 m0 w ws hr hvs k
  refine ((hV.call h).2 B0 m0 w ws hr hvs k).mono ?_
  rintro e w1 ⟨r, H1, m1, ⟨m', hs', hq, rfl⟩, hE, hr1, hB1, hres⟩
  unfold retN at hq
  split at hq
  · rename_i u
    split at hq
    · rename_i i π _ _
      split at hq
      · rename_i x hx
        subst hq
        obtain ⟨u', rfl, hu⟩ := hres
        have har : ARel m1 (⟨1, Tr.set 40 .nil 0 (some u), [], m'⟩ : St).a ⟨#[u'], []⟩ := by
          refine ⟨⟨rfl, fun t z hz => ?_⟩, .nil⟩
          have hz' : tF (Tr.set 40 .nil 0 (some u)) t = some z := hz
          rw [tF_set (by rfl)] at hz'
          by_cases h0 : t = 0
          · subst h0
            simp only [if_true, Option.some.injEq] at hz'
            subst hz'
            exact hu
          · simp only [if_neg h0] at hz'
            have hz2 : z = undef := by
              simp only [tF, Tr.get_nil] at hz'
              cases hz'; rfl
            subst hz2
            have : (#[u'] : Array Value).getD t undef = undef := by
              simp only [Array.getD]
              rw [dif_neg (by simp only [List.size_toArray, List.length_cons, List.length_nil]; omega)]
            show VRel m1 undef ((#[u'] : Array Value).getD t undef)
            rw [this]
            exact .tuple .nil .nil
        obtain ⟨m2, q1, q2, q3⟩ := Tm.ext_sound (P := P) hx hat hg B0 m1 w1 ⟨#[u'], []⟩ hr1 har
        refine ⟨.ret v, (T.inst x).H, m2, ⟨rfl, rfl⟩, hE.renew htt hr hk q1, q2, hB1, u', rfl, ?_⟩
        exact q3.1.2 0 v hv
      · exact hq.elim
    · exact hq.elim
  · exact hq.elim
/-- A contract of one new row. -/
noncomputable def rowT (N : Nat) (e : TypeId) : Tm := ⟨1, [some (.slice N 0 .nil)], N, List.replicate N .dead ++ [.list e .row]⟩
theorem conRow_of {N : Nat} {V : Vx} (htt : TT.tt = true) (hV : VSound P N V) {f : FuncId} {C : ConN} {e : TypeId} {cells : List Value} {n : Nat} (x0 : Hx) (hx0 : ∀ x, C.pre x ↔ x = x0) (hone : C.one = true) (hres : C.res x0 = [.sl 0 n]) (hnews : C.news x0 = [(cells, e)])
    (h : ∃ hs, V.call f (C.con.args x0) (retN (rowT C.bs.length e) fun y => y = ⟨⟨[], [(n, n)]⟩, [cells]⟩) (C.con.mem x0) hs) (ha : Atoms x0.ls) (hat : ∀ v ∈ cells, atomic v = true)
    (hr : allRo C.bs = true) (hs : C.bs.length ≤ 100000) (hg : P.globals.size ≤ C.bs.length) : ConNOK P f C where
  calls := by obtain ⟨hs, hv⟩ := h; exact (hV.call hv).1
  says x hp := by
    cases (hx0 x).1 hp
    obtain ⟨hs', hv⟩ := h
    have hlen : (rowT C.bs.length e).blocks.length = C.bs.length + 1 := by simp [rowT]
    have hval : ((rowT C.bs.length e).inst ⟨⟨[], [(n, n)]⟩, [cells]⟩).a.f 0 = some (.slice (some ⟨C.bs.length, 0, none⟩) n n) := rfl
    refine (retN_says htt hV (T := rowT C.bs.length e) rfl (by exact hg) (fun j hj => ?_) (fun cs hcs => by simp only [List.mem_singleton] at hcs; subst hcs; exact hat) hv hval).mono ?_
    · have hj' : C.bs.length ≤ j := hj
      have := Con.mem_H (C := C.con) (x := x0) (by show C.bs.length ≤ _; omega) j
      rw [this, List.getElem?_eq_none (by rw [instB_len]; exact hj')]
      rfl
    · rintro r H' ⟨rfl, rfl⟩
      refine ⟨?_, fun t cs e' ht => ?_⟩
      · rw [hone, hres]; rfl
      · rw [hnews] at ht
        match t, ht with
        | 0, ht =>
          simp only [List.getElem?_cons_zero, Option.some.injEq, Prod.mk.injEq] at ht
          obtain ⟨rfl, rfl⟩ := ht
          rw [Nat.add_zero, Tm.inst_H (by rw [hlen]; omega)]
          have key : ∀ (k : Nat) (h : Hx), (instB (List.replicate k .dead ++ [.list e .row]) h).1[k]? = some (.cells (h.ls.headD []) e .row) := by
            intro k
            induction k with
            | zero => intro h; rfl
            | succ k ih => intro h; exact ih h
          show Option.map XB.a ((instB (List.replicate C.bs.length .dead ++ [.list e .row]) _).1[C.bs.length]?) = _
          rw [key]
          rfl
  closed x hp := by cases (hx0 x).1 hp; rw [hres, hnews]; exact ⟨rfl, fun _ => rfl⟩
  atoms x hp := by
    cases (hx0 x).1 hp
    refine ⟨ha, fun y hy => ?_⟩
    rw [hnews] at hy
    simp only [List.mem_singleton] at hy
    subst hy
    exact hat
  ro := hr
  small := by omega
  glob := hg
end Go.Ab

/- package dipworksref02: which horses are valid. -/
set_option maxRecDepth 100000
namespace Go.Ab
open Go Go.RowKit Go.Proofs
def p21 : Loc := .l (.r (.l (.r (.r (.top 21)))))
def T21 : Tm := ⟨58, mkS 58 [(1, .ptr 1 0 .nil), (3, .hole .nil)], 2, [.list 1 .ro, .cells (.hole (.slice 0 0 .nil)) 24 .var]⟩
def R21 : Tm := ⟨58, mkS 58 [(2, .hole .nil)], 2, [.dead, .dead]⟩
noncomputable def m1 (ms : List Value) : Mem := ⟨fillX [.cells ms 1 .ro] 0 .nil, 1⟩
theorem b21 (p : Int) (i n c : Nat) (ms : List Value) (f : Nat → Mv) (R : Nat → AExit → Hx → Prop)  : (vx.code none (.l p21) (leafK [T21, R21] R) (T21.inst ⟨⟨[I i, I p], [(n, c)]⟩, [ms]⟩) ([(4, .split ((4, .val (.pointer (.some ⟨((0 : Nat)), ((0 : Nat) + i * (4 : Nat)), .none⟩))) :: (0, .val (.agg ⟨[(.int IntKind.i64 ((f i).at_)), (.int IntKind.i64 ((f i).place)), (.int IntKind.i64 ((f i).lo)), (.int IntKind.i64 ((f i).hi))]⟩)) :: [(8, .split ([(3, .split ([(10, .split ([(3, .split ([(8, .split ([(7, Hint.tm (1 : Nat) [])]) ([(8, .split ([(5, Hint.tm (1 : Nat) [])]) ([(5, .split ([(3, Hint.tm (1 : Nat) [])]) ([(5, Hint.tm (0 : Nat) [])]))]))]))]) ([(12, Hint.tm (1 : Nat) [])]))]) ([(13, Hint.tm (1 : Nat) [])]))]) ([(13, Hint.tm (1 : Nat) [])]))]) ([(14, Hint.tm (1 : Nat) [])]))]) ([(1, Hint.tm (0 : Nat) [])]))])) =
((((decide ((↑i : Int) < (↑n : Int))) = true → ((((((0 : Int) ≤ (↑i : Int))) ∧ (((↑i : Int) < (↑n : Int)))) ∧ (((.pointer (.some ⟨((0 : Nat)), ((0 : Nat) + i * (4 : Nat)), .none⟩)) : Value) = (.pointer (.some ⟨((0 : Nat)), ((0 : Nat) + i * (4 : Nat)), .none⟩)))) ∧
(((((0 : Nat) + i * (4 : Nat) + (4 : Nat) ≤ ms.length)) ∧ (((.agg ⟨[(.int IntKind.i64 ((f i).at_)), (.int IntKind.i64 ((f i).place)), (.int IntKind.i64 ((f i).lo)), (.int IntKind.i64 ((f i).hi))]⟩) : Value) = (.agg ⟨(List.take (4 : Nat) (List.drop ((0 : Nat) + i * (4 : Nat)) ms))⟩))) ∧
(((decide ((0 : Int) ≤ (f i).at_)) = true → (((decide ((f i).at_ ≤ (200 : Int))) = true → (((decide ((0 : Int) ≤ (f i).place)) = true → (((decide ((f i).place ≤ (30 : Int))) = true → (((decide ((f i).lo < (1 : Int))) = true → R ((1 : Nat)) .ret ⟨⟨[(.bool false)], []⟩, []⟩) ∧
((decide ((f i).lo < (1 : Int))) = false → (((decide ((f i).lo > (f i).hi)) = true → R ((1 : Nat)) .ret ⟨⟨[(.bool false)], []⟩, []⟩) ∧
((decide ((f i).lo > (f i).hi)) = false → (((decide ((f i).hi > (20 : Int))) = true → R ((1 : Nat)) .ret ⟨⟨[(.bool false)], []⟩, []⟩) ∧
((decide ((f i).hi > (20 : Int))) = false → R ((0 : Nat)) .normal ⟨⟨[(.int IntKind.i64 (IntKind.i64.wrap ((↑i : Int) + (1 : Int)))), (.int IntKind.i64 (p))], [⟨(n), (c)⟩]⟩, [(ms)]⟩))))))) ∧
((decide ((f i).place ≤ (30 : Int))) = false → R ((1 : Nat)) .ret ⟨⟨[(.bool false)], []⟩, []⟩))) ∧
((decide ((0 : Int) ≤ (f i).place)) = false → R ((1 : Nat)) .ret ⟨⟨[(.bool false)], []⟩, []⟩))) ∧
((decide ((f i).at_ ≤ (200 : Int))) = false → R ((1 : Nat)) .ret ⟨⟨[(.bool false)], []⟩, []⟩))) ∧
((decide ((0 : Int) ≤ (f i).at_)) = false → R ((1 : Nat)) .ret ⟨⟨[(.bool false)], []⟩, []⟩))))) ∧
((decide ((↑i : Int) < (↑n : Int))) = false → R ((0 : Nat)) (.exit ((0 : Nat))) ⟨⟨[(.int IntKind.i64 ((↑i : Int))), (.int IntKind.i64 (p))], [⟨(n), (c)⟩]⟩, [(ms)]⟩))) := by kernel_rfl

theorem f21t (p : Int) (n c : Nat) (ms : List Value) (R : ARes → Prop)  : (vx.call 21 [hV p n c] (retK R) (m1 ms) ([(9, .split ([(3, .split ([(7, .split ([]) ((3, Hint.loopT T21 (AExit.exit (0 : Nat)) T21 fun x => { hs := { vs := [I (↑n : Int), I p], ns := [(n, c)] }, ls := [ms] }) :: []))]) ([]))]) ([]))])) =
((((decide ((0 : Int) ≤ p)) = true → (((decide (p ≤ (3 : Int))) = true → (((decide ((↑n : Int) > (7 : Int))) = true → R (.ret (.bool false))) ∧
((decide ((↑n : Int) > (7 : Int))) = false → ((Atoms [(ms)]) ∧ (LoopOK Try.prog .none p21 T21 ⟨⟨[(.int IntKind.i64 ((0 : Int))), (.int IntKind.i64 (p))], [⟨(n), (c)⟩]⟩, [(ms)]⟩ (.exit ((0 : Nat))) T21 ⟨⟨[(.int IntKind.i64 ((↑n : Int))), (.int IntKind.i64 (p))], [⟨(n), (c)⟩]⟩, [(ms)]⟩) ∧ 
R (.ret (.bool true)))))) ∧
((decide (p ≤ (3 : Int))) = false → R (.ret (.bool false))))) ∧
((decide ((0 : Int) ≤ p)) = false → R (.ret (.bool false))))) := by kernel_rfl

theorem f21f (p : Int) (n c : Nat) (ms : List Value) (R : ARes → Prop)  : (vx.call 21 [hV p n c] (retK R) (m1 ms) ([(9, .split ([(3, .split ([(7, .split ([]) ((3, Hint.loopT T21 AExit.ret R21 fun x => { hs := { vs := [Value.bool false], ns := [] }, ls := [] }) :: []))]) ([]))]) ([]))])) =
((((decide ((0 : Int) ≤ p)) = true → (((decide (p ≤ (3 : Int))) = true → (((decide ((↑n : Int) > (7 : Int))) = true → R (.ret (.bool false))) ∧
((decide ((↑n : Int) > (7 : Int))) = false → ((Atoms [(ms)]) ∧ (LoopOK Try.prog .none p21 T21 ⟨⟨[(.int IntKind.i64 ((0 : Int))), (.int IntKind.i64 (p))], [⟨(n), (c)⟩]⟩, [(ms)]⟩ .ret R21 ⟨⟨[(.bool false)], []⟩, []⟩) ∧ 
R (.ret (.bool false)))))) ∧
((decide (p ≤ (3 : Int))) = false → R (.ret (.bool false))))) ∧
((decide ((0 : Int) ≤ p)) = false → R (.ret (.bool false))))) := by kernel_rfl

/-- A move that is valid. -/
def okMv (m : Mv) : Bool := decide (0 ≤ m.at_) && (decide (m.at_ ≤ 200) && (decide (0 ≤ m.place) && (decide (m.place ≤ 30) && (!decide (m.lo < 1) && (!decide (m.lo > m.hi) && !decide (m.hi > 20))))))
/-- Are all from i on, so many? -/
def allFrom (p : Nat → Bool) : Nat → Nat → Bool
  | 0, _ => true
  | k + 1, i => p i && allFrom p k (i + 1)
theorem mvs_len (n : Nat) (f : Nat → Mv) : (mvs n f).length = n * 4 := flatC_len fun i _ => rfl
theorem mvs_part {n i : Nat} (f : Nat → Mv) (h : i < n) : ((mvs n f).drop (0 + i * 4)).take 4 = mvV (f i) := by
  rw [Nat.zero_add]; exact flatC_part (k := 4) (fun i _ => rfl) h
theorem mvs_atoms (n : Nat) (f : Nat → Mv) : Atoms [mvs n f] := by
  intro cs hcs
  simp only [List.mem_singleton] at hcs
  subst hcs
  refine flatC_atomic fun i _ v hv => ?_
  simp only [mvV, List.mem_cons, List.not_mem_nil, or_false] at hv
  rcases hv with rfl | rfl | rfl | rfl <;> rfl
noncomputable def st21 (p : Int) (n c : Nat) (f : Nat → Mv) (i : Nat) : Hx := ⟨⟨[I i, I p], [(n, c)]⟩, [mvs n f]⟩
noncomputable def out21 (p : Int) (n c : Nat) (f : Nat → Mv) (i : Nat) : AExit × Nat × Hx := if allFrom (fun i => okMv (f i)) (n - i) i then (.exit 0, 0, st21 p n c f n) else (.ret, 1, ⟨⟨[.bool false], []⟩, []⟩)
theorem round21 {p : Int} {i n c : Nat} {f : Nat → Mv} {R : Nat → AExit → Hx → Prop} (hn : n ≤ 1000000) (h1 : i < n → okMv (f i) = true → R 0 .normal (st21 p n c f (i + 1))) (h2 : i < n → okMv (f i) = false → R 1 .ret ⟨⟨[.bool false], []⟩, []⟩)
    (h3 : ¬ i < n → R 0 (.exit 0) (st21 p n c f i)) : ∃ hs, vx.code none (.l p21) (leafK [T21, R21] R) (T21.inst (st21 p n c f i)) hs := by
  refine ⟨_, (b21 p i n c (mvs n f) f R).mpr ⟨fun h => ?_, fun h => ?_⟩⟩
  · have hi : i < n := by simpa using h
    have hw : IntKind.i64.wrap ((i : Int) + 1) = ((i + 1 : Nat) : Int) := wrapI (by omega) (by omega)
    have h1 := h1 hi
    have h2 := h2 hi
    refine ⟨⟨⟨by omega, by omega⟩, rfl⟩, ⟨by rw [mvs_len]; have := flatC_bound (k := 4) hi; omega, by rw [mvs_part f hi]; rfl⟩, ?_⟩
    rw [hw]
    simp only [okMv] at h1 h2
    repeat' (first | with_reducible apply And.intro | with_reducible intro)
    all_goals first | (refine h2 ?_; simp [*]; done) | (refine h1 ?_; simp [*]; done)
  · exact h3 (by simpa using h)
theorem loop21 (p : Int) (n c : Nat) (f : Nat → Mv) (hn : n ≤ 1000000) : LoopOK Try.prog none p21 T21 (st21 p n c f 0) (out21 p n c f 0).1 (if allFrom (fun i => okMv (f i)) n 0 then T21 else R21) (out21 p n c f 0).2.2 := by
  refine loop_vc (Ts := [T21, R21]) (k := 2) (X := Nat) (inv := fun i => i ≤ n) (μ := fun i => n - i) (st := fun i => (0, st21 p n c f i)) (out := out21 p n c f) rfl vx_sound (by decide) (by rw [nglob]; omega) (fun i hi => ?_) (Nat.zero_le n) rfl (by decide) (by decide) ?_
  · have step : i < n → out21 p n c f i = if okMv (f i) then out21 p n c f (i + 1) else (.ret, 1, ⟨⟨[.bool false], []⟩, []⟩) := fun h => by
      have e : n - i = (n - (i + 1)) + 1 := by omega
      simp only [out21, e, allFrom]
      cases okMv (f i) <;> simp
    obtain ⟨hs, hr⟩ := round21 (p := p) (c := c) (R := RoundR (fun i => i ≤ n) (fun i => n - i) (fun i => (0, st21 p n c f i)) (out21 p n c f) i) hn
      (fun h ho => ⟨⟨mvs_atoms n f, trivial⟩, .inl ⟨rfl, i + 1, by omega, by show n - (i + 1) < n - i; omega, rfl, by rw [step h, if_pos ho]⟩⟩)
      (fun h ho => ⟨⟨fun _ h => (by cases h), trivial⟩, .inr ⟨by simp, by rw [step h, ho]; rfl⟩⟩)
      (fun h => ⟨⟨mvs_atoms n f, trivial⟩, .inr ⟨by simp, by
        have e : i = n := by omega
        subst e
        simp [out21, allFrom]⟩⟩)
    exact ⟨T21, hs, rfl, hr⟩
  · simp only [out21, Nat.sub_zero]
    split <;> rfl
/-- Are horses valid? -/
def okH (p : Int) (n : Nat) (f : Nat → Mv) : Bool := decide (0 ≤ p) && (decide (p ≤ 3) && (!decide ((n : Int) > 7) && allFrom (fun i => okMv (f i)) n 0))
noncomputable def C21 (p : Int) (n c : Nat) (f : Nat → Mv) : Con where
  A := .agg (.hole (.slice 0 0 .nil)) .nil
  bs := [.list 1 .ro]
  pre x := x = ⟨⟨[I p], [(n, c)]⟩, [mvs n f]⟩
  res _ := .ret (.bool (okH p n f))
theorem C21_ok (p : Int) (n c : Nat) (f : Nat → Mv) (hn : n ≤ 1000000) : ConOK Try.prog 21 (C21 p n c f) := by
  refine con_of vx_sound _ (fun x hx => ?_) rfl (fun _ _ => rfl) (fun x hx => by cases hx; exact mvs_atoms n f) rfl (Nat.le_of_ble_eq_true rfl) (by rw [nglob]; exact Nat.zero_le _)
  cases hx
  have hl := loop21 p n c f hn
  simp only [out21, Nat.sub_zero] at hl
  cases hb : allFrom (fun i => okMv (f i)) n 0 with
  | true =>
    simp only [hb, if_true] at hl
    refine ⟨_, (f21t p n c (mvs n f) _).mpr ?_⟩
    have hres : ∀ b, okH p n f = b → (ARes.ret (.bool b) = ((C21 p n c f).res ⟨⟨[I p], [(n, c)]⟩, [mvs n f]⟩)) := fun b hb => by subst hb; rfl
    generalize ((C21 p n c f).res ⟨⟨[I p], [(n, c)]⟩, [mvs n f]⟩) = z at hres
    simp only [okH, hb] at hres
    repeat' (first | with_reducible apply And.intro | with_reducible intro)
    all_goals first | exact mvs_atoms n f | exact hl | (refine hres _ ?_; simp [*]; done)
  | false =>
    simp only [hb, Bool.false_eq_true, if_false] at hl
    refine ⟨_, (f21f p n c (mvs n f) _).mpr ?_⟩
    have hres : ∀ b, okH p n f = b → (ARes.ret (.bool b) = ((C21 p n c f).res ⟨⟨[I p], [(n, c)]⟩, [mvs n f]⟩)) := fun b hb => by subst hb; rfl
    generalize ((C21 p n c f).res ⟨⟨[I p], [(n, c)]⟩, [mvs n f]⟩) = z at hres
    simp only [okH, hb] at hres
    repeat' (first | with_reducible apply And.intro | with_reducible intro)
    all_goals first | exact mvs_atoms n f | exact hl | (refine hres _ ?_; simp [*]; done)
end Go.Ab

/- FORMS OF STATES AT LOOPS' HEADS, package horse and what speaks of it. -/
set_option maxRecDepth 100000
namespace Go.Ab
open Go Go.RowKit Go.Proofs
noncomputable def m2 (ms ps : List Value) : Mem := ⟨fillX [.cells ms 1 .ro, .cells ps 3 .ro] 0 .nil, 2⟩
noncomputable def slV (j n c : Nat) : Value := .slice (some ⟨j, 0, none⟩) n c
def p68 : Loc := .l (.r (.l (.r (.r (.top 68)))))
def T68 : Tm := ⟨26, mkS 26 [(16, .slice 0 0 .nil), (17, .hole .nil), (18, .hole .nil)], 2, [.list 1 .ro, .dead]⟩
def R68 : Tm := ⟨26, mkS 26 [(2, .hole .nil)], 2, [.dead, .dead]⟩
def p39 : Loc := .l (.r (.l (.r (.r (.top 39)))))
def T39 : Tm := ⟨23, mkS 23 [(13, .slice 1 0 .nil), (14, .hole .nil), (15, .hole .nil)], 3, [.dead, .list 3 .ro, .dead]⟩
def R39 : Tm := ⟨23, mkS 23 [(4, .hole .nil)], 3, [.dead, .dead, .dead]⟩
def p49 : Loc := .l (.r (.l (.r (.r (.top 49)))))
noncomputable def nilS : Value := .slice none 0 0
noncomputable def T49a : Tm := ⟨23, mkS 23 [(3, .val nilS .nil), (8, .slice 0 0 .nil), (9, .hole .nil), (10, .hole .nil)], 2, [.list 1 .ro, .dead]⟩
noncomputable def T49b : Tm := ⟨23, mkS 23 [(3, .slice 2 0 .nil), (8, .slice 0 0 .nil), (9, .hole .nil), (10, .hole .nil)], 2, [.list 1 .ro, .dead, .list 97 .row]⟩

end Go.Ab

/- package horse: which horses are valid; which lists are plans; the moves with their numbers. -/
set_option maxRecDepth 100000
namespace Go.Ab
open Go Go.RowKit Go.Proofs
theorem b68 (k : Int) (i n c : Nat) (ms : List Value) (f : Nat → Mv) (R : Nat → AExit → Hx → Prop)  : (vx.code none (.l p68) (leafK [T68, R68] R) (T68.inst ⟨⟨[I k, I i], [(n, c)]⟩, [ms]⟩) ([(0, .split ((1, .val (.pointer (.some ⟨((0 : Nat)), ((0 : Nat) + i * (4 : Nat)), .none⟩))) :: (0, .val (.agg ⟨[(.int IntKind.i64 ((f i).at_)), (.int IntKind.i64 ((f i).place)), (.int IntKind.i64 ((f i).lo)), (.int IntKind.i64 ((f i).hi))]⟩)) :: [(12, .split ([(3, .split ([(9, .split ([(3, .split ([(11, .split ([(3, .split ([(6, .split ([(8, Hint.tm (0 : Nat) [])]) ([(7, Hint.tm (1 : Nat) [])]))]) ([(9, Hint.tm (1 : Nat) [])]))]) ([(10, Hint.tm (1 : Nat) [])]))]) ([(9, Hint.tm (1 : Nat) [])]))]) ([(10, Hint.tm (1 : Nat) [])]))]) ([(10, Hint.tm (1 : Nat) [])]))]) ([(11, Hint.tm (1 : Nat) [])]))]) ([(1, Hint.tm (0 : Nat) [])]))])) =
((((decide ((↑i : Int) < k)) = true → ((((((0 : Int) ≤ (↑i : Int))) ∧ (((↑i : Int) < (↑n : Int)))) ∧ (((.pointer (.some ⟨((0 : Nat)), ((0 : Nat) + i * (4 : Nat)), .none⟩)) : Value) = (.pointer (.some ⟨((0 : Nat)), ((0 : Nat) + i * (4 : Nat)), .none⟩)))) ∧
(((((0 : Nat) + i * (4 : Nat) + (4 : Nat) ≤ ms.length)) ∧ (((.agg ⟨[(.int IntKind.i64 ((f i).at_)), (.int IntKind.i64 ((f i).place)), (.int IntKind.i64 ((f i).lo)), (.int IntKind.i64 ((f i).hi))]⟩) : Value) = (.agg ⟨(List.take ((4 : Nat)) (List.drop ((0 : Nat) + i * (4 : Nat)) (ms)))⟩))) ∧
(((decide ((0 : Int) ≤ (f i).at_)) = true → (((decide ((f i).at_ ≤ (200 : Int))) = true → (((decide ((0 : Int) ≤ (f i).place)) = true → (((decide ((f i).place ≤ (30 : Int))) = true → (((decide ((f i).lo ≥ (1 : Int))) = true → (((decide ((f i).hi ≤ (20 : Int))) = true → (((decide ((f i).lo ≤ (f i).hi)) = true → R ((0 : Nat)) .normal ⟨⟨[(.int IntKind.i64 (k)), (.int IntKind.i64 (IntKind.i64.wrap ((↑i : Int) + (1 : Int))))], [⟨(n), (c)⟩]⟩, [(ms)]⟩) ∧
((decide ((f i).lo ≤ (f i).hi)) = false → R ((1 : Nat)) .ret ⟨⟨[(.bool false)], []⟩, []⟩))) ∧
((decide ((f i).hi ≤ (20 : Int))) = false → R ((1 : Nat)) .ret ⟨⟨[(.bool false)], []⟩, []⟩))) ∧
((decide ((f i).lo ≥ (1 : Int))) = false → R ((1 : Nat)) .ret ⟨⟨[(.bool false)], []⟩, []⟩))) ∧
((decide ((f i).place ≤ (30 : Int))) = false → R ((1 : Nat)) .ret ⟨⟨[(.bool false)], []⟩, []⟩))) ∧
((decide ((0 : Int) ≤ (f i).place)) = false → R ((1 : Nat)) .ret ⟨⟨[(.bool false)], []⟩, []⟩))) ∧
((decide ((f i).at_ ≤ (200 : Int))) = false → R ((1 : Nat)) .ret ⟨⟨[(.bool false)], []⟩, []⟩))) ∧
((decide ((0 : Int) ≤ (f i).at_)) = false → R ((1 : Nat)) .ret ⟨⟨[(.bool false)], []⟩, []⟩))))) ∧
((decide ((↑i : Int) < k)) = false → R ((0 : Nat)) (.exit ((0 : Nat))) ⟨⟨[(.int IntKind.i64 (k)), (.int IntKind.i64 ((↑i : Int)))], [⟨(n), (c)⟩]⟩, [(ms)]⟩))) := by kernel_rfl

theorem f68t (p : Int) (n c : Nat) (ms : List Value) (R : ARes → Prop)  : (vx.call 68 [hV p n c] (retK R) (m1 ms) ([(9, .split ([(3, .split ([(7, .split ([]) ((6, Hint.loopT T68 (AExit.exit (0 : Nat)) T68 fun x =>   { hs := { vs := [I (↑n : Int), I (↑n : Int)], ns := [(n, c)] }, ls := [ms] }) :: []))]) ([]))]) ([]))])) =
((((decide ((0 : Int) ≤ p)) = true → (((decide (p ≤ (3 : Int))) = true → (((decide ((↑n : Int) > (7 : Int))) = true → R (.ret (.bool false))) ∧
((decide ((↑n : Int) > (7 : Int))) = false → ((Atoms [(ms)]) ∧ (LoopOK Try.prog .none p68 T68 ⟨⟨[(.int IntKind.i64 ((↑n : Int))), (.int IntKind.i64 ((0 : Int)))], [⟨(n), (c)⟩]⟩, [(ms)]⟩ (.exit ((0 : Nat))) T68 ⟨⟨[(.int IntKind.i64 ((↑n : Int))), (.int IntKind.i64 ((↑n : Int)))], [⟨(n), (c)⟩]⟩, [(ms)]⟩) ∧ 
R (.ret (.bool true)))))) ∧
((decide (p ≤ (3 : Int))) = false → R (.ret (.bool false))))) ∧
((decide ((0 : Int) ≤ p)) = false → R (.ret (.bool false))))) := by kernel_rfl

theorem f68f (p : Int) (n c : Nat) (ms : List Value) (R : ARes → Prop)  : (vx.call 68 [hV p n c] (retK R) (m1 ms) ([(9, .split ([(3, .split ([(7, .split ([]) ((6, Hint.loopT T68 AExit.ret R68 fun x => { hs := { vs := [Value.bool false], ns := [] }, ls := [] }) :: []))]) ([]))]) ([]))])) =
((((decide ((0 : Int) ≤ p)) = true → (((decide (p ≤ (3 : Int))) = true → (((decide ((↑n : Int) > (7 : Int))) = true → R (.ret (.bool false))) ∧
((decide ((↑n : Int) > (7 : Int))) = false → ((Atoms [(ms)]) ∧ (LoopOK Try.prog .none p68 T68 ⟨⟨[(.int IntKind.i64 ((↑n : Int))), (.int IntKind.i64 ((0 : Int)))], [⟨(n), (c)⟩]⟩, [(ms)]⟩ .ret R68 ⟨⟨[(.bool false)], []⟩, []⟩) ∧ 
R (.ret (.bool false)))))) ∧
((decide (p ≤ (3 : Int))) = false → R (.ret (.bool false))))) ∧
((decide ((0 : Int) ≤ p)) = false → R (.ret (.bool false))))) := by kernel_rfl

theorem b39 (k : Int) (i n c : Nat) (ms : List Value) (f : Nat → Int) (R : Nat → AExit → Hx → Prop)  : (vx.code none (.l p39) (leafK [T39, R39] R) (T39.inst ⟨⟨[I k, I i], [(n, c)]⟩, [ms]⟩) ([(0, .split ((1, .val (.pointer (.some ⟨((1 : Nat)), ((0 : Nat) + i * (1 : Nat)), .none⟩))) :: (0, .val (.int IntKind.i64 (f i))) :: [(6, .split ([(3, .split ([(6, Hint.tm (0 : Nat) [])]) ([(5, Hint.tm (1 : Nat) [])]))]) ([(6, Hint.tm (1 : Nat) [])]))]) ([(1, Hint.tm (0 : Nat) [])]))])) =
((((decide ((↑i : Int) < k)) = true → ((((((0 : Int) ≤ (↑i : Int))) ∧ (((↑i : Int) < (↑n : Int)))) ∧ (((.pointer (.some ⟨((1 : Nat)), ((0 : Nat) + i * (1 : Nat)), .none⟩)) : Value) = (.pointer (.some ⟨((1 : Nat)), ((0 : Nat) + i * (1 : Nat)), .none⟩)))) ∧
(((ms[(0 : Nat) + i * (1 : Nat)]? = some (.int IntKind.i64 (f i)))) ∧
(((decide ((0 : Int) ≤ f i)) = true → (((decide (f i ≤ (6 : Int))) = true → R ((0 : Nat)) .normal ⟨⟨[(.int IntKind.i64 (k)), (.int IntKind.i64 (IntKind.i64.wrap ((↑i : Int) + (1 : Int))))], [⟨(n), (c)⟩]⟩, [(ms)]⟩) ∧
((decide (f i ≤ (6 : Int))) = false → R ((1 : Nat)) .ret ⟨⟨[(.bool false)], []⟩, []⟩))) ∧
((decide ((0 : Int) ≤ f i)) = false → R ((1 : Nat)) .ret ⟨⟨[(.bool false)], []⟩, []⟩))))) ∧
((decide ((↑i : Int) < k)) = false → R ((0 : Nat)) (.exit ((0 : Nat))) ⟨⟨[(.int IntKind.i64 (k)), (.int IntKind.i64 ((↑i : Int)))], [⟨(n), (c)⟩]⟩, [(ms)]⟩))) := by kernel_rfl

theorem f39t (p : Int) (n c k d : Nat) (ms ps : List Value) (R : ARes → Prop)  : (vx.call 39 [hV p n c, slV 1 k d] (retK R) (m2 ms ps) ([(8, .split ([]) ((4, Hint.loopT T39 (AExit.exit (0 : Nat)) T39 fun x =>   { hs := { vs := [I (↑k : Int), I (↑k : Int)], ns := [(k, d)] }, ls := [ps] }) :: []))])) =
(((((↑k : Int) != (↑n : Int)) = true → R (.ret (.bool false))) ∧
(((↑k : Int) != (↑n : Int)) = false → ((Atoms [(ps)]) ∧ (LoopOK Try.prog .none p39 T39 ⟨⟨[(.int IntKind.i64 ((↑k : Int))), (.int IntKind.i64 ((0 : Int)))], [⟨(k), (d)⟩]⟩, [(ps)]⟩ (.exit ((0 : Nat))) T39 ⟨⟨[(.int IntKind.i64 ((↑k : Int))), (.int IntKind.i64 ((↑k : Int)))], [⟨(k), (d)⟩]⟩, [(ps)]⟩) ∧ 
R (.ret (.bool true)))))) := by kernel_rfl

theorem f39f (p : Int) (n c k d : Nat) (ms ps : List Value) (R : ARes → Prop)  : (vx.call 39 [hV p n c, slV 1 k d] (retK R) (m2 ms ps) ([(8, .split ([]) ((4, Hint.loopT T39 AExit.ret R39 fun x => { hs := { vs := [Value.bool false], ns := [] }, ls := [] }) :: []))])) =
(((((↑k : Int) != (↑n : Int)) = true → R (.ret (.bool false))) ∧
(((↑k : Int) != (↑n : Int)) = false → ((Atoms [(ps)]) ∧ (LoopOK Try.prog .none p39 T39 ⟨⟨[(.int IntKind.i64 ((↑k : Int))), (.int IntKind.i64 ((0 : Int)))], [⟨(k), (d)⟩]⟩, [(ps)]⟩ .ret R39 ⟨⟨[(.bool false)], []⟩, []⟩) ∧ 
R (.ret (.bool false)))))) := by kernel_rfl

theorem b49a (k : Int) (i n c : Nat) (ms : List Value) (f : Nat → Mv) (R : Nat → AExit → Hx → Prop)  : (vx.code none (.l p49) (leafK [T49a, T49b] R) (T49a.inst ⟨⟨[I k, I i], [(n, c)]⟩, [ms]⟩) ([(0, .split ((2, .val (.pointer (.some ⟨((0 : Nat)), ((0 : Nat) + i * (4 : Nat)), .none⟩))) :: (0, .val (.agg ⟨[(.int IntKind.i64 ((f i).at_)), (.int IntKind.i64 ((f i).place)), (.int IntKind.i64 ((f i).lo)), (.int IntKind.i64 ((f i).hi))]⟩)) :: [(12, Hint.tm (1 : Nat) [((2 : Nat), (4 : Nat))])]) ([(1, Hint.tm (0 : Nat) [])]))])) =
((((decide ((↑i : Int) < k)) = true → ((((((0 : Int) ≤ (↑i : Int))) ∧ (((↑i : Int) < (↑n : Int)))) ∧ (((.pointer (.some ⟨((0 : Nat)), ((0 : Nat) + i * (4 : Nat)), .none⟩)) : Value) = (.pointer (.some ⟨((0 : Nat)), ((0 : Nat) + i * (4 : Nat)), .none⟩)))) ∧
(((((0 : Nat) + i * (4 : Nat) + (4 : Nat) ≤ ms.length)) ∧ (((.agg ⟨[(.int IntKind.i64 ((f i).at_)), (.int IntKind.i64 ((f i).place)), (.int IntKind.i64 ((f i).lo)), (.int IntKind.i64 ((f i).hi))]⟩) : Value) = (.agg ⟨(List.take ((4 : Nat)) (List.drop ((0 : Nat) + i * (4 : Nat)) (ms)))⟩))) ∧
R ((1 : Nat)) .normal ⟨⟨[(.int IntKind.i64 (k)), (.int IntKind.i64 (IntKind.i64.wrap ((↑i : Int) + (1 : Int))))], [⟨((1 : Nat)), ((1 : Nat))⟩, ⟨(n), (c)⟩]⟩, [(ms), [(.int IntKind.i64 ((f i).at_)), (.int IntKind.i64 ((f i).place)), (.int IntKind.i64 ((f i).lo)), (.int IntKind.i64 ((f i).hi)), (.int IntKind.i64 ((↑i : Int)))]]⟩))) ∧
((decide ((↑i : Int) < k)) = false → R ((0 : Nat)) (.exit ((0 : Nat))) ⟨⟨[(.int IntKind.i64 (k)), (.int IntKind.i64 ((↑i : Int)))], [⟨(n), (c)⟩]⟩, [(ms)]⟩))) := by kernel_rfl

theorem b49b (k : Int) (i n c j : Nat) (ms ls : List Value) (f : Nat → Mv) (R : Nat → AExit → Hx → Prop)  : (vx.code none (.l p49) (leafK [T49a, T49b] R) (T49b.inst ⟨⟨[I k, I i], [(j, j), (n, c)]⟩, [ms, ls]⟩) ([(0, .split ((2, .val (.pointer (.some ⟨((0 : Nat)), ((0 : Nat) + i * (4 : Nat)), .none⟩))) :: (0, .val (.agg ⟨[(.int IntKind.i64 ((f i).at_)), (.int IntKind.i64 ((f i).place)), (.int IntKind.i64 ((f i).lo)), (.int IntKind.i64 ((f i).hi))]⟩)) :: (8, Hint.grow) :: [(3, Hint.tm (1 : Nat) [((2 : Nat), (5 : Nat))])]) ([(1, Hint.tm (1 : Nat) [((2 : Nat), (2 : Nat))])]))])) =
((((decide ((↑i : Int) < k)) = true → ((((((0 : Int) ≤ (↑i : Int))) ∧ (((↑i : Int) < (↑n : Int)))) ∧ (((.pointer (.some ⟨((0 : Nat)), ((0 : Nat) + i * (4 : Nat)), .none⟩)) : Value) = (.pointer (.some ⟨((0 : Nat)), ((0 : Nat) + i * (4 : Nat)), .none⟩)))) ∧
(((((0 : Nat) + i * (4 : Nat) + (4 : Nat) ≤ ms.length)) ∧ (((.agg ⟨[(.int IntKind.i64 ((f i).at_)), (.int IntKind.i64 ((f i).place)), (.int IntKind.i64 ((f i).lo)), (.int IntKind.i64 ((f i).hi))]⟩) : Value) = (.agg ⟨(List.take ((4 : Nat)) (List.drop ((0 : Nat) + i * (4 : Nat)) (ms)))⟩))) ∧
((((¬j + (1 : Nat) ≤ j)) ∧ (((j * (5 : Nat) = ls.length)) ∧ ((((j + (1 : Nat)) * (40 : Nat) ≤ (140737488355328 : Nat))) ∧ ((j + (1 : Nat) ≤ (4611686018427387904 : Nat)))))) ∧ 
R ((1 : Nat)) .normal ⟨⟨[(.int IntKind.i64 (k)), (.int IntKind.i64 (IntKind.i64.wrap ((↑i : Int) + (1 : Int))))], [⟨(j + (1 : Nat)), (j + (1 : Nat))⟩, ⟨(n), (c)⟩]⟩, [(ms), ((List.take (j * (5 : Nat)) (ls)) ++ [(.int IntKind.i64 ((f i).at_)), (.int IntKind.i64 ((f i).place)), (.int IntKind.i64 ((f i).lo)), (.int IntKind.i64 ((f i).hi)), (.int IntKind.i64 ((↑i : Int)))])]⟩)))) ∧
((decide ((↑i : Int) < k)) = false → R ((1 : Nat)) (.exit ((0 : Nat))) ⟨⟨[(.int IntKind.i64 (k)), (.int IntKind.i64 ((↑i : Int)))], [⟨(j), (j)⟩, ⟨(n), (c)⟩]⟩, [(ms), (ls)]⟩))) := by kernel_rfl

theorem f49 (p : Int) (n c : Nat) (ms js : List Value) (R : Hx → Prop)  : (vx.call 49 [hV p n c] (retN (rowT 1 97) R) (m1 ms) ((9, Hint.loopT T49a (AExit.exit (0 : Nat)) T49b fun x =>   { hs := { vs := [I (↑n : Int), I (↑n : Int)], ns := [(n, n), (n, c)] }, ls := [ms, js] }) :: [(2, Hint.tm (0 : Nat) [((1 : Nat), (2 : Nat))])])) =
(((Atoms [(ms)]) ∧ (LoopOK Try.prog .none p49 T49a ⟨⟨[(.int IntKind.i64 ((↑n : Int))), (.int IntKind.i64 ((0 : Int)))], [⟨(n), (c)⟩]⟩, [(ms)]⟩ (.exit ((0 : Nat))) T49b ⟨⟨[(.int IntKind.i64 ((↑n : Int))), (.int IntKind.i64 ((↑n : Int)))], [⟨(n), (n)⟩, ⟨(n), (c)⟩]⟩, [(ms), (js)]⟩) ∧ 
R ⟨⟨[], [⟨(n), (n)⟩]⟩, [(js)]⟩)) := by kernel_rfl

theorem f49z (p : Int) (c : Nat) (ms : List Value) (R : ARes → Prop)  : (vx.call 49 [hV p 0 c] (retK R) (m1 ms) ([])) =
(R (.ret (.slice .none ((0 : Nat)) ((0 : Nat))))) := by kernel_rfl

/-! ### valid -/
noncomputable def st68 (n c : Nat) (f : Nat → Mv) (i : Nat) : Hx := ⟨⟨[I n, I i], [(n, c)]⟩, [mvs n f]⟩
noncomputable def out68 (n c : Nat) (f : Nat → Mv) (i : Nat) : AExit × Nat × Hx := if allFrom (fun i => okMv (f i)) (n - i) i then (.exit 0, 0, st68 n c f n) else (.ret, 1, ⟨⟨[.bool false], []⟩, []⟩)
theorem round68 {i n c : Nat} {f : Nat → Mv} {R : Nat → AExit → Hx → Prop} (hn : n ≤ 1000000) (h1 : i < n → okMv (f i) = true → R 0 .normal (st68 n c f (i + 1))) (h2 : i < n → okMv (f i) = false → R 1 .ret ⟨⟨[.bool false], []⟩, []⟩)
    (h3 : ¬ i < n → R 0 (.exit 0) (st68 n c f i)) : ∃ hs, vx.code none (.l p68) (leafK [T68, R68] R) (T68.inst (st68 n c f i)) hs := by
  refine ⟨_, (b68 n i n c (mvs n f) f R).mpr ⟨fun h => ?_, fun h => ?_⟩⟩
  · have hi : i < n := by simpa using h
    have hw : IntKind.i64.wrap ((i : Int) + 1) = ((i + 1 : Nat) : Int) := wrapI (by omega) (by omega)
    have h1 := h1 hi
    have h2 := h2 hi
    refine ⟨⟨⟨by omega, by omega⟩, rfl⟩, ⟨by rw [mvs_len]; have := flatC_bound (k := 4) hi; omega, by rw [mvs_part f hi]; rfl⟩, ?_⟩
    rw [hw]
    simp only [okMv] at h1 h2
    repeat' (first | with_reducible apply And.intro | with_reducible intro)
    all_goals first | (refine h2 ?_; simp_all; done) | (refine h1 ?_; simp_all; done) | (refine h2 ?_; simp_all; omega) | (refine h1 ?_; simp_all; omega)
  · exact h3 (by simpa using h)
theorem loop68 (n c : Nat) (f : Nat → Mv) (hn : n ≤ 1000000) : LoopOK Try.prog none p68 T68 (st68 n c f 0) (out68 n c f 0).1 (if allFrom (fun i => okMv (f i)) n 0 then T68 else R68) (out68 n c f 0).2.2 := by
  refine loop_vc (Ts := [T68, R68]) (k := 2) (X := Nat) (inv := fun i => i ≤ n) (μ := fun i => n - i) (st := fun i => (0, st68 n c f i)) (out := out68 n c f) rfl vx_sound (by decide) (by rw [nglob]; omega) (fun i hi => ?_) (Nat.zero_le n) rfl (by decide) (by decide) ?_
  · have step : i < n → out68 n c f i = if okMv (f i) then out68 n c f (i + 1) else (.ret, 1, ⟨⟨[.bool false], []⟩, []⟩) := fun h => by
      have e : n - i = (n - (i + 1)) + 1 := by omega
      simp only [out68, e, allFrom]
      cases okMv (f i) <;> simp
    obtain ⟨hs, hr⟩ := round68 (c := c) (R := RoundR (fun i => i ≤ n) (fun i => n - i) (fun i => (0, st68 n c f i)) (out68 n c f) i) hn
      (fun h ho => ⟨⟨mvs_atoms n f, trivial⟩, .inl ⟨rfl, i + 1, by omega, by show n - (i + 1) < n - i; omega, rfl, by rw [step h, if_pos ho]⟩⟩)
      (fun h ho => ⟨⟨fun _ h => (by cases h), trivial⟩, .inr ⟨by simp, by rw [step h, ho]; rfl⟩⟩)
      (fun h => ⟨⟨mvs_atoms n f, trivial⟩, .inr ⟨by simp, by
        have e : i = n := by omega
        subst e
        simp [out68, allFrom]⟩⟩)
    exact ⟨T68, hs, rfl, hr⟩
  · simp only [out68, Nat.sub_zero]
    split <;> rfl
noncomputable def C68 (p : Int) (n c : Nat) (f : Nat → Mv) : Con := C21 p n c f
theorem C68_ok (p : Int) (n c : Nat) (f : Nat → Mv) (hn : n ≤ 1000000) : ConOK Try.prog 68 (C68 p n c f) := by
  refine con_of vx_sound _ (fun x hx => ?_) rfl (fun _ _ => rfl) (fun x hx => by cases hx; exact mvs_atoms n f) rfl (Nat.le_of_ble_eq_true rfl) (by rw [nglob]; exact Nat.zero_le _)
  cases hx
  have hl := loop68 n c f hn
  simp only [out68, Nat.sub_zero] at hl
  have hres : ∀ b, okH p n f = b → (ARes.ret (.bool b) = ((C68 p n c f).res ⟨⟨[I p], [(n, c)]⟩, [mvs n f]⟩)) := fun b hb => by subst hb; rfl
  cases hb : allFrom (fun i => okMv (f i)) n 0 with
  | true =>
    simp only [hb, if_true] at hl
    refine ⟨_, (f68t p n c (mvs n f) _).mpr ?_⟩
    generalize ((C68 p n c f).res ⟨⟨[I p], [(n, c)]⟩, [mvs n f]⟩) = z at hres
    simp only [okH, hb] at hres
    repeat' (first | with_reducible apply And.intro | with_reducible intro)
    all_goals first | exact mvs_atoms n f | exact hl | (refine hres _ ?_; simp [*]; done)
  | false =>
    simp only [hb, Bool.false_eq_true, if_false] at hl
    refine ⟨_, (f68f p n c (mvs n f) _).mpr ?_⟩
    generalize ((C68 p n c f).res ⟨⟨[I p], [(n, c)]⟩, [mvs n f]⟩) = z at hres
    simp only [okH, hb] at hres
    repeat' (first | with_reducible apply And.intro | with_reducible intro)
    all_goals first | exact mvs_atoms n f | exact hl | (refine hres _ ?_; simp [*]; done)
/-! ### isPlan -/
noncomputable def ints (n : Nat) (g : Nat → Int) : List Value := flatC n fun i => [I (g i)]
theorem ints_atoms (n : Nat) (g : Nat → Int) : Atoms [ints n g] := by
  intro cs hcs
  simp only [List.mem_singleton] at hcs
  subst hcs
  refine flatC_atomic fun i _ v hv => ?_
  simp only [List.mem_cons, List.not_mem_nil, or_false] at hv
  rcases hv with rfl; rfl
theorem ints_get {n i : Nat} (g : Nat → Int) (h : i < n) : (ints n g)[0 + i * 1]? = some (I (g i)) := by
  rw [Nat.zero_add]
  have := flatC_get (n := n) (k := 1) (g := fun i => [I (g i)]) (fun i _ => rfl) h (j := 0) (by omega)
  simp only [ints]
  simpa using this
/-- A horse's number. -/
def okN (x : Int) : Bool := decide (0 ≤ x) && decide (x ≤ 6)
noncomputable def st39 (n c : Nat) (g : Nat → Int) (i : Nat) : Hx := ⟨⟨[I n, I i], [(n, c)]⟩, [ints n g]⟩
noncomputable def out39 (n c : Nat) (g : Nat → Int) (i : Nat) : AExit × Nat × Hx := if allFrom (fun i => okN (g i)) (n - i) i then (.exit 0, 0, st39 n c g n) else (.ret, 1, ⟨⟨[.bool false], []⟩, []⟩)
theorem loop39 (n c : Nat) (g : Nat → Int) (hn : n ≤ 1000000) : LoopOK Try.prog none p39 T39 (st39 n c g 0) (out39 n c g 0).1 (if allFrom (fun i => okN (g i)) n 0 then T39 else R39) (out39 n c g 0).2.2 := by
  refine loop_vc (Ts := [T39, R39]) (k := 3) (X := Nat) (inv := fun i => i ≤ n) (μ := fun i => n - i) (st := fun i => (0, st39 n c g i)) (out := out39 n c g) rfl vx_sound (by decide) (by rw [nglob]; omega) (fun i hi => ?_) (Nat.zero_le n) rfl (by decide) (by decide) ?_
  · have step : i < n → out39 n c g i = if okN (g i) then out39 n c g (i + 1) else (.ret, 1, ⟨⟨[.bool false], []⟩, []⟩) := fun h => by
      have e : n - i = (n - (i + 1)) + 1 := by omega
      simp only [out39, e, allFrom]
      cases okN (g i) <;> simp
    have key : ∀ R : Nat → AExit → Hx → Prop, (i < n → okN (g i) = true → R 0 .normal (st39 n c g (i + 1))) → (i < n → okN (g i) = false → R 1 .ret ⟨⟨[.bool false], []⟩, []⟩) → (¬ i < n → R 0 (.exit 0) (st39 n c g i)) → ∃ hs, vx.code none (.l p39) (leafK [T39, R39] R) (T39.inst (st39 n c g i)) hs := by
      intro R h1 h2 h3
      refine ⟨_, (b39 n i n c (ints n g) g R).mpr ⟨fun h => ?_, fun h => h3 (by simpa using h)⟩⟩
      have hi : i < n := by simpa using h
      have hw : IntKind.i64.wrap ((i : Int) + 1) = ((i + 1 : Nat) : Int) := wrapI (by omega) (by omega)
      have h1 := h1 hi
      have h2 := h2 hi
      refine ⟨⟨⟨by omega, by omega⟩, rfl⟩, ints_get g hi, ?_⟩
      rw [hw]
      simp only [okN] at h1 h2
      repeat' (first | with_reducible apply And.intro | with_reducible intro)
      all_goals first | (refine h2 ?_; simp [*]; done) | (refine h1 ?_; simp [*]; done)
    obtain ⟨hs, hr⟩ := key (RoundR (fun i => i ≤ n) (fun i => n - i) (fun i => (0, st39 n c g i)) (out39 n c g) i)
      (fun h ho => ⟨⟨ints_atoms n g, trivial⟩, .inl ⟨rfl, i + 1, by omega, by show n - (i + 1) < n - i; omega, rfl, by rw [step h, if_pos ho]⟩⟩)
      (fun h ho => ⟨⟨fun _ h => (by cases h), trivial⟩, .inr ⟨by simp, by rw [step h, ho]; rfl⟩⟩)
      (fun h => ⟨⟨ints_atoms n g, trivial⟩, .inr ⟨by simp, by
        have e : i = n := by omega
        subst e
        simp [out39, allFrom]⟩⟩)
    exact ⟨T39, hs, rfl, hr⟩
  · simp only [out39, Nat.sub_zero]
    split <;> rfl
/-- Is a list a plan? -/
def okP (n k : Nat) (g : Nat → Int) : Bool := !((k : Int) != (n : Int)) && allFrom (fun i => okN (g i)) k 0
noncomputable def C39 (p : Int) (n c : Nat) (f : Nat → Mv) (k d : Nat) (g : Nat → Int) : Con where
  A := .agg (.hole (.slice 0 0 .nil)) (.slice 1 0 .nil)
  bs := [.list 1 .ro, .list 3 .ro]
  pre x := x = ⟨⟨[I p], [(n, c), (k, d)]⟩, [mvs n f, ints k g]⟩
  res _ := .ret (.bool (okP n k g))
theorem C39_ok (p : Int) (n c : Nat) (f : Nat → Mv) (k d : Nat) (g : Nat → Int) (hn : n ≤ 1000000) (hk : k ≤ 1000000) : ConOK Try.prog 39 (C39 p n c f k d g) := by
  refine con_of vx_sound _ (fun x hx => ?_) rfl (fun _ _ => rfl) (fun x hx => ?_) rfl (Nat.le_of_ble_eq_true rfl) (by rw [nglob]; exact Nat.zero_le _)
  · cases hx
    have hl := loop39 k d g hk
    simp only [out39, Nat.sub_zero] at hl
    have hres : ∀ b, okP n k g = b → (ARes.ret (.bool b) = ((C39 p n c f k d g).res ⟨⟨[I p], [(n, c), (k, d)]⟩, [mvs n f, ints k g]⟩)) := fun b hb => by subst hb; rfl
    cases hb : allFrom (fun i => okN (g i)) k 0 with
    | true =>
      simp only [hb, if_true] at hl
      refine ⟨_, (f39t p n c k d (mvs n f) (ints k g) _).mpr ?_⟩
      generalize ((C39 p n c f k d g).res ⟨⟨[I p], [(n, c), (k, d)]⟩, [mvs n f, ints k g]⟩) = z at hres
      simp only [okP, hb] at hres
      repeat' (first | with_reducible apply And.intro | with_reducible intro)
      all_goals first | exact ints_atoms k g | exact hl | (refine hres _ ?_; simp [*]; done)
    | false =>
      simp only [hb, Bool.false_eq_true, if_false] at hl
      refine ⟨_, (f39f p n c k d (mvs n f) (ints k g) _).mpr ?_⟩
      generalize ((C39 p n c f k d g).res ⟨⟨[I p], [(n, c), (k, d)]⟩, [mvs n f, ints k g]⟩) = z at hres
      simp only [okP, hb] at hres
      repeat' (first | with_reducible apply And.intro | with_reducible intro)
      all_goals first | exact ints_atoms k g | exact hl | (refine hres _ ?_; simp [*]; done)
  · cases hx
    intro cs hcs
    simp only [List.mem_cons, List.not_mem_nil, or_false] at hcs
    rcases hcs with rfl | rfl
    · exact mvs_atoms n f _ (by simp)
    · exact ints_atoms k g _ (by simp)
/-! ### jobs -/
noncomputable def jobV (f : Nat → Mv) (i : Nat) : List Value := [I (f i).at_, I (f i).place, I (f i).lo, I (f i).hi, I i]
noncomputable def jobsC (n : Nat) (f : Nat → Mv) : List Value := flatC n (jobV f)
theorem jobsC_len (n : Nat) (f : Nat → Mv) : (jobsC n f).length = n * 5 := flatC_len fun i _ => rfl
theorem jobsC_atoms (n : Nat) (f : Nat → Mv) : ∀ v ∈ jobsC n f, atomic v = true := by
  refine flatC_atomic fun i _ v hv => ?_
  simp only [jobV, List.mem_cons, List.not_mem_nil, or_false] at hv
  rcases hv with rfl | rfl | rfl | rfl | rfl <;> rfl
noncomputable def st49 (n c : Nat) (f : Nat → Mv) (i : Nat) : Nat × Hx := if i = 0 then (0, ⟨⟨[I n, I (0 : Nat)], [(n, c)]⟩, [mvs n f]⟩) else (1, ⟨⟨[I n, I i], [(i, i), (n, c)]⟩, [mvs n f, jobsC i f]⟩)
theorem loop49 (n c : Nat) (f : Nat → Mv) (h0 : 0 < n) (hn : n ≤ 1000000) : LoopOK Try.prog none p49 T49a ⟨⟨[I n, I (0 : Nat)], [(n, c)]⟩, [mvs n f]⟩ (.exit 0) T49b ⟨⟨[I n, I n], [(n, n), (n, c)]⟩, [mvs n f, jobsC n f]⟩ := by
  have hat : ∀ i, Atoms [mvs n f, jobsC i f] := fun i cs hcs => by
    simp only [List.mem_cons, List.not_mem_nil, or_false] at hcs
    rcases hcs with rfl | rfl
    · exact mvs_atoms n f _ (by simp)
    · exact jobsC_atoms i f
  refine loop_vc (Ts := [T49a, T49b]) (k := 2) (X := Nat) (inv := fun i => i ≤ n) (μ := fun i => n - i) (st := st49 n c f) (out := fun _ => (.exit 0, 1, ⟨⟨[I n, I n], [(n, n), (n, c)]⟩, [mvs n f, jobsC n f]⟩)) rfl vx_sound (by simp [T49a, T49b]) (by rw [nglob]; omega) (fun i hi => ?_) (Nat.zero_le n) (x := 0) rfl (Nat.le_of_ble_eq_true rfl) (by decide) rfl
  have hw : i < n → IntKind.i64.wrap ((i : Int) + 1) = ((i + 1 : Nat) : Int) := fun _ => wrapI (by omega) (by omega)
  by_cases hz : i = 0
  · subst hz
    refine ⟨T49a, _, rfl, (b49a n 0 n c (mvs n f) f _).mpr ⟨fun h => ?_, fun h => ?_⟩⟩
    · refine ⟨⟨⟨by omega, by omega⟩, rfl⟩, ⟨by rw [mvs_len]; have := flatC_bound (k := 4) h0; omega, by rw [mvs_part f h0]; rfl⟩, ?_⟩
      rw [hw h0]
      exact ⟨⟨hat 1, trivial⟩, .inl ⟨rfl, 1, by omega, by show n - 1 < n - 0; omega, rfl, rfl⟩⟩
    · have : ¬ (0 : Nat) < n := by simpa using h
      omega
  · have hst : st49 n c f i = (1, ⟨⟨[I n, I i], [(i, i), (n, c)]⟩, [mvs n f, jobsC i f]⟩) := by simp only [st49, if_neg hz]
    rw [hst]
    refine ⟨T49b, _, rfl, (b49b n i n c i (mvs n f) (jobsC i f) f _).mpr ⟨fun h => ?_, fun h => ?_⟩⟩
    · have hi' : i < n := by simpa using h
      refine ⟨⟨⟨by omega, by omega⟩, rfl⟩, ⟨by rw [mvs_len]; have := flatC_bound (k := 4) hi'; omega, by rw [mvs_part f hi']; rfl⟩, ⟨by omega, by rw [jobsC_len], by omega, by omega⟩, ?_⟩
      rw [hw hi', ← jobsC_len i f, List.take_length]
      have e : jobsC (i + 1) f = jobsC i f ++ jobV f i := flatC_succ
      refine ⟨⟨by have h2 := hat (i + 1); rw [e] at h2; exact h2, trivial⟩, .inl ⟨rfl, i + 1, by omega, by show n - (i + 1) < n - i; omega, ?_, rfl⟩⟩
      simp only [st49, if_neg (show ¬ i + 1 = 0 by omega)]
      rw [e]
      rfl
    · have e : i = n := by have : ¬ i < n := by simpa using h
                           omega
      subst e
      exact ⟨⟨hat i, trivial⟩, .inr ⟨by simp, rfl⟩⟩
noncomputable def C49 (p : Int) (n c : Nat) (f : Nat → Mv) : ConN where
  A := .agg (.hole (.slice 0 0 .nil)) .nil
  bs := [.list 1 .ro]
  pre x := x = ⟨⟨[I p], [(n, c)]⟩, [mvs n f]⟩
  news _ := [(jobsC n f, 97)]
  one := true
  res _ := [.sl 0 n]
theorem C49_ok (p : Int) (n c : Nat) (f : Nat → Mv) (h0 : 0 < n) (hn : n ≤ 1000000) : ConNOK Try.prog 49 (C49 p n c f) := by
  refine conRow_of rfl vx_sound (C := C49 p n c f) (n := n) (cells := jobsC n f) (e := 97) ⟨⟨[I p], [(n, c)]⟩, [mvs n f]⟩ (fun x => Iff.rfl) rfl rfl rfl ⟨_, (f49 p n c (mvs n f) (jobsC n f) _).mpr ⟨mvs_atoms n f, loop49 n c f h0 hn, rfl⟩⟩ (mvs_atoms n f) (jobsC_atoms n f) rfl (Nat.le_of_ble_eq_true rfl) (by rw [nglob]; exact Nat.zero_le _)
end Go.Ab

/- FORMS OF STATES AT LOOPS' HEADS: order. -/
set_option maxRecDepth 100000
namespace Go.Ab
open Go Go.RowKit Go.Proofs
noncomputable def trI (sure : Bool) : Nat := cond sure 103 102
noncomputable def tr (sure : Bool) : Value := .iface (trI sure) (.agg ⟨[]⟩)
def p44o : Loc := .l (.r (.l (.r (.r (.r (.top 44))))))
def p44i : Loc := .l (.r (.r (.r (.l (.l (.r (.r (.l (.l (.r (.l (.r (.r (.r (.top 44)))))))))))))))
noncomputable def T44o (sure : Bool) : Tm := ⟨59, mkS 59 [(1, .iface (trI sure) (.agg .nil .nil) .nil), (2, .ptr 1 0 .nil), (4, .ptr 2 0 .nil), (5, .ptr 3 0 .nil), (6, .slice 4 0 .nil), (14, .slice 4 0 .nil), (15, .hole .nil), (16, .hole .nil)], 5, [.list 1 .ro, .cells (.hole (.slice 0 0 .nil)) 73 .var, .list 85 .var, .list 85 .var, .list 97 .row]⟩
noncomputable def T44i (sure : Bool) : Tm := ⟨59, mkS 59 [(1, .iface (trI sure) (.agg .nil .nil) .nil), (2, .ptr 1 0 .nil), (4, .ptr 2 0 .nil), (5, .ptr 3 0 .nil), (6, .slice 4 0 .nil), (8, .ptr 5 0 .nil), (9, .hole .nil), (14, .slice 4 0 .nil), (15, .hole .nil), (16, .hole .nil), (28, .slice 4 0 .nil), (29, .hole .nil), (30, .hole .nil)], 8, [.list 1 .ro, .cells (.hole (.slice 0 0 .nil)) 73 .var, .list 85 .var, .list 85 .var, .list 97 .row, .list 97 .var, .dead, .dead]⟩
end Go.Ab

/- package horse: which move can follow which one. -/
set_option maxRecDepth 100000
namespace Go.Ab
open Go Go.RowKit Go.Proofs
noncomputable def mj (a b : Int) : Mem := ⟨fillX [.cells [I a, I b] 25 .ro] 0 .nil, 1⟩
theorem f74 (a b : Int) (R : ARes → Prop)  : (vx.call 74 [slV 0 2 2] (retK R) (mj a b) ([])) =
(R (.ret (.int IntKind.i64 (bits BinOp.or IntKind.i64 (bits BinOp.or IntKind.i64 (0 : Int) a) b)))) := by kernel_rfl

def joinI (a b : Int) : Int := bits .or .i64 (bits .or .i64 0 a) b
noncomputable def C74 (a b : Int) : Con where
  A := .slice 0 0 .nil
  bs := [.list 25 .ro]
  pre x := x = ⟨⟨[], [(2, 2)]⟩, [[I a, I b]]⟩
  res _ := .ret (I (joinI a b))
theorem C74_ok (a b : Int) : ConOK Try.prog 74 (C74 a b) := by
  refine con_of vx_sound ⟨⟨[], [(2, 2)]⟩, [[I a, I b]]⟩ (fun x hx => ?_) rfl (fun _ _ => rfl) (fun x hx => ?_) rfl (Nat.le_of_ble_eq_true rfl) (by rw [nglob]; exact Nat.zero_le _)
  · cases hx
    exact ⟨_, (f74 a b _).mpr rfl⟩
  · cases hx
    intro cs hcs
    simp only [List.mem_singleton] at hcs
    subst hcs
    intro v hv
    simp only [List.mem_cons, List.not_mem_nil, or_false] at hv
    rcases hv with rfl | rfl <;> rfl
end Go.Ab

/- package horse: which move can follow which one. -/
set_option maxRecDepth 100000
namespace Go.Ab
open Go Go.RowKit Go.Proofs
theorem b44it (p done : Int) (i j n c d : Nat) (ms rs os js : List Value) (f : Nat → Mv) (o : Nat → Int) (R : Nat → AExit → Hx → Prop)  : (vx.code none (.l p44i) (leafK [T44i true] R) ((T44i true).inst ⟨⟨[I done, I n, I i, I n, I j, I p], [(n, d), (n, d), (n, d), (n, c)]⟩, [ms, rs, os, js, jobV f i]⟩) ([(0, .split ((1, .val (.pointer (.some ⟨((4 : Nat)), ((0 : Nat) + j * (5 : Nat)), .none⟩))) :: (0, .val (.agg ⟨[(.int IntKind.i64 ((f j).at_)), (.int IntKind.i64 ((f j).place)), (.int IntKind.i64 ((f j).lo)), (.int IntKind.i64 ((f j).hi)), (.int IntKind.i64 ((↑j : Int)))]⟩)) :: (34, Hint.again) :: [(1, .split ((5, .val (.pointer (.some ⟨((3 : Nat)), ((0 : Nat) + i * (1 : Nat)), .none⟩))) :: (0, .val (.int IntKind.i64 (o i))) :: (5, .val (.int IntKind.i64 (IntKind.i64.wrap ((1 : Int) * (2 : Int) ^ j)))) :: (1, Hint.again) :: (0, Hint.con (C74 (o i) (IntKind.i64.wrap ((1 : Int) * (2 : Int) ^ j)))) :: (0, Hint.again) :: (0, .val (.pointer (.some ⟨((3 : Nat)), ((0 : Nat) + i * (1 : Nat)), .none⟩))) :: (0, Hint.st) :: [(2, Hint.tm (0 : Nat) [])]) ([(3, Hint.tm (0 : Nat) [])]))]) ([(1, Hint.tm (0 : Nat) [])]))])) =
((((decide ((↑j : Int) < (↑n : Int))) = true → ((((((0 : Int) ≤ (↑j : Int))) ∧ (((↑j : Int) < (↑n : Int)))) ∧ (((.pointer (.some ⟨((4 : Nat)), ((0 : Nat) + j * (5 : Nat)), .none⟩)) : Value) = (.pointer (.some ⟨((4 : Nat)), ((0 : Nat) + j * (5 : Nat)), .none⟩)))) ∧
(((((0 : Nat) + j * (5 : Nat) + (5 : Nat) ≤ js.length)) ∧ (((.agg ⟨[(.int IntKind.i64 ((f j).at_)), (.int IntKind.i64 ((f j).place)), (.int IntKind.i64 ((f j).lo)), (.int IntKind.i64 ((f j).hi)), (.int IntKind.i64 ((↑j : Int)))]⟩) : Value) = (.agg ⟨(List.take ((5 : Nat)) (List.drop ((0 : Nat) + j * (5 : Nat)) (js)))⟩))) ∧
(((((some (.int IntKind.i64 ((f j).at_)) : Option Value) = some (.int IntKind.i64 ((f j).at_)))) ∧ (True)) ∧ 
(((decide   ((f j).at_ ≥     IntKind.i64.wrap       (done +         IntKind.i64.wrap           (p *             if IntKind.i64.wrap ((f j).place - (f i).place) > IntKind.i64.wrap ((f i).place - (f j).place) then               IntKind.i64.wrap ((f j).place - (f i).place)             else IntKind.i64.wrap ((f i).place - (f j).place))))) = true → ((((((0 : Int) ≤ (↑i : Int))) ∧ (((↑i : Int) < (↑(7 : Nat) : Int)))) ∧ (((.pointer (.some ⟨((3 : Nat)), ((0 : Nat) + i * (1 : Nat)), .none⟩)) : Value) = (.pointer (.some ⟨((3 : Nat)), ((0 : Nat) + i * (1 : Nat)), .none⟩)))) ∧
(((os[(0 : Nat) + i * (1 : Nat)]? = some (.int IntKind.i64 (o i)))) ∧
((((((0 : Int) ≤ (↑j : Int))) ∧ (((↑j : Int) ≤ (↑(64 : Nat) : Int)))) ∧ (((.int IntKind.i64 (IntKind.i64.wrap ((1 : Int) * (2 : Int) ^ j))) : Value) = (.int IntKind.i64 (IntKind.i64.wrap ((1 : Int) * (2 : Int) ^ j))))) ∧
((((os[(0 : Nat) + i * (1 : Nat)]? = some (.int IntKind.i64 (o i)))) ∧ ((((some (.int IntKind.i64 ((↑i : Int))) : Option Value) = some (.int IntKind.i64 ((↑i : Int))))) ∧ ((((some (.int IntKind.i64 ((↑i : Int))) : Option Value) = some (.int IntKind.i64 ((↑i : Int))))) ∧ (True)))) ∧ 
((ConOK Try.prog ((74 : Nat)) (C74 (o i) (IntKind.i64.wrap ((1 : Int) * (2 : Int) ^ j)))) ∧ (Con.pre (C74 (o i) (IntKind.i64.wrap ((1 : Int) * (2 : Int) ^ j))) ⟨⟨[], [⟨((2 : Nat)), ((2 : Nat))⟩]⟩, [[(.int IntKind.i64 (o i)), (.int IntKind.i64 (IntKind.i64.wrap ((1 : Int) * (2 : Int) ^ j)))]]⟩) ∧ 
(((((some (.int IntKind.i64 ((↑i : Int))) : Option Value) = some (.int IntKind.i64 ((↑i : Int))))) ∧ (True)) ∧ 
((((((0 : Int) ≤ (↑i : Int))) ∧ (((↑i : Int) < (↑(7 : Nat) : Int)))) ∧ (((.pointer (.some ⟨((3 : Nat)), ((0 : Nat) + i * (1 : Nat)), .none⟩)) : Value) = (.pointer (.some ⟨((3 : Nat)), ((0 : Nat) + i * (1 : Nat)), .none⟩)))) ∧
((((0 : Nat) + i * (1 : Nat) + (1 : Nat) ≤ os.length)) ∧ 
R ((0 : Nat)) .normal ⟨⟨[(.int IntKind.i64 (done)), (.int IntKind.i64 ((↑n : Int))), (.int IntKind.i64 ((↑i : Int))), (.int IntKind.i64 ((↑n : Int))), (.int IntKind.i64 (IntKind.i64.wrap ((↑j : Int) + (1 : Int)))), (.int IntKind.i64 (p))], [⟨(n), (d)⟩, ⟨(n), (d)⟩, ⟨(n), (d)⟩, ⟨(n), (c)⟩]⟩, [(ms), (rs), (((List.take ((0 : Nat) + i * (1 : Nat)) (os)) ++ [(.int IntKind.i64 (bits BinOp.or IntKind.i64 (bits BinOp.or IntKind.i64 (0 : Int) (o i)) (IntKind.i64.wrap ((1 : Int) * (2 : Int) ^ j))))]) ++ (List.drop ((0 : Nat) + i * (1 : Nat) + (1 : Nat)) (os))), (js), [(.int IntKind.i64 ((f i).at_)), (.int IntKind.i64 ((f i).place)), (.int IntKind.i64 ((f i).lo)), (.int IntKind.i64 ((f i).hi)), (.int IntKind.i64 ((↑i : Int)))]]⟩))))))))) ∧
((decide   ((f j).at_ ≥     IntKind.i64.wrap       (done +         IntKind.i64.wrap           (p *             if IntKind.i64.wrap ((f j).place - (f i).place) > IntKind.i64.wrap ((f i).place - (f j).place) then               IntKind.i64.wrap ((f j).place - (f i).place)             else IntKind.i64.wrap ((f i).place - (f j).place))))) = false → R ((0 : Nat)) .normal ⟨⟨[(.int IntKind.i64 (done)), (.int IntKind.i64 ((↑n : Int))), (.int IntKind.i64 ((↑i : Int))), (.int IntKind.i64 ((↑n : Int))), (.int IntKind.i64 (IntKind.i64.wrap ((↑j : Int) + (1 : Int)))), (.int IntKind.i64 (p))], [⟨(n), (d)⟩, ⟨(n), (d)⟩, ⟨(n), (d)⟩, ⟨(n), (c)⟩]⟩, [(ms), (rs), (os), (js), [(.int IntKind.i64 ((f i).at_)), (.int IntKind.i64 ((f i).place)), (.int IntKind.i64 ((f i).lo)), (.int IntKind.i64 ((f i).hi)), (.int IntKind.i64 ((↑i : Int)))]]⟩)))))) ∧
((decide ((↑j : Int) < (↑n : Int))) = false → R ((0 : Nat)) (.exit ((2 : Nat))) ⟨⟨[(.int IntKind.i64 (done)), (.int IntKind.i64 ((↑n : Int))), (.int IntKind.i64 ((↑i : Int))), (.int IntKind.i64 ((↑n : Int))), (.int IntKind.i64 ((↑j : Int))), (.int IntKind.i64 (p))], [⟨(n), (d)⟩, ⟨(n), (d)⟩, ⟨(n), (d)⟩, ⟨(n), (c)⟩]⟩, [(ms), (rs), (os), (js), [(.int IntKind.i64 ((f i).at_)), (.int IntKind.i64 ((f i).place)), (.int IntKind.i64 ((f i).lo)), (.int IntKind.i64 ((f i).hi)), (.int IntKind.i64 ((↑i : Int)))]]⟩))) := by kernel_rfl

theorem b44if (p done : Int) (i j n c d : Nat) (ms rs os js : List Value) (f : Nat → Mv) (o : Nat → Int) (R : Nat → AExit → Hx → Prop)  : (vx.code none (.l p44i) (leafK [T44i false] R) ((T44i false).inst ⟨⟨[I done, I n, I i, I n, I j, I p], [(n, d), (n, d), (n, d), (n, c)]⟩, [ms, rs, os, js, jobV f i]⟩) ([(0, .split ((1, .val (.pointer (.some ⟨((4 : Nat)), ((0 : Nat) + j * (5 : Nat)), .none⟩))) :: (0, .val (.agg ⟨[(.int IntKind.i64 ((f j).at_)), (.int IntKind.i64 ((f j).place)), (.int IntKind.i64 ((f j).lo)), (.int IntKind.i64 ((f j).hi)), (.int IntKind.i64 ((↑j : Int)))]⟩)) :: (34, Hint.again) :: [(1, .split ((5, .val (.pointer (.some ⟨((3 : Nat)), ((0 : Nat) + i * (1 : Nat)), .none⟩))) :: (0, .val (.int IntKind.i64 (o i))) :: (5, .val (.int IntKind.i64 (IntKind.i64.wrap ((1 : Int) * (2 : Int) ^ j)))) :: (1, Hint.again) :: (0, Hint.con (C74 (o i) (IntKind.i64.wrap ((1 : Int) * (2 : Int) ^ j)))) :: (0, Hint.again) :: (0, .val (.pointer (.some ⟨((3 : Nat)), ((0 : Nat) + i * (1 : Nat)), .none⟩))) :: (0, Hint.st) :: [(2, Hint.tm (0 : Nat) [])]) ([(3, Hint.tm (0 : Nat) [])]))]) ([(1, Hint.tm (0 : Nat) [])]))])) =
((((decide ((↑j : Int) < (↑n : Int))) = true → ((((((0 : Int) ≤ (↑j : Int))) ∧ (((↑j : Int) < (↑n : Int)))) ∧ (((.pointer (.some ⟨((4 : Nat)), ((0 : Nat) + j * (5 : Nat)), .none⟩)) : Value) = (.pointer (.some ⟨((4 : Nat)), ((0 : Nat) + j * (5 : Nat)), .none⟩)))) ∧
(((((0 : Nat) + j * (5 : Nat) + (5 : Nat) ≤ js.length)) ∧ (((.agg ⟨[(.int IntKind.i64 ((f j).at_)), (.int IntKind.i64 ((f j).place)), (.int IntKind.i64 ((f j).lo)), (.int IntKind.i64 ((f j).hi)), (.int IntKind.i64 ((↑j : Int)))]⟩) : Value) = (.agg ⟨(List.take ((5 : Nat)) (List.drop ((0 : Nat) + j * (5 : Nat)) (js)))⟩))) ∧
(((((some (.int IntKind.i64 ((f j).at_)) : Option Value) = some (.int IntKind.i64 ((f j).at_)))) ∧ (True)) ∧ 
(((decide   ((f j).at_ ≥     IntKind.i64.wrap       (done +         IntKind.i64.wrap           (p *             if IntKind.i64.wrap ((f j).place - (f i).place) > IntKind.i64.wrap ((f i).place - (f j).place) then               IntKind.i64.wrap ((f j).place - (f i).place)             else IntKind.i64.wrap ((f i).place - (f j).place))))) = true → ((((((0 : Int) ≤ (↑i : Int))) ∧ (((↑i : Int) < (↑(7 : Nat) : Int)))) ∧ (((.pointer (.some ⟨((3 : Nat)), ((0 : Nat) + i * (1 : Nat)), .none⟩)) : Value) = (.pointer (.some ⟨((3 : Nat)), ((0 : Nat) + i * (1 : Nat)), .none⟩)))) ∧
(((os[(0 : Nat) + i * (1 : Nat)]? = some (.int IntKind.i64 (o i)))) ∧
((((((0 : Int) ≤ (↑j : Int))) ∧ (((↑j : Int) ≤ (↑(64 : Nat) : Int)))) ∧ (((.int IntKind.i64 (IntKind.i64.wrap ((1 : Int) * (2 : Int) ^ j))) : Value) = (.int IntKind.i64 (IntKind.i64.wrap ((1 : Int) * (2 : Int) ^ j))))) ∧
((((os[(0 : Nat) + i * (1 : Nat)]? = some (.int IntKind.i64 (o i)))) ∧ ((((some (.int IntKind.i64 ((↑i : Int))) : Option Value) = some (.int IntKind.i64 ((↑i : Int))))) ∧ ((((some (.int IntKind.i64 ((↑i : Int))) : Option Value) = some (.int IntKind.i64 ((↑i : Int))))) ∧ (True)))) ∧ 
((ConOK Try.prog ((74 : Nat)) (C74 (o i) (IntKind.i64.wrap ((1 : Int) * (2 : Int) ^ j)))) ∧ (Con.pre (C74 (o i) (IntKind.i64.wrap ((1 : Int) * (2 : Int) ^ j))) ⟨⟨[], [⟨((2 : Nat)), ((2 : Nat))⟩]⟩, [[(.int IntKind.i64 (o i)), (.int IntKind.i64 (IntKind.i64.wrap ((1 : Int) * (2 : Int) ^ j)))]]⟩) ∧ 
(((((some (.int IntKind.i64 ((↑i : Int))) : Option Value) = some (.int IntKind.i64 ((↑i : Int))))) ∧ (True)) ∧ 
((((((0 : Int) ≤ (↑i : Int))) ∧ (((↑i : Int) < (↑(7 : Nat) : Int)))) ∧ (((.pointer (.some ⟨((3 : Nat)), ((0 : Nat) + i * (1 : Nat)), .none⟩)) : Value) = (.pointer (.some ⟨((3 : Nat)), ((0 : Nat) + i * (1 : Nat)), .none⟩)))) ∧
((((0 : Nat) + i * (1 : Nat) + (1 : Nat) ≤ os.length)) ∧ 
R ((0 : Nat)) .normal ⟨⟨[(.int IntKind.i64 (done)), (.int IntKind.i64 ((↑n : Int))), (.int IntKind.i64 ((↑i : Int))), (.int IntKind.i64 ((↑n : Int))), (.int IntKind.i64 (IntKind.i64.wrap ((↑j : Int) + (1 : Int)))), (.int IntKind.i64 (p))], [⟨(n), (d)⟩, ⟨(n), (d)⟩, ⟨(n), (d)⟩, ⟨(n), (c)⟩]⟩, [(ms), (rs), (((List.take ((0 : Nat) + i * (1 : Nat)) (os)) ++ [(.int IntKind.i64 (bits BinOp.or IntKind.i64 (bits BinOp.or IntKind.i64 (0 : Int) (o i)) (IntKind.i64.wrap ((1 : Int) * (2 : Int) ^ j))))]) ++ (List.drop ((0 : Nat) + i * (1 : Nat) + (1 : Nat)) (os))), (js), [(.int IntKind.i64 ((f i).at_)), (.int IntKind.i64 ((f i).place)), (.int IntKind.i64 ((f i).lo)), (.int IntKind.i64 ((f i).hi)), (.int IntKind.i64 ((↑i : Int)))]]⟩))))))))) ∧
((decide   ((f j).at_ ≥     IntKind.i64.wrap       (done +         IntKind.i64.wrap           (p *             if IntKind.i64.wrap ((f j).place - (f i).place) > IntKind.i64.wrap ((f i).place - (f j).place) then               IntKind.i64.wrap ((f j).place - (f i).place)             else IntKind.i64.wrap ((f i).place - (f j).place))))) = false → R ((0 : Nat)) .normal ⟨⟨[(.int IntKind.i64 (done)), (.int IntKind.i64 ((↑n : Int))), (.int IntKind.i64 ((↑i : Int))), (.int IntKind.i64 ((↑n : Int))), (.int IntKind.i64 (IntKind.i64.wrap ((↑j : Int) + (1 : Int)))), (.int IntKind.i64 (p))], [⟨(n), (d)⟩, ⟨(n), (d)⟩, ⟨(n), (d)⟩, ⟨(n), (c)⟩]⟩, [(ms), (rs), (os), (js), [(.int IntKind.i64 ((f i).at_)), (.int IntKind.i64 ((f i).place)), (.int IntKind.i64 ((f i).lo)), (.int IntKind.i64 ((f i).hi)), (.int IntKind.i64 ((↑i : Int)))]]⟩)))))) ∧
((decide ((↑j : Int) < (↑n : Int))) = false → R ((0 : Nat)) (.exit ((2 : Nat))) ⟨⟨[(.int IntKind.i64 (done)), (.int IntKind.i64 ((↑n : Int))), (.int IntKind.i64 ((↑i : Int))), (.int IntKind.i64 ((↑n : Int))), (.int IntKind.i64 ((↑j : Int))), (.int IntKind.i64 (p))], [⟨(n), (d)⟩, ⟨(n), (d)⟩, ⟨(n), (d)⟩, ⟨(n), (c)⟩]⟩, [(ms), (rs), (os), (js), [(.int IntKind.i64 ((f i).at_)), (.int IntKind.i64 ((f i).place)), (.int IntKind.i64 ((f i).lo)), (.int IntKind.i64 ((f i).hi)), (.int IntKind.i64 ((↑i : Int)))]]⟩))) := by kernel_rfl

theorem b44ot (p done : Int) (i n c d : Nat) (ms rs os os2 js : List Value) (f : Nat → Mv) (R : Nat → AExit → Hx → Prop)  : (vx.code none (.l p44o) (leafK [T44o true] R) ((T44o true).inst ⟨⟨[I n, I i, I p], [(n, d), (n, d), (n, c)]⟩, [ms, rs, os, js]⟩) ([(0, .split ((1, .val (.pointer (.some ⟨((4 : Nat)), ((0 : Nat) + i * (5 : Nat)), .none⟩))) :: (0, .val (.agg ⟨[(.int IntKind.i64 ((f i).at_)), (.int IntKind.i64 ((f i).place)), (.int IntKind.i64 ((f i).lo)), (.int IntKind.i64 ((f i).hi)), (.int IntKind.i64 ((↑i : Int)))]⟩)) :: (16, Hint.again) :: (5, Hint.loopT (T44i true) (AExit.exit (2 : Nat)) (T44i true) fun x =>   {     hs :=       { vs := [I done, I (↑n : Int), I (↑i : Int), I (↑n : Int), I (↑n : Int), I p],         ns := [(n, d), (n, d), (n, d), (n, c)] },     ls := [ms, rs, os2, js, jobV f i] }) :: [(2, Hint.tm (0 : Nat) [])]) ([(1, Hint.tm (0 : Nat) [])]))])) =
((((decide ((↑i : Int) < (↑n : Int))) = true → ((((((0 : Int) ≤ (↑i : Int))) ∧ (((↑i : Int) < (↑n : Int)))) ∧ (((.pointer (.some ⟨((4 : Nat)), ((0 : Nat) + i * (5 : Nat)), .none⟩)) : Value) = (.pointer (.some ⟨((4 : Nat)), ((0 : Nat) + i * (5 : Nat)), .none⟩)))) ∧
(((((0 : Nat) + i * (5 : Nat) + (5 : Nat) ≤ js.length)) ∧ (((.agg ⟨[(.int IntKind.i64 ((f i).at_)), (.int IntKind.i64 ((f i).place)), (.int IntKind.i64 ((f i).lo)), (.int IntKind.i64 ((f i).hi)), (.int IntKind.i64 ((↑i : Int)))]⟩) : Value) = (.agg ⟨(List.take ((5 : Nat)) (List.drop ((0 : Nat) + i * (5 : Nat)) (js)))⟩))) ∧
(((((some (.int IntKind.i64 ((f i).at_)) : Option Value) = some (.int IntKind.i64 ((f i).at_)))) ∧ (True)) ∧ 
((Atoms [(ms), (rs), (os), (js), [(.int IntKind.i64 ((f i).at_)), (.int IntKind.i64 ((f i).place)), (.int IntKind.i64 ((f i).lo)), (.int IntKind.i64 ((f i).hi)), (.int IntKind.i64 ((↑i : Int)))]]) ∧ (LoopOK Try.prog .none p44i (T44i true) ⟨⟨[(.int IntKind.i64 (IntKind.i64.wrap ((f i).at_ + (f i).hi))), (.int IntKind.i64 ((↑n : Int))), (.int IntKind.i64 ((↑i : Int))), (.int IntKind.i64 ((↑n : Int))), (.int IntKind.i64 ((0 : Int))), (.int IntKind.i64 (p))], [⟨(n), (d)⟩, ⟨(n), (d)⟩, ⟨(n), (d)⟩, ⟨(n), (c)⟩]⟩, [(ms), (rs), (os), (js), [(.int IntKind.i64 ((f i).at_)), (.int IntKind.i64 ((f i).place)), (.int IntKind.i64 ((f i).lo)), (.int IntKind.i64 ((f i).hi)), (.int IntKind.i64 ((↑i : Int)))]]⟩ (.exit ((2 : Nat))) (T44i true) ⟨⟨[(.int IntKind.i64 (done)), (.int IntKind.i64 ((↑n : Int))), (.int IntKind.i64 ((↑i : Int))), (.int IntKind.i64 ((↑n : Int))), (.int IntKind.i64 ((↑n : Int))), (.int IntKind.i64 (p))], [⟨(n), (d)⟩, ⟨(n), (d)⟩, ⟨(n), (d)⟩, ⟨(n), (c)⟩]⟩, [(ms), (rs), (os2), (js), [(.int IntKind.i64 ((f i).at_)), (.int IntKind.i64 ((f i).place)), (.int IntKind.i64 ((f i).lo)), (.int IntKind.i64 ((f i).hi)), (.int IntKind.i64 ((↑i : Int)))]]⟩) ∧ 
R ((0 : Nat)) .normal ⟨⟨[(.int IntKind.i64 ((↑n : Int))), (.int IntKind.i64 (IntKind.i64.wrap ((↑i : Int) + (1 : Int)))), (.int IntKind.i64 (p))], [⟨(n), (d)⟩, ⟨(n), (d)⟩, ⟨(n), (c)⟩]⟩, [(ms), (rs), (os2), (js)]⟩))))) ∧
((decide ((↑i : Int) < (↑n : Int))) = false → R ((0 : Nat)) (.exit ((0 : Nat))) ⟨⟨[(.int IntKind.i64 ((↑n : Int))), (.int IntKind.i64 ((↑i : Int))), (.int IntKind.i64 (p))], [⟨(n), (d)⟩, ⟨(n), (d)⟩, ⟨(n), (c)⟩]⟩, [(ms), (rs), (os), (js)]⟩))) := by kernel_rfl

theorem b44of (p done : Int) (i n c d : Nat) (ms rs os os2 js : List Value) (f : Nat → Mv) (R : Nat → AExit → Hx → Prop)  : (vx.code none (.l p44o) (leafK [T44o false] R) ((T44o false).inst ⟨⟨[I n, I i, I p], [(n, d), (n, d), (n, c)]⟩, [ms, rs, os, js]⟩) ([(0, .split ((1, .val (.pointer (.some ⟨((4 : Nat)), ((0 : Nat) + i * (5 : Nat)), .none⟩))) :: (0, .val (.agg ⟨[(.int IntKind.i64 ((f i).at_)), (.int IntKind.i64 ((f i).place)), (.int IntKind.i64 ((f i).lo)), (.int IntKind.i64 ((f i).hi)), (.int IntKind.i64 ((↑i : Int)))]⟩)) :: (16, Hint.again) :: (5, Hint.loopT (T44i false) (AExit.exit (2 : Nat)) (T44i false) fun x =>   {     hs :=       { vs := [I done, I (↑n : Int), I (↑i : Int), I (↑n : Int), I (↑n : Int), I p],         ns := [(n, d), (n, d), (n, d), (n, c)] },     ls := [ms, rs, os2, js, jobV f i] }) :: [(2, Hint.tm (0 : Nat) [])]) ([(1, Hint.tm (0 : Nat) [])]))])) =
((((decide ((↑i : Int) < (↑n : Int))) = true → ((((((0 : Int) ≤ (↑i : Int))) ∧ (((↑i : Int) < (↑n : Int)))) ∧ (((.pointer (.some ⟨((4 : Nat)), ((0 : Nat) + i * (5 : Nat)), .none⟩)) : Value) = (.pointer (.some ⟨((4 : Nat)), ((0 : Nat) + i * (5 : Nat)), .none⟩)))) ∧
(((((0 : Nat) + i * (5 : Nat) + (5 : Nat) ≤ js.length)) ∧ (((.agg ⟨[(.int IntKind.i64 ((f i).at_)), (.int IntKind.i64 ((f i).place)), (.int IntKind.i64 ((f i).lo)), (.int IntKind.i64 ((f i).hi)), (.int IntKind.i64 ((↑i : Int)))]⟩) : Value) = (.agg ⟨(List.take ((5 : Nat)) (List.drop ((0 : Nat) + i * (5 : Nat)) (js)))⟩))) ∧
(((((some (.int IntKind.i64 ((f i).at_)) : Option Value) = some (.int IntKind.i64 ((f i).at_)))) ∧ (True)) ∧ 
((Atoms [(ms), (rs), (os), (js), [(.int IntKind.i64 ((f i).at_)), (.int IntKind.i64 ((f i).place)), (.int IntKind.i64 ((f i).lo)), (.int IntKind.i64 ((f i).hi)), (.int IntKind.i64 ((↑i : Int)))]]) ∧ (LoopOK Try.prog .none p44i (T44i false) ⟨⟨[(.int IntKind.i64 (IntKind.i64.wrap ((f i).at_ + (f i).lo))), (.int IntKind.i64 ((↑n : Int))), (.int IntKind.i64 ((↑i : Int))), (.int IntKind.i64 ((↑n : Int))), (.int IntKind.i64 ((0 : Int))), (.int IntKind.i64 (p))], [⟨(n), (d)⟩, ⟨(n), (d)⟩, ⟨(n), (d)⟩, ⟨(n), (c)⟩]⟩, [(ms), (rs), (os), (js), [(.int IntKind.i64 ((f i).at_)), (.int IntKind.i64 ((f i).place)), (.int IntKind.i64 ((f i).lo)), (.int IntKind.i64 ((f i).hi)), (.int IntKind.i64 ((↑i : Int)))]]⟩ (.exit ((2 : Nat))) (T44i false) ⟨⟨[(.int IntKind.i64 (done)), (.int IntKind.i64 ((↑n : Int))), (.int IntKind.i64 ((↑i : Int))), (.int IntKind.i64 ((↑n : Int))), (.int IntKind.i64 ((↑n : Int))), (.int IntKind.i64 (p))], [⟨(n), (d)⟩, ⟨(n), (d)⟩, ⟨(n), (d)⟩, ⟨(n), (c)⟩]⟩, [(ms), (rs), (os2), (js), [(.int IntKind.i64 ((f i).at_)), (.int IntKind.i64 ((f i).place)), (.int IntKind.i64 ((f i).lo)), (.int IntKind.i64 ((f i).hi)), (.int IntKind.i64 ((↑i : Int)))]]⟩) ∧ 
R ((0 : Nat)) .normal ⟨⟨[(.int IntKind.i64 ((↑n : Int))), (.int IntKind.i64 (IntKind.i64.wrap ((↑i : Int) + (1 : Int)))), (.int IntKind.i64 (p))], [⟨(n), (d)⟩, ⟨(n), (d)⟩, ⟨(n), (c)⟩]⟩, [(ms), (rs), (os2), (js)]⟩))))) ∧
((decide ((↑i : Int) < (↑n : Int))) = false → R ((0 : Nat)) (.exit ((0 : Nat))) ⟨⟨[(.int IntKind.i64 ((↑n : Int))), (.int IntKind.i64 ((↑i : Int))), (.int IntKind.i64 (p))], [⟨(n), (d)⟩, ⟨(n), (d)⟩, ⟨(n), (c)⟩]⟩, [(ms), (rs), (os), (js)]⟩))) := by kernel_rfl

theorem f44t (p : Int) (n c : Nat) (ms : List Value) (f : Nat → Mv) (o : Nat → Int) (R : ARes → Prop)  : (vx.call 44 [hV p n c, tr true] (retK R) (m1 ms) ((5, Hint.conN (C49 p n c f)) :: (4, Hint.loopT (T44o true) (AExit.exit (0 : Nat)) (T44o true) fun x =>   { hs := { vs := [I (↑n : Int), I (↑n : Int), I p], ns := [(n, n), (n, n), (n, c)] },     ls :=       [ms, Is [(0 : Int), (0 : Int), (0 : Int), (0 : Int), (0 : Int), (0 : Int), (0 : Int)],         Is [o (0 : Nat), o (1 : Nat), o (2 : Nat), o (3 : Nat), o (4 : Nat), o (5 : Nat), o (6 : Nat)], jobsC n f] }) :: [])) =
(((ConNOK Try.prog ((49 : Nat)) (C49 p n c f)) ∧ (ConN.pre (C49 p n c f) ⟨⟨[(.int IntKind.i64 (p))], [⟨(n), (c)⟩]⟩, [(ms)]⟩) ∧ 
((Atoms [(ms), [(.int IntKind.i64 ((0 : Int))), (.int IntKind.i64 ((0 : Int))), (.int IntKind.i64 ((0 : Int))), (.int IntKind.i64 ((0 : Int))), (.int IntKind.i64 ((0 : Int))), (.int IntKind.i64 ((0 : Int))), (.int IntKind.i64 ((0 : Int)))], [(.int IntKind.i64 ((0 : Int))), (.int IntKind.i64 ((0 : Int))), (.int IntKind.i64 ((0 : Int))), (.int IntKind.i64 ((0 : Int))), (.int IntKind.i64 ((0 : Int))), (.int IntKind.i64 ((0 : Int))), (.int IntKind.i64 ((0 : Int)))], (jobsC n f)]) ∧ (LoopOK Try.prog .none p44o (T44o true) ⟨⟨[(.int IntKind.i64 ((↑n : Int))), (.int IntKind.i64 ((0 : Int))), (.int IntKind.i64 (p))], [⟨(n), (n)⟩, ⟨(n), (n)⟩, ⟨(n), (c)⟩]⟩, [(ms), [(.int IntKind.i64 ((0 : Int))), (.int IntKind.i64 ((0 : Int))), (.int IntKind.i64 ((0 : Int))), (.int IntKind.i64 ((0 : Int))), (.int IntKind.i64 ((0 : Int))), (.int IntKind.i64 ((0 : Int))), (.int IntKind.i64 ((0 : Int)))], [(.int IntKind.i64 ((0 : Int))), (.int IntKind.i64 ((0 : Int))), (.int IntKind.i64 ((0 : Int))), (.int IntKind.i64 ((0 : Int))), (.int IntKind.i64 ((0 : Int))), (.int IntKind.i64 ((0 : Int))), (.int IntKind.i64 ((0 : Int)))], (jobsC n f)]⟩ (.exit ((0 : Nat))) (T44o true) ⟨⟨[(.int IntKind.i64 ((↑n : Int))), (.int IntKind.i64 ((↑n : Int))), (.int IntKind.i64 (p))], [⟨(n), (n)⟩, ⟨(n), (n)⟩, ⟨(n), (c)⟩]⟩, [(ms), [(.int IntKind.i64 ((0 : Int))), (.int IntKind.i64 ((0 : Int))), (.int IntKind.i64 ((0 : Int))), (.int IntKind.i64 ((0 : Int))), (.int IntKind.i64 ((0 : Int))), (.int IntKind.i64 ((0 : Int))), (.int IntKind.i64 ((0 : Int)))], [(.int IntKind.i64 (o (0 : Nat))), (.int IntKind.i64 (o (1 : Nat))), (.int IntKind.i64 (o (2 : Nat))), (.int IntKind.i64 (o (3 : Nat))), (.int IntKind.i64 (o (4 : Nat))), (.int IntKind.i64 (o (5 : Nat))), (.int IntKind.i64 (o (6 : Nat)))], (jobsC n f)]⟩) ∧ 
R (.ret (.agg ⟨[(.int IntKind.i64 (o (0 : Nat))), (.int IntKind.i64 (o (1 : Nat))), (.int IntKind.i64 (o (2 : Nat))), (.int IntKind.i64 (o (3 : Nat))), (.int IntKind.i64 (o (4 : Nat))), (.int IntKind.i64 (o (5 : Nat))), (.int IntKind.i64 (o (6 : Nat)))]⟩))))) := by kernel_rfl

theorem f44f (p : Int) (n c : Nat) (ms : List Value) (f : Nat → Mv) (o : Nat → Int) (R : ARes → Prop)  : (vx.call 44 [hV p n c, tr false] (retK R) (m1 ms) ((5, Hint.conN (C49 p n c f)) :: (4, Hint.loopT (T44o false) (AExit.exit (0 : Nat)) (T44o false) fun x =>   { hs := { vs := [I (↑n : Int), I (↑n : Int), I p], ns := [(n, n), (n, n), (n, c)] },     ls :=       [ms, Is [(0 : Int), (0 : Int), (0 : Int), (0 : Int), (0 : Int), (0 : Int), (0 : Int)],         Is [o (0 : Nat), o (1 : Nat), o (2 : Nat), o (3 : Nat), o (4 : Nat), o (5 : Nat), o (6 : Nat)], jobsC n f] }) :: [])) =
(((ConNOK Try.prog ((49 : Nat)) (C49 p n c f)) ∧ (ConN.pre (C49 p n c f) ⟨⟨[(.int IntKind.i64 (p))], [⟨(n), (c)⟩]⟩, [(ms)]⟩) ∧ 
((Atoms [(ms), [(.int IntKind.i64 ((0 : Int))), (.int IntKind.i64 ((0 : Int))), (.int IntKind.i64 ((0 : Int))), (.int IntKind.i64 ((0 : Int))), (.int IntKind.i64 ((0 : Int))), (.int IntKind.i64 ((0 : Int))), (.int IntKind.i64 ((0 : Int)))], [(.int IntKind.i64 ((0 : Int))), (.int IntKind.i64 ((0 : Int))), (.int IntKind.i64 ((0 : Int))), (.int IntKind.i64 ((0 : Int))), (.int IntKind.i64 ((0 : Int))), (.int IntKind.i64 ((0 : Int))), (.int IntKind.i64 ((0 : Int)))], (jobsC n f)]) ∧ (LoopOK Try.prog .none p44o (T44o false) ⟨⟨[(.int IntKind.i64 ((↑n : Int))), (.int IntKind.i64 ((0 : Int))), (.int IntKind.i64 (p))], [⟨(n), (n)⟩, ⟨(n), (n)⟩, ⟨(n), (c)⟩]⟩, [(ms), [(.int IntKind.i64 ((0 : Int))), (.int IntKind.i64 ((0 : Int))), (.int IntKind.i64 ((0 : Int))), (.int IntKind.i64 ((0 : Int))), (.int IntKind.i64 ((0 : Int))), (.int IntKind.i64 ((0 : Int))), (.int IntKind.i64 ((0 : Int)))], [(.int IntKind.i64 ((0 : Int))), (.int IntKind.i64 ((0 : Int))), (.int IntKind.i64 ((0 : Int))), (.int IntKind.i64 ((0 : Int))), (.int IntKind.i64 ((0 : Int))), (.int IntKind.i64 ((0 : Int))), (.int IntKind.i64 ((0 : Int)))], (jobsC n f)]⟩ (.exit ((0 : Nat))) (T44o false) ⟨⟨[(.int IntKind.i64 ((↑n : Int))), (.int IntKind.i64 ((↑n : Int))), (.int IntKind.i64 (p))], [⟨(n), (n)⟩, ⟨(n), (n)⟩, ⟨(n), (c)⟩]⟩, [(ms), [(.int IntKind.i64 ((0 : Int))), (.int IntKind.i64 ((0 : Int))), (.int IntKind.i64 ((0 : Int))), (.int IntKind.i64 ((0 : Int))), (.int IntKind.i64 ((0 : Int))), (.int IntKind.i64 ((0 : Int))), (.int IntKind.i64 ((0 : Int)))], [(.int IntKind.i64 (o (0 : Nat))), (.int IntKind.i64 (o (1 : Nat))), (.int IntKind.i64 (o (2 : Nat))), (.int IntKind.i64 (o (3 : Nat))), (.int IntKind.i64 (o (4 : Nat))), (.int IntKind.i64 (o (5 : Nat))), (.int IntKind.i64 (o (6 : Nat)))], (jobsC n f)]⟩) ∧ 
R (.ret (.agg ⟨[(.int IntKind.i64 (o (0 : Nat))), (.int IntKind.i64 (o (1 : Nat))), (.int IntKind.i64 (o (2 : Nat))), (.int IntKind.i64 (o (3 : Nat))), (.int IntKind.i64 (o (4 : Nat))), (.int IntKind.i64 (o (5 : Nat))), (.int IntKind.i64 (o (6 : Nat)))]⟩))))) := by kernel_rfl

theorem z44t (p : Int) (c : Nat) (ms : List Value) (R : ARes → Prop)  : (vx.call 44 [hV p 0 c, tr true] (retK R) (m1 ms) ([])) =
(R (.ret (.agg ⟨[(.int IntKind.i64 ((0 : Int))), (.int IntKind.i64 ((0 : Int))), (.int IntKind.i64 ((0 : Int))), (.int IntKind.i64 ((0 : Int))), (.int IntKind.i64 ((0 : Int))), (.int IntKind.i64 ((0 : Int))), (.int IntKind.i64 ((0 : Int)))]⟩))) := by kernel_rfl

theorem z44f (p : Int) (c : Nat) (ms : List Value) (R : ARes → Prop)  : (vx.call 44 [hV p 0 c, tr false] (retK R) (m1 ms) ([])) =
(R (.ret (.agg ⟨[(.int IntKind.i64 ((0 : Int))), (.int IntKind.i64 ((0 : Int))), (.int IntKind.i64 ((0 : Int))), (.int IntKind.i64 ((0 : Int))), (.int IntKind.i64 ((0 : Int))), (.int IntKind.i64 ((0 : Int))), (.int IntKind.i64 ((0 : Int)))]⟩))) := by kernel_rfl

/-- Can the second of two moves follow the first one, which takes so long? As the machine reckons it. -/
def canW (p done : Int) (a b : Mv) : Bool := decide (b.at_ ≥ IntKind.i64.wrap (done + IntKind.i64.wrap (p * if IntKind.i64.wrap (b.place - a.place) > IntKind.i64.wrap (a.place - b.place) then IntKind.i64.wrap (b.place - a.place) else IntKind.i64.wrap (a.place - b.place))))
def doneW (sure : Bool) (a : Mv) : Int := IntKind.i64.wrap (a.at_ + cond sure a.hi a.lo)
def canB (sure : Bool) (p : Int) (f : Nat → Mv) (i j : Nat) : Bool := canW p (doneW sure (f i)) (f i) (f j)
def oneI (j : Nat) : Int := IntKind.i64.wrap (1 * 2 ^ j)
/-- The set of those below a number that are such, joined to a set. -/
def rowI (b : Nat → Bool) (x : Int) : Nat → Int
  | 0 => x
  | j + 1 => if b j then joinI (rowI b x j) (oneI j) else rowI b x j
def updF (o : Nat → Int) (i : Nat) (v : Int) : Nat → Int := fun k => if k = i then v else o k
theorem updF_same (o : Nat → Int) (i : Nat) (v : Int) : updF o i v i = v := by simp [updF]
theorem updF_twice (o : Nat → Int) (i : Nat) (v w : Int) : updF (updF o i v) i w = updF o i w := by funext k; simp only [updF]; split <;> rfl
theorem updF_id (o : Nat → Int) (i : Nat) : updF o i (o i) = o := by funext k; simp only [updF]; split <;> simp_all
theorem ints_len (n : Nat) (o : Nat → Int) : (ints n o).length = n := by have := flatC_len (n := n) (k := 1) (g := fun i => [I (o i)]) (fun _ _ => rfl); simpa [ints] using this
theorem ints_set {i : Nat} (o : Nat → Int) (v : Int) (hi : i < 7) : ((ints 7 o).take (0 + i * 1) ++ [I v]) ++ (ints 7 o).drop (0 + i * 1 + 1) = ints 7 (updF o i v) := by
  have hi' : i = 0 ∨ i = 1 ∨ i = 2 ∨ i = 3 ∨ i = 4 ∨ i = 5 ∨ i = 6 := by omega
  rcases hi' with rfl | rfl | rfl | rfl | rfl | rfl | rfl <;> rfl
noncomputable def h44i (p done : Int) (n c d : Nat) (f : Nat → Mv) (o : Nat → Int) (i j : Nat) : Hx := ⟨⟨[I done, I n, I i, I n, I j, I p], [(n, d), (n, d), (n, d), (n, c)]⟩, [mvs n f, Is [0, 0, 0, 0, 0, 0, 0], ints 7 (updF o i (rowI (fun j => canW p done (f i) (f j)) (o i) j)), jobsC n f, jobV f i]⟩
theorem atoms44 (n : Nat) (f : Nat → Mv) (o : Nat → Int) (i : Nat) : Atoms [mvs n f, Is [0, 0, 0, 0, 0, 0, 0], ints 7 o, jobsC n f, jobV f i] := by
  intro cs hcs
  simp only [List.mem_cons, List.not_mem_nil, or_false] at hcs
  rcases hcs with rfl | rfl | rfl | rfl | rfl
  · exact mvs_atoms n f _ (by simp)
  · intro v hv
    simp only [Is, List.map_cons, List.map_nil, List.mem_cons, List.not_mem_nil, or_false] at hv
    rcases hv with rfl | rfl | rfl | rfl | rfl | rfl | rfl <;> rfl
  · exact ints_atoms 7 o _ (by simp)
  · exact jobsC_atoms n f
  · intro v hv
    simp only [jobV, List.mem_cons, List.not_mem_nil, or_false] at hv
    rcases hv with rfl | rfl | rfl | rfl | rfl <;> rfl
theorem jobs_part {n i : Nat} (f : Nat → Mv) (h : i < n) : ((jobsC n f).drop (0 + i * 5)).take 5 = jobV f i := by
  rw [Nat.zero_add]; exact flatC_part (k := 5) (fun i _ => rfl) h
theorem round44i (sure : Bool) {p done : Int} {n c d : Nat} {f : Nat → Mv} {o : Nat → Int} {i j : Nat} (hn : n ≤ 7) (hi : i < n) {R : Nat → AExit → Hx → Prop} (h1 : j < n → R 0 .normal (h44i p done n c d f o i (j + 1))) (h2 : ¬ j < n → R 0 (.exit 2) (h44i p done n c d f o i j)) :
    ∃ hs, vx.code none (.l p44i) (leafK [T44i sure] R) ((T44i sure).inst (h44i p done n c d f o i j)) hs := by
  have key : ∀ (v : Int), (j < n → canW p done (f i) (f j) = true → v = joinI (rowI (fun j => canW p done (f i) (f j)) (o i) j) (oneI j) → ints 7 (updF (updF o i (rowI (fun j => canW p done (f i) (f j)) (o i) j)) i v) = ints 7 (updF o i (rowI (fun j => canW p done (f i) (f j)) (o i) (j + 1)))) := fun v _ hc hv => by
    rw [updF_twice, hv]
    simp only [rowI, hc, if_true]
  have keyF : canW p done (f i) (f j) = false → rowI (fun j => canW p done (f i) (f j)) (o i) (j + 1) = rowI (fun j => canW p done (f i) (f j)) (o i) j := fun hc => by simp [rowI, hc]
  have hw : j < n → IntKind.i64.wrap ((j : Int) + 1) = ((j + 1 : Nat) : Int) := fun _ => wrapI (by omega) (by omega)
  cases sure
  · refine ⟨_, (b44if p done i j n c d (mvs n f) (Is [0, 0, 0, 0, 0, 0, 0]) (ints 7 (updF o i (rowI (fun j => canW p done (f i) (f j)) (o i) j))) (jobsC n f) f (updF o i (rowI (fun j => canW p done (f i) (f j)) (o i) j)) R).mpr ⟨fun h => ?_, fun h => ?_⟩⟩
    · have hj : j < n := by simpa using h
      have h1 := h1 hj
      refine ⟨⟨⟨by omega, by omega⟩, rfl⟩, ⟨by rw [jobsC_len]; have := flatC_bound (k := 5) hj; omega, by rw [jobs_part f hj]; rfl⟩, ⟨rfl, trivial⟩, fun hc => ?_, fun hc => ?_⟩
      · refine ⟨⟨⟨by omega, by omega⟩, rfl⟩, ints_get _ (by omega), ⟨⟨by omega, by omega⟩, rfl⟩, ⟨ints_get _ (by omega), rfl, rfl, trivial⟩, C74_ok _ _, rfl, ⟨rfl, trivial⟩, ⟨⟨by omega, by omega⟩, rfl⟩, by rw [ints_len]; omega, ?_⟩
        rw [hw hj]
        have e := key (joinI (updF o i (rowI (fun j => canW p done (f i) (f j)) (o i) j) i) (oneI j)) hj hc (by rw [updF_same])
        have e2 := ints_set (updF o i (rowI (fun j => canW p done (f i) (f j)) (o i) j)) (joinI (updF o i (rowI (fun j => canW p done (f i) (f j)) (o i) j) i) (oneI j)) (show i < 7 by omega)
        have e3 := e2.trans e
        simp only [h44i, ← e3] at h1
        exact h1
      · rw [hw hj]
        simp only [h44i, keyF hc] at h1
        exact h1
    · exact h2 (by simpa using h)
  · refine ⟨_, (b44it p done i j n c d (mvs n f) (Is [0, 0, 0, 0, 0, 0, 0]) (ints 7 (updF o i (rowI (fun j => canW p done (f i) (f j)) (o i) j))) (jobsC n f) f (updF o i (rowI (fun j => canW p done (f i) (f j)) (o i) j)) R).mpr ⟨fun h => ?_, fun h => ?_⟩⟩
    · have hj : j < n := by simpa using h
      have h1 := h1 hj
      refine ⟨⟨⟨by omega, by omega⟩, rfl⟩, ⟨by rw [jobsC_len]; have := flatC_bound (k := 5) hj; omega, by rw [jobs_part f hj]; rfl⟩, ⟨rfl, trivial⟩, fun hc => ?_, fun hc => ?_⟩
      · refine ⟨⟨⟨by omega, by omega⟩, rfl⟩, ints_get _ (by omega), ⟨⟨by omega, by omega⟩, rfl⟩, ⟨ints_get _ (by omega), rfl, rfl, trivial⟩, C74_ok _ _, rfl, ⟨rfl, trivial⟩, ⟨⟨by omega, by omega⟩, rfl⟩, by rw [ints_len]; omega, ?_⟩
        rw [hw hj]
        have e := key (joinI (updF o i (rowI (fun j => canW p done (f i) (f j)) (o i) j) i) (oneI j)) hj hc (by rw [updF_same])
        have e2 := ints_set (updF o i (rowI (fun j => canW p done (f i) (f j)) (o i) j)) (joinI (updF o i (rowI (fun j => canW p done (f i) (f j)) (o i) j) i) (oneI j)) (show i < 7 by omega)
        have e3 := e2.trans e
        simp only [h44i, ← e3] at h1
        exact h1
      · rw [hw hj]
        simp only [h44i, keyF hc] at h1
        exact h1
    · exact h2 (by simpa using h)
theorem loop44i (sure : Bool) {p done : Int} {n c d : Nat} {f : Nat → Mv} {o : Nat → Int} {i : Nat} (hn : n ≤ 7) (hi : i < n) : LoopOK Try.prog none p44i (T44i sure) (h44i p done n c d f o i 0) (.exit 2) (T44i sure) (h44i p done n c d f o i n) := by
  refine loop_vc (Ts := [T44i sure]) (k := 8) (X := Nat) (inv := fun j => j ≤ n) (μ := fun j => n - j) (st := fun j => (0, h44i p done n c d f o i j)) (out := fun _ => (.exit 2, 0, h44i p done n c d f o i n)) rfl vx_sound ?_ (by rw [nglob]; omega) (fun j hj => ?_) (Nat.zero_le n) (x := 0) rfl (Nat.le_of_ble_eq_true rfl) (by decide) rfl
  · intro T hT; simp only [List.mem_singleton] at hT; subst hT; rfl
  · obtain ⟨hs, hr⟩ := round44i sure (p := p) (done := done) (c := c) (d := d) (f := f) (o := o) (j := j) hn hi (R := RoundR (fun j => j ≤ n) (fun j => n - j) (fun j => (0, h44i p done n c d f o i j)) (fun _ => (.exit 2, 0, h44i p done n c d f o i n)) j)
      (fun h => ⟨⟨atoms44 n f _ i, trivial⟩, .inl ⟨rfl, j + 1, by omega, by show n - (j + 1) < n - j; omega, rfl, rfl⟩⟩)
      (fun h => ⟨⟨atoms44 n f _ i, trivial⟩, .inr ⟨by simp, by
        have e : j = n := by omega
        subst e; rfl⟩⟩)
    exact ⟨T44i sure, hs, rfl, hr⟩
/-! ### The order -/
/-- The moves that can follow a move, the first i of them being asked. -/
def ordF (sure : Bool) (p : Int) (n : Nat) (f : Nat → Mv) (i k : Nat) : Int := if k < i then rowI (canB sure p f k) 0 n else 0
noncomputable def h44o (sure : Bool) (p : Int) (n c d : Nat) (f : Nat → Mv) (i : Nat) : Hx := ⟨⟨[I n, I i, I p], [(n, d), (n, d), (n, c)]⟩, [mvs n f, Is [0, 0, 0, 0, 0, 0, 0], ints 7 (ordF sure p n f i), jobsC n f]⟩
theorem atoms44o (n : Nat) (f : Nat → Mv) (o : Nat → Int) : Atoms [mvs n f, Is [0, 0, 0, 0, 0, 0, 0], ints 7 o, jobsC n f] := fun cs hcs => atoms44 n f o 0 cs (by
  simp only [List.mem_cons, List.not_mem_nil, or_false] at hcs ⊢
  rcases hcs with rfl | rfl | rfl | rfl <;> simp)
theorem ord_next (sure : Bool) (p : Int) (n : Nat) (f : Nat → Mv) (i : Nat) : updF (ordF sure p n f i) i (rowI (fun j => canW p (doneW sure (f i)) (f i) (f j)) (ordF sure p n f i i) n) = ordF sure p n f (i + 1) := by
  have e0 : ordF sure p n f i i = 0 := by simp [ordF]
  rw [e0]
  funext k
  simp only [updF, ordF]
  by_cases h : k = i
  · subst h
    rw [if_pos rfl, if_pos (by omega)]
    rfl
  · rw [if_neg h]
    by_cases h2 : k < i
    · rw [if_pos h2, if_pos (by omega)]
    · rw [if_neg h2, if_neg (by omega)]
theorem round44o (sure : Bool) {p : Int} {n c d : Nat} {f : Nat → Mv} {i : Nat} (hn : n ≤ 7) {R : Nat → AExit → Hx → Prop} (h1 : i < n → R 0 .normal (h44o sure p n c d f (i + 1))) (h2 : ¬ i < n → R 0 (.exit 0) (h44o sure p n c d f i)) :
    ∃ hs, vx.code none (.l p44o) (leafK [T44o sure] R) ((T44o sure).inst (h44o sure p n c d f i)) hs := by
  have hw : i < n → IntKind.i64.wrap ((i : Int) + 1) = ((i + 1 : Nat) : Int) := fun _ => wrapI (by omega) (by omega)
  have hl := fun hi : i < n => loop44i sure (p := p) (done := doneW sure (f i)) (c := c) (d := d) (f := f) (o := ordF sure p n f i) hn hi
  simp only [h44i, rowI, updF_id, ord_next] at hl
  cases sure
  · refine ⟨_, (b44of p (doneW false (f i)) i n c d (mvs n f) (Is [0, 0, 0, 0, 0, 0, 0]) (ints 7 (ordF false p n f i)) (ints 7 (ordF false p n f (i + 1))) (jobsC n f) f R).mpr ⟨fun h => ?_, fun h => ?_⟩⟩
    · have hi : i < n := by simpa using h
      refine ⟨⟨⟨by omega, by omega⟩, rfl⟩, ⟨by rw [jobsC_len]; have := flatC_bound (k := 5) hi; omega, by rw [jobs_part f hi]; rfl⟩, ⟨rfl, trivial⟩, atoms44 n f _ i, hl hi, ?_⟩
      rw [hw hi]
      exact h1 hi
    · exact h2 (by simpa using h)
  · refine ⟨_, (b44ot p (doneW true (f i)) i n c d (mvs n f) (Is [0, 0, 0, 0, 0, 0, 0]) (ints 7 (ordF true p n f i)) (ints 7 (ordF true p n f (i + 1))) (jobsC n f) f R).mpr ⟨fun h => ?_, fun h => ?_⟩⟩
    · have hi : i < n := by simpa using h
      refine ⟨⟨⟨by omega, by omega⟩, rfl⟩, ⟨by rw [jobsC_len]; have := flatC_bound (k := 5) hi; omega, by rw [jobs_part f hi]; rfl⟩, ⟨rfl, trivial⟩, atoms44 n f _ i, hl hi, ?_⟩
      rw [hw hi]
      exact h1 hi
    · exact h2 (by simpa using h)
theorem loop44o (sure : Bool) {p : Int} {n c d : Nat} {f : Nat → Mv} (hn : n ≤ 7) : LoopOK Try.prog none p44o (T44o sure) (h44o sure p n c d f 0) (.exit 0) (T44o sure) (h44o sure p n c d f n) := by
  refine loop_vc (Ts := [T44o sure]) (k := 5) (X := Nat) (inv := fun j => j ≤ n) (μ := fun j => n - j) (st := fun j => (0, h44o sure p n c d f j)) (out := fun _ => (.exit 0, 0, h44o sure p n c d f n)) rfl vx_sound ?_ (by rw [nglob]; omega) (fun j hj => ?_) (Nat.zero_le n) (x := 0) rfl (Nat.le_of_ble_eq_true rfl) (by decide) rfl
  · intro T hT; simp only [List.mem_singleton] at hT; subst hT; rfl
  · obtain ⟨hs, hr⟩ := round44o sure (p := p) (c := c) (d := d) (f := f) (i := j) hn (R := RoundR (fun j => j ≤ n) (fun j => n - j) (fun j => (0, h44o sure p n c d f j)) (fun _ => (.exit 0, 0, h44o sure p n c d f n)) j)
      (fun h => ⟨⟨atoms44o n f _, trivial⟩, .inl ⟨rfl, j + 1, by omega, by show n - (j + 1) < n - j; omega, rfl, rfl⟩⟩)
      (fun h => ⟨⟨atoms44o n f _, trivial⟩, .inr ⟨by simp, by
        have e : j = n := by omega
        subst e; rfl⟩⟩)
    exact ⟨T44o sure, hs, rfl, hr⟩
noncomputable def C44 (sure : Bool) (p : Int) (n c : Nat) (f : Nat → Mv) : Con where
  A := .agg (.hole (.slice 0 0 .nil)) (.iface (trI sure) (.agg .nil .nil) .nil)
  bs := [.list 1 .ro]
  pre x := x = ⟨⟨[I p], [(n, c)]⟩, [mvs n f]⟩
  res _ := .ret (.agg ⟨ints 7 (ordF sure p n f n)⟩)
theorem C44_ok (sure : Bool) (p : Int) (n c : Nat) (f : Nat → Mv) (hn : n ≤ 7) : ConOK Try.prog 44 (C44 sure p n c f) := by
  refine con_of vx_sound ⟨⟨[I p], [(n, c)]⟩, [mvs n f]⟩ (fun x hx => ?_) rfl (fun _ _ => rfl) (fun x hx => by cases hx; exact mvs_atoms n f) rfl (Nat.le_of_ble_eq_true rfl) (by rw [nglob]; exact Nat.zero_le _)
  cases hx
  rcases Nat.eq_zero_or_pos n with h0 | h0
  · subst h0
    cases sure
    · exact ⟨_, (z44f p c (mvs 0 f) _).mpr rfl⟩
    · exact ⟨_, (z44t p c (mvs 0 f) _).mpr rfl⟩
  · have hl := loop44o sure (p := p) (c := c) (d := n) (f := f) hn
    have hp : ∀ b, (C49 p n b f).pre ⟨⟨[I p], [(n, b)]⟩, [mvs n f]⟩ := fun _ => rfl
    cases sure
    · exact ⟨_, (f44f p n c (mvs n f) f (ordF false p n f n) _).mpr ⟨C49_ok p n c f h0 (by omega), hp c, atoms44o n f (ordF false p n f 0), hl, rfl⟩⟩
    · exact ⟨_, (f44t p n c (mvs n f) f (ordF true p n f n) _).mpr ⟨C49_ok p n c f h0 (by omega), hp c, atoms44o n f (ordF true p n f 0), hl, rfl⟩⟩
end Go.Ab

/- package horse: whether a move can follow another one; which two cannot be one horse's. -/
set_option maxRecDepth 100000
namespace Go.Ab
open Go Go.RowKit Go.Proofs
noncomputable def C68t (p : Int) (n c : Nat) (f : Nat → Mv) : Con := { C68 p n c f with pre := fun x => x = ⟨⟨[I p], [(n, c)]⟩, [mvs n f]⟩ ∧ okH p n f = true, res := fun _ => .ret (.bool true) }
noncomputable def C39t (p : Int) (n c : Nat) (f : Nat → Mv) (k d : Nat) (g : Nat → Int) : Con := { C39 p n c f k d g with pre := fun x => x = ⟨⟨[I p], [(n, c), (k, d)]⟩, [mvs n f, ints k g]⟩ ∧ okP n k g = true, res := fun _ => .ret (.bool true) }
theorem con_true {f : FuncId} {C : Con} {q : Bool} (h : ConOK Try.prog f C) (hr : ∀ x, C.res x = .ret (.bool q)) : ConOK Try.prog f { C with pre := fun x => C.pre x ∧ q = true, res := fun _ => .ret (.bool true) } where
  calls := h.calls
  says x hp := (h.says x hp.1).mono fun r H hr' => by rw [hr', hr, hp.2]
  closed _ _ := rfl
  atoms x hp := h.atoms x hp.1
  ro := h.ro
  small := h.small
  glob := h.glob
theorem C68t_ok (p : Int) (n c : Nat) (f : Nat → Mv) (hn : n ≤ 1000000) : ConOK Try.prog 68 (C68t p n c f) := con_true (C68_ok p n c f hn) fun _ => rfl
theorem C39t_ok (p : Int) (n c : Nat) (f : Nat → Mv) (k d : Nat) (g : Nat → Int) (hn : n ≤ 1000000) (hk : k ≤ 1000000) : ConOK Try.prog 39 (C39t p n c f k d g) := con_true (C39_ok p n c f k d g hn hk) fun _ => rfl
end Go.Ab

/- package horse: Follows. -/
set_option maxRecDepth 100000
namespace Go.Ab
open Go Go.RowKit Go.Proofs
theorem f18 (p : Int) (i j n c : Nat) (f : Nat → Mv) (R : ARes → Prop)  : (vx.call 18 [hV p n c, I i, I j] (retK R) (m1 (mvs n f)) ((20, Hint.con (C68t p n c f)) :: [(27, .split ([(22, .split ((9, Hint.conN (C49 p n c f)) :: (4, .val (.pointer (.some ⟨((11 : Nat)), ((0 : Nat) + i * (5 : Nat)), .none⟩))) :: (0, .val (.agg ⟨[(.int IntKind.i64 ((f i).at_)), (.int IntKind.i64 ((f i).place)), (.int IntKind.i64 ((f i).lo)), (.int IntKind.i64 ((f i).hi)), (.int IntKind.i64 ((↑i : Int)))]⟩)) :: (2, .val (.pointer (.some ⟨((11 : Nat)), ((0 : Nat) + j * (5 : Nat)), .none⟩))) :: (0, .val (.agg ⟨[(.int IntKind.i64 ((f j).at_)), (.int IntKind.i64 ((f j).place)), (.int IntKind.i64 ((f j).lo)), (.int IntKind.i64 ((f j).hi)), (.int IntKind.i64 ((↑j : Int)))]⟩)) :: (10, Hint.con (C44 true p n c f)) :: (0, Hint.again) :: (7, .val (.pointer (.some ⟨((15 : Nat)), ((0 : Nat) + i * (1 : Nat)), .none⟩))) :: (0, .val (.int IntKind.i64 (ordF true p n f n i))) :: (6, .val (.int IntKind.i64 (ordF true p n f n i / (2 : Int) ^ j))) :: [(1, .split ([]) ((9, Hint.con (C44 false p n c f)) :: (0, Hint.again) :: (7, .val (.pointer (.some ⟨((18 : Nat)), ((0 : Nat) + i * (1 : Nat)), .none⟩))) :: (0, .val (.int IntKind.i64 (ordF false p n f n i))) :: (6, .val (.int IntKind.i64 (ordF false p n f n i / (2 : Int) ^ j))) :: [(1, .split ([]) ([]))]))]) ([]))]) ([]))])) =
(((ConOK Try.prog ((68 : Nat)) (C68t p n c f)) ∧ (Con.pre (C68t p n c f) ⟨⟨[(.int IntKind.i64 (p))], [⟨(n), (c)⟩]⟩, [(mvs n f)]⟩) ∧ 
(((decide ((↑i : Int) ≤ IntKind.i64.wrap ((↑n : Int) - (1 : Int)))) = true → (((decide ((↑j : Int) ≤ IntKind.i64.wrap ((↑n : Int) - (1 : Int)))) = true → ((ConNOK Try.prog ((49 : Nat)) (C49 p n c f)) ∧ (ConN.pre (C49 p n c f) ⟨⟨[(.int IntKind.i64 (p))], [⟨(n), (c)⟩]⟩, [(mvs n f)]⟩) ∧ 
((((((0 : Int) ≤ (↑i : Int))) ∧ (((↑i : Int) < (↑n : Int)))) ∧ (((.pointer (.some ⟨((11 : Nat)), ((0 : Nat) + i * (5 : Nat)), .none⟩)) : Value) = (.pointer (.some ⟨((11 : Nat)), ((0 : Nat) + i * (5 : Nat)), .none⟩)))) ∧
(((((0 : Nat) + i * (5 : Nat) + (5 : Nat) ≤ (jobsC n f).length)) ∧ (((.agg ⟨[(.int IntKind.i64 ((f i).at_)), (.int IntKind.i64 ((f i).place)), (.int IntKind.i64 ((f i).lo)), (.int IntKind.i64 ((f i).hi)), (.int IntKind.i64 ((↑i : Int)))]⟩) : Value) = (.agg ⟨(List.take ((5 : Nat)) (List.drop ((0 : Nat) + i * (5 : Nat)) (jobsC n f)))⟩))) ∧
((((((0 : Int) ≤ (↑j : Int))) ∧ (((↑j : Int) < (↑n : Int)))) ∧ (((.pointer (.some ⟨((11 : Nat)), ((0 : Nat) + j * (5 : Nat)), .none⟩)) : Value) = (.pointer (.some ⟨((11 : Nat)), ((0 : Nat) + j * (5 : Nat)), .none⟩)))) ∧
(((((0 : Nat) + j * (5 : Nat) + (5 : Nat) ≤ (jobsC n f).length)) ∧ (((.agg ⟨[(.int IntKind.i64 ((f j).at_)), (.int IntKind.i64 ((f j).place)), (.int IntKind.i64 ((f j).lo)), (.int IntKind.i64 ((f j).hi)), (.int IntKind.i64 ((↑j : Int)))]⟩) : Value) = (.agg ⟨(List.take ((5 : Nat)) (List.drop ((0 : Nat) + j * (5 : Nat)) (jobsC n f)))⟩))) ∧
((ConOK Try.prog ((44 : Nat)) (C44 true p n c f)) ∧ (Con.pre (C44 true p n c f) ⟨⟨[(.int IntKind.i64 (p))], [⟨(n), (c)⟩]⟩, [(mvs n f)]⟩) ∧ 
((((((5 : Nat) ≤ (5 : Nat))) ∧ (((.agg ⟨[(.int IntKind.i64 ((f j).at_)), (.int IntKind.i64 ((f j).place)), (.int IntKind.i64 ((f j).lo)), (.int IntKind.i64 ((f j).hi)), (.int IntKind.i64 ((↑j : Int)))]⟩) : Value) = (.agg ⟨[(.int IntKind.i64 ((f j).at_)), (.int IntKind.i64 ((f j).place)), (.int IntKind.i64 ((f j).lo)), (.int IntKind.i64 ((f j).hi)), (.int IntKind.i64 ((↑j : Int)))]⟩))) ∧ (((((5 : Nat) ≤ (5 : Nat))) ∧ (((.agg ⟨[(.int IntKind.i64 ((f i).at_)), (.int IntKind.i64 ((f i).place)), (.int IntKind.i64 ((f i).lo)), (.int IntKind.i64 ((f i).hi)), (.int IntKind.i64 ((↑i : Int)))]⟩) : Value) = (.agg ⟨[(.int IntKind.i64 ((f i).at_)), (.int IntKind.i64 ((f i).place)), (.int IntKind.i64 ((f i).lo)), (.int IntKind.i64 ((f i).hi)), (.int IntKind.i64 ((↑i : Int)))]⟩))) ∧ (True))) ∧ 
((((((0 : Int) ≤ (↑i : Int))) ∧ (((↑i : Int) < (↑(7 : Nat) : Int)))) ∧ (((.pointer (.some ⟨((15 : Nat)), ((0 : Nat) + i * (1 : Nat)), .none⟩)) : Value) = (.pointer (.some ⟨((15 : Nat)), ((0 : Nat) + i * (1 : Nat)), .none⟩)))) ∧
((((ints (7 : Nat) (ordF true p n f n))[(0 : Nat) + i * (1 : Nat)]? = some (.int IntKind.i64 (ordF true p n f n i)))) ∧
((((((0 : Int) ≤ (↑j : Int))) ∧ (((↑j : Int) ≤ (↑(64 : Nat) : Int)))) ∧ (((.int IntKind.i64 (ordF true p n f n i / (2 : Int) ^ j)) : Value) = (.int IntKind.i64 (ordF true p n f n i / (2 : Int) ^ j)))) ∧
(((bits BinOp.and IntKind.i64 (ordF true p n f n i / (2 : Int) ^ j) (1 : Int) == (1 : Int)) = true → R (.ret (.tuple ⟨[(.int IntKind.i64 ((2 : Int))), (.int IntKind.i64 ((0 : Int)))]⟩))) ∧
((bits BinOp.and IntKind.i64 (ordF true p n f n i / (2 : Int) ^ j) (1 : Int) == (1 : Int)) = false → ((ConOK Try.prog ((44 : Nat)) (C44 false p n c f)) ∧ (Con.pre (C44 false p n c f) ⟨⟨[(.int IntKind.i64 (p))], [⟨(n), (c)⟩]⟩, [(mvs n f)]⟩) ∧ 
((((((5 : Nat) ≤ (5 : Nat))) ∧ (((.agg ⟨[(.int IntKind.i64 ((f j).at_)), (.int IntKind.i64 ((f j).place)), (.int IntKind.i64 ((f j).lo)), (.int IntKind.i64 ((f j).hi)), (.int IntKind.i64 ((↑j : Int)))]⟩) : Value) = (.agg ⟨[(.int IntKind.i64 ((f j).at_)), (.int IntKind.i64 ((f j).place)), (.int IntKind.i64 ((f j).lo)), (.int IntKind.i64 ((f j).hi)), (.int IntKind.i64 ((↑j : Int)))]⟩))) ∧ (((((5 : Nat) ≤ (5 : Nat))) ∧ (((.agg ⟨[(.int IntKind.i64 ((f i).at_)), (.int IntKind.i64 ((f i).place)), (.int IntKind.i64 ((f i).lo)), (.int IntKind.i64 ((f i).hi)), (.int IntKind.i64 ((↑i : Int)))]⟩) : Value) = (.agg ⟨[(.int IntKind.i64 ((f i).at_)), (.int IntKind.i64 ((f i).place)), (.int IntKind.i64 ((f i).lo)), (.int IntKind.i64 ((f i).hi)), (.int IntKind.i64 ((↑i : Int)))]⟩))) ∧ (True))) ∧ 
((((((0 : Int) ≤ (↑i : Int))) ∧ (((↑i : Int) < (↑(7 : Nat) : Int)))) ∧ (((.pointer (.some ⟨((18 : Nat)), ((0 : Nat) + i * (1 : Nat)), .none⟩)) : Value) = (.pointer (.some ⟨((18 : Nat)), ((0 : Nat) + i * (1 : Nat)), .none⟩)))) ∧
((((ints (7 : Nat) (ordF false p n f n))[(0 : Nat) + i * (1 : Nat)]? = some (.int IntKind.i64 (ordF false p n f n i)))) ∧
((((((0 : Int) ≤ (↑j : Int))) ∧ (((↑j : Int) ≤ (↑(64 : Nat) : Int)))) ∧ (((.int IntKind.i64 (ordF false p n f n i / (2 : Int) ^ j)) : Value) = (.int IntKind.i64 (ordF false p n f n i / (2 : Int) ^ j)))) ∧
(((bits BinOp.and IntKind.i64 (ordF false p n f n i / (2 : Int) ^ j) (1 : Int) == (1 : Int)) = true → R (.ret (.tuple ⟨[(.int IntKind.i64 ((1 : Int))), (.int IntKind.i64 ((0 : Int)))]⟩))) ∧
((bits BinOp.and IntKind.i64 (ordF false p n f n i / (2 : Int) ^ j) (1 : Int) == (1 : Int)) = false → R (.ret (.tuple ⟨[(.int IntKind.i64 ((0 : Int))), (.int IntKind.i64 ((0 : Int)))]⟩)))))))))))))))))))))) ∧
((decide ((↑j : Int) ≤ IntKind.i64.wrap ((↑n : Int) - (1 : Int)))) = false → R (.ret (.tuple ⟨[(.int IntKind.i64 ((0 : Int))), (.int IntKind.i64 ((2 : Int)))]⟩))))) ∧
((decide ((↑i : Int) ≤ IntKind.i64.wrap ((↑n : Int) - (1 : Int)))) = false → R (.ret (.tuple ⟨[(.int IntKind.i64 ((0 : Int))), (.int IntKind.i64 ((2 : Int)))]⟩)))))) := by kernel_rfl

def hasI (x : Int) (j : Nat) : Bool := bits .and .i64 (x / 2 ^ j) 1 == 1
/-- Whether a move can follow another one. -/
def folV (p : Int) (n : Nat) (f : Nat → Mv) (i j : Nat) : Int := if hasI (ordF true p n f n i) j then 2 else if hasI (ordF false p n f n i) j then 1 else 0
noncomputable def C18 (p : Int) (i j n c : Nat) (f : Nat → Mv) : Con where
  A := .agg (.hole (.slice 0 0 .nil)) (.hole (.hole .nil))
  bs := [.list 1 .ro]
  pre x := x = ⟨⟨[I p, I i, I j], [(n, c)]⟩, [mvs n f]⟩
  res _ := .ret (.tuple ⟨[I (folV p n f i j), I 0]⟩)
theorem C18_ok (p : Int) (i j n c : Nat) (f : Nat → Mv) (hok : okH p n f = true) (hi : i < n) (hj : j < n) (hn : n ≤ 7) : ConOK Try.prog 18 (C18 p i j n c f) := by
  refine con_of vx_sound ⟨⟨[I p, I i, I j], [(n, c)]⟩, [mvs n f]⟩ (fun x hx => ?_) rfl (fun _ _ => rfl) (fun x hx => by cases hx; exact mvs_atoms n f) rfl (Nat.le_of_ble_eq_true rfl) (by rw [nglob]; exact Nat.zero_le _)
  cases hx
  have hw : IntKind.i64.wrap ((n : Int) - 1) = (n : Int) - 1 := wrapI (by omega) (by omega)
  have key : ∀ R : ARes → Prop, (∀ v, folV p n f i j = v → R (.ret (.tuple ⟨[I v, I 0]⟩))) → ∃ hs, vx.call 18 [hV p n c, I i, I j] (retK R) (m1 (mvs n f)) hs := by
    intro R hR
    refine ⟨_, (f18 p i j n c f R).mpr ?_⟩
    rw [hw]
    repeat' (first | with_reducible apply And.intro | with_reducible intro)
    all_goals first
      | exact C68t_ok p n c f (by omega)
      | exact ⟨rfl, hok⟩
      | exact C49_ok p n c f (by omega) (by omega)
      | exact C44_ok _ p n c f hn
      | trivial
      | omega
      | (rw [jobsC_len]; have := flatC_bound (k := 5) hi; have := flatC_bound (k := 5) hj; omega)
      | (rw [jobs_part f hi]; rfl)
      | (rw [jobs_part f hj]; rfl)
      | exact ints_get _ (by omega)
      | rfl
      | (refine hR _ ?_; simp only [folV, hasI, *]; rfl)
      | (refine hR _ ?_; simp [folV, hasI, *]; done)
      | (exfalso; rename_i h; have h2 := of_decide_eq_false h; omega)
  obtain ⟨hs, h⟩ := key (fun r => r = (C18 p i j n c f).res ⟨⟨[I p, I i, I j], [(n, c)]⟩, [mvs n f]⟩) fun v hv => by subst hv; rfl
  exact ⟨hs, h⟩
end Go.Ab

/- FORMS OF STATES AT LOOPS' HEADS: wrong. -/
set_option maxRecDepth 100000
namespace Go.Ab
open Go Go.RowKit Go.Proofs
def p43o : Loc := .l (.r (.l (.r (.top 43))))
def p43i : Loc := .l (.r (.r (.l (.l (.r (.r (.l (.l (.r (.l (.r (.top 43))))))))))))
noncomputable def T43o : Tm := ⟨43, mkS 43 [(1, .slice 1 0 .nil), (5, .ptr 3 0 .nil), (6, .ptr 4 0 .nil), (10, .hole .nil), (11, .hole .nil)], 5, [.dead, .list 3 .ro, .dead, .list 85 .var, .list 79 .var]⟩
noncomputable def T43i : Tm := ⟨43, mkS 43 [(1, .slice 1 0 .nil), (5, .ptr 3 0 .nil), (6, .ptr 4 0 .nil), (7, .hole .nil), (8, .hole .nil), (10, .hole .nil), (11, .hole .nil)], 5, [.dead, .list 3 .ro, .dead, .list 85 .var, .list 79 .var]⟩
noncomputable def R43 : Tm := ⟨43, mkS 43 [(6, .ptr 4 0 .nil)], 5, [.dead, .dead, .dead, .dead, .list 79 .var]⟩
noncomputable def oL (o : Nat → Int) : List Value := [I (o 0), I (o 1), I (o 2), I (o 3), I (o 4), I (o 5), I (o 6)]
noncomputable def oV (o : Nat → Int) : Value := .agg ⟨ints 7 o⟩
end Go.Ab

