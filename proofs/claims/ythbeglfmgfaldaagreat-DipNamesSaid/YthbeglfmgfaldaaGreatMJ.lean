/- ABSTRACT MEMORY, 31: the reckoner with its operations made ready once: regions, code. -/
import Derived.Test.YthbeglfmgfaldaaGreatMI
namespace Go.Ab
open Go Go.RowKit
variable [PR]

/-- An operation that neither computes nor makes a block. -/
def isEff : Op → Bool
  | .store _ _ _ | .mapUpdate _ _ _ _ | .insert _ _ _ _ | .panic _ | .defer _ | .range _ _ | .next _ _ | .entry _ => true
  | .call c => match c.callee with
    | .value _ | .invoke _ _ => true
    | _ => false
  | _ => false
theorem eff_pure {P : Program} {ρ : Operand → Option Value} {H : AHeap} {op : Op} (h : isEff op = true) : aPure P ρ H op = none ∧ aAlloc P ρ op = none := by
  have _ := PR.prog
  cases op with
  | call c =>
    obtain ⟨callee, args, ats⟩ := c
    cases callee with
    | builtin b => simp [isEff] at h
    | _ => exact ⟨rfl, rfl⟩
  | _ => first | exact ⟨rfl, rfl⟩ | (simp [isEff] at h)
theorem mk_pure {P : Program} {ρ : Operand → Option Value} {H : AHeap} {op : Op} (h : isMk op = true) : aPure P ρ H op = none := by
  have _ := PR.prog
  cases op <;> first | rfl | (simp [isMk] at h)
theorem mk_eff {X : Ex} {P : Program} {ro : Option Nat} {s : St} {dst : Option Tmp} {op : Op} (h : isMk op = true) : xEff X P ro s dst op = none := by
  cases op <;> first | rfl | (simp [isMk] at h)
theorem float_eff {X : Ex} {P : Program} {ρ : Operand → Option Value} {ro : Option Nat} {s : St} {dst : Option Tmp} {op : Op} (h : isFloat op = true) : aAlloc P ρ op = none ∧ xEff X P ro s dst op = none := by
  cases op with
  | call c =>
    obtain ⟨callee, args, ats⟩ := c
    cases callee with
    | builtin b => cases b <;> first | exact ⟨rfl, rfl⟩ | (simp [isFloat] at h)
    | _ => simp [isFloat] at h
  | _ => first | exact ⟨rfl, rfl⟩ | (simp [isFloat] at h)

abbrev Res := Option (AExit × St)
/-- What is made ready: of a run of operations. -/
structure RC where
  run : Ex → Option Nat → Nat → Tr (Option Value) → List Deferred → Mem → Res
structure PutC where
  put : Nat → Tr (Option Value) → Value → Tr (Option Value)
noncomputable def putC (dst : Option Tmp) : PutC :=
  Option.rec (motive := fun _ => PutC) ⟨fun _ t _ => t⟩ (fun d => ⟨fun n t v => setp (pth 40 d) t (some (Bool.rec (motive := fun _ => Value) undef v (Nat.ble (Nat.succ d) n)))⟩) dst
theorem putC_eq {dst : Option Tmp} (h : slotOK dst = true) (n : Nat) (t : Tr (Option Value)) (ds : List Deferred) (m : Mem) (v : Value) : (⟨n, (putC dst).put n t v, ds, m⟩ : St) = (⟨n, t, ds, m⟩ : St).put dst v := by
  cases dst with
  | none => rfl
  | some d =>
    show (⟨n, setp (pth 40 d) t (some (Bool.rec (motive := fun _ => Value) undef v (Nat.ble (Nat.succ d) n))), ds, m⟩ : St) = ⟨n, Tr.set 40 t d (some (cond (Nat.ble (Nat.succ d) n) v undef)), ds, m⟩
    rw [setp_eq 40 t d _ (lt40 h)]
    congr 2
    cases Nat.ble (Nat.succ d) n <;> rfl

/-- One operation, and what comes behind it. -/
noncomputable def stepC (P : Program) (dst : Option Tmp) (op : Op) (ih : RC) : RC :=
  Bool.rec (motive := fun _ => RC) ⟨fun _ _ _ _ _ _ => none⟩
    (Bool.rec (motive := fun _ => RC)
      (Bool.rec (motive := fun _ => RC)
        (Bool.rec (motive := fun _ => RC)
          ⟨fun X ro n t ds m => Option.rec (motive := fun _ => Res) none (fun r => XR.rec (motive := fun _ => Res) (fun s' => ih.run X ro s'.n s'.t s'.ds s'.m) (fun v m' => some (.panic v, ⟨n, t, ds, m'⟩)) r) (fStep X P ro ⟨n, t, ds, m⟩ dst op)⟩
          ⟨fun X ro n t ds m => Option.rec (motive := fun _ => Res) none (fun r => XR.rec (motive := fun _ => Res) (fun s' => ih.run X ro s'.n s'.t s'.ds s'.m) (fun v m' => some (.panic v, ⟨n, t, ds, m'⟩)) r) (xEff X P ro ⟨n, t, ds, m⟩ dst op)⟩
          (isEff op))
        ⟨fun X ro n t ds m => Option.rec (motive := fun _ => Res) none (fun bm => Option.rec (motive := fun _ => Res) none (fun b => Bool.rec (motive := fun _ => Res) none (ih.run X ro n ((putC dst).put n t (bm.2 m.nx)) ds (m.new b)) m.free) (XB.of bm.1)) (aAlloc P (fun x => (evC P x).get t) op)⟩
        (isMk op))
      ⟨fun X ro n t ds m => Option.rec (motive := fun _ => Res) none (fun v => ih.run X ro n ((putC dst).put n t v) ds m) ((pc P op).run t m)⟩
      (isFloat op))
    (slotOK dst)
theorem stepC_eq {P : Program} {dst : Option Tmp} {op : Op} {ih : RC} {X : Ex} {ro : Option Nat} {n : Nat} {t : Tr (Option Value)} {ds : List Deferred} {m : Mem} : (stepC P dst op ih).run X ro n t ds m =
    (fStep X P ro ⟨n, t, ds, m⟩ dst op).bind fun r => match r with | .ok s' => ih.run X ro s'.n s'.t s'.ds s'.m | .pan v m' => some (.panic v, ⟨n, t, ds, m'⟩) := by
  have hx : xev P t = (⟨n, t, ds, m⟩ : St).a.eval P := xev_eq (s := ⟨n, t, ds, m⟩)
  have hres : ∀ o : Option XR, (Option.rec (motive := fun _ => Res) none (fun r => XR.rec (motive := fun _ => Res) (fun s' => ih.run X ro s'.n s'.t s'.ds s'.m) (fun v m' => some (.panic v, ⟨n, t, ds, m'⟩)) r) o : Res) =
      o.bind fun r => match r with | .ok s' => ih.run X ro s'.n s'.t s'.ds s'.m | .pan v m' => some (.panic v, ⟨n, t, ds, m'⟩) := fun o => by
    rw [optRec]
    congr 1
    funext r
    cases r <;> rfl
  unfold stepC
  cases hs : slotOK dst with
  | false =>
    have : fStep X P ro ⟨n, t, ds, m⟩ dst op = none := by unfold fStep; rw [hs]; rfl
    rw [this]
    rfl
  | true =>
    cases hf : isFloat op with
    | true =>
      show (Option.rec (motive := fun _ => Res) none (fun v => ih.run X ro n ((putC dst).put n t v) ds m) ((pc P op).run t m) : Res) = _
      rw [optRec, pc_eq]
      unfold fStep
      rw [hs]
      simp only [cond_true]
      cases hp : fPure P (xev P t) m.H op with
      | some v =>
        show ih.run X ro n ((putC dst).put n t v) ds m = ih.run X ro _ _ _ _
        rw [← putC_eq hs n t ds m v]
      | none =>
        obtain ⟨h1, h2⟩ := float_eff (X := X) (P := P) (ρ := xev P t) (ro := ro) (s := ⟨n, t, ds, m⟩) (dst := dst) hf
        simp only [h1, h2]
        rfl
    | false =>
      cases hm : isMk op with
      | true =>
        show (Option.rec (motive := fun _ => Res) none (fun bm => Option.rec (motive := fun _ => Res) none (fun b => Bool.rec (motive := fun _ => Res) none (ih.run X ro n ((putC dst).put n t (bm.2 m.nx)) ds (m.new b)) m.free) (XB.of bm.1)) (aAlloc P (fun x => (evC P x).get t) op) : Res) = _
        rw [evC_eq]
        unfold fStep
        rw [hs]
        simp only [cond_true]
        have hp : fPure P (xev P t) m.H op = none := by rw [fPure_eq]; exact mk_pure hm
        rw [hp]
        simp only
        cases ha : aAlloc P (xev P t) op with
        | none => simp only [mk_eff hm]; rfl
        | some bm =>
          obtain ⟨b, mk⟩ := bm
          simp only
          cases hb : XB.of b with
          | none => rfl
          | some x =>
            cases hfr : m.free with
            | false => rfl
            | true =>
              show ih.run X ro n ((putC dst).put n t (mk m.nx)) ds (m.new x) = ih.run X ro _ _ _ _
              rw [← putC_eq hs n t ds (m.new x) (mk m.nx)]
      | false =>
        cases he : isEff op with
        | true =>
          show (Option.rec (motive := fun _ => Res) none _ (xEff X P ro ⟨n, t, ds, m⟩ dst op) : Res) = _
          rw [hres]
          congr 1
          unfold fStep
          rw [hs]
          simp only [cond_true]
          obtain ⟨h1, h2⟩ := eff_pure (P := P) (ρ := xev P t) (H := m.H) he
          rw [fPure_eq, h1]
          simp only [h2]
        | false => exact hres _
/-- A region in the text's order, made ready. -/
noncomputable def opsC (P : Program) (ops : List Oper) (l : List Oper) : RC :=
  List.rec (motive := fun _ => RC) ⟨fun _ _ n t ds m => some (.normal, ⟨n, t, ds, m⟩)⟩
    (fun o _ ih => Option.rec (motive := fun _ => RC) (stepC P o.dst o.op ih)
      (fun _ => ⟨fun X ro n t ds m => Option.rec (motive := fun _ => Res) none (fun b => Bool.rec (motive := fun _ => Res) (Bool.rec (motive := fun _ => Res) none (ih.run X ro n ((putC o.dst).put n t undef) ds m) (slotOK o.dst)) ((stepC P o.dst o.op ih).run X ro n t ds m) b) (aWanted ⟨ops⟩ (⟨n, t, ds, m⟩ : St).a o)⟩) o.guard) l
theorem opsC_eq {X : Ex} {P : Program} {ro : Option Nat} {ops : List Oper} (l : List Oper) : ∀ {n : Nat} {t : Tr (Option Value)} {ds : List Deferred} {m : Mem}, (opsC P ops l).run X ro n t ds m = fOps X P ro ops l ⟨n, t, ds, m⟩ := by
  induction l with
  | nil => intro n t ds m; rfl
  | cons o l ih =>
    intro n t ds m
    have e : fOps X P ro ops (o :: l) ⟨n, t, ds, m⟩ = (aWanted ⟨ops⟩ (⟨n, t, ds, m⟩ : St).a o).bind fun b => cond b ((fStep X P ro ⟨n, t, ds, m⟩ o.dst o.op).bind fun r => XR.casesOn (motive := fun _ => Option (AExit × St)) r (fun s' => fOps X P ro ops l s') (fun v m' => some (.panic v, ⟨n, t, ds, m'⟩)))
        (cond (slotOK o.dst) (fOps X P ro ops l ((⟨n, t, ds, m⟩ : St).put o.dst undef)) none) := rfl
    rw [e]
    have hstep : (stepC P o.dst o.op (opsC P ops l)).run X ro n t ds m = (fStep X P ro ⟨n, t, ds, m⟩ o.dst o.op).bind fun r => XR.casesOn (motive := fun _ => Option (AExit × St)) r (fun s' => fOps X P ro ops l s') (fun v m' => some (.panic v, ⟨n, t, ds, m'⟩)) := by
      rw [stepC_eq]
      congr 1
      funext r
      cases r with
      | ok s' => exact ih
      | pan v m' => rfl
    have e2 : opsC P ops (o :: l) = Option.rec (motive := fun _ => RC) (stepC P o.dst o.op (opsC P ops l))
      (fun _ => ⟨fun X ro n t ds m => Option.rec (motive := fun _ => Res) none (fun b => Bool.rec (motive := fun _ => Res) (Bool.rec (motive := fun _ => Res) none ((opsC P ops l).run X ro n ((putC o.dst).put n t undef) ds m) (slotOK o.dst)) ((stepC P o.dst o.op (opsC P ops l)).run X ro n t ds m) b) (aWanted ⟨ops⟩ (⟨n, t, ds, m⟩ : St).a o)⟩) o.guard := rfl
    rw [e2]
    cases hg : o.guard with
    | none =>
      have hw : aWanted ⟨ops⟩ (⟨n, t, ds, m⟩ : St).a o = some true := by unfold aWanted; rw [hg]
      rw [hw]
      exact hstep
    | some g =>
      show (Option.rec (motive := fun _ => Res) none _ (aWanted ⟨ops⟩ (⟨n, t, ds, m⟩ : St).a o) : Res) = _
      rw [optRec]
      congr 1
      funext b
      cases b with
      | true => exact hstep
      | false =>
        show (Bool.rec (motive := fun _ => Res) none ((opsC P ops l).run X ro n ((putC o.dst).put n t undef) ds m) (slotOK o.dst) : Res) = cond (slotOK o.dst) _ none
        cases hs : slotOK o.dst with
        | false => rfl
        | true =>
          show (opsC P ops l).run X ro n ((putC o.dst).put n t undef) ds m = fOps X P ro ops l ((⟨n, t, ds, m⟩ : St).put o.dst undef)
          rw [ih, putC_eq hs]
end Go.Ab

/- ABSTRACT MEMORY, 32: the reckoner with its operations made ready once: regions that draw; the whole. -/
namespace Go.Ab
open Go Go.RowKit
variable [PR]

structure RG where
  run : Ex → Option Nat → Tr (Option Value) → Nat → Tr (Option Value) → List Deferred → Mem → Res
/-- An operation that is asked for, or is not. -/
noncomputable def guardG (ops : Array Oper) (o : Oper) (yes ih : RG) : RG :=
  Option.rec (motive := fun _ => RG) yes
    (fun _ => ⟨fun X ro t0 n t ds m => Option.rec (motive := fun _ => Res) none (fun b => Bool.rec (motive := fun _ => Res) (Bool.rec (motive := fun _ => Res) none (ih.run X ro t0 n ((putC o.dst).put n t undef) ds m) (slotOK o.dst)) (yes.run X ro t0 n t ds m) b) (aWanted ops (⟨n, t, ds, m⟩ : St).a o)⟩) o.guard
theorem guardG_eq {ops : Array Oper} {o : Oper} {yes ih : RG} {X : Ex} {ro : Option Nat} {t0 : Tr (Option Value)} {n : Nat} {t : Tr (Option Value)} {ds : List Deferred} {m : Mem} : (guardG ops o yes ih).run X ro t0 n t ds m =
    (aWanted ops (⟨n, t, ds, m⟩ : St).a o).bind fun b => cond b (yes.run X ro t0 n t ds m) (cond (slotOK o.dst) (ih.run X ro t0 n ((putC o.dst).put n t undef) ds m) none) := by
  unfold guardG
  cases hg : o.guard with
  | none =>
    have hw : aWanted ops (⟨n, t, ds, m⟩ : St).a o = some true := by unfold aWanted; rw [hg]
    rw [hw]
    rfl
  | some g =>
    show (Option.rec (motive := fun _ => Res) none _ (aWanted ops (⟨n, t, ds, m⟩ : St).a o) : Res) = _
    rw [optRec]
    congr 1
    funext b
    cases b with
    | true => rfl
    | false => cases slotOK o.dst <;> rfl
noncomputable def failG : RG := ⟨fun _ _ _ _ _ _ _ => none⟩
noncomputable def floatG (P : Program) (o : Oper) (ih : RG) : RG := ⟨fun X ro t0 n t ds m => Option.rec (motive := fun _ => Res) none (fun v => ih.run X ro t0 n ((putC o.dst).put n t v) ds m) ((pc P o.op).run t m)⟩
noncomputable def mkG (P : Program) (o : Oper) (ih : RG) : RG :=
  ⟨fun X ro t0 n t ds m => Option.rec (motive := fun _ => Res) none (fun bm => Option.rec (motive := fun _ => Res) none (fun b => Bool.rec (motive := fun _ => Res) none (ih.run X ro t0 n ((putC o.dst).put n t (bm.2 m.nx)) ds (m.new b)) m.free) (XB.of bm.1)) (aAlloc P (fun x => (evC P x).get t) o.op)⟩
noncomputable def effG (P : Program) (ops : Array Oper) (D : List Nat) (i : Nat) (o : Oper) (ih : RG) : RG :=
  List.rec (motive := fun _ => RG)
    ⟨fun X ro t0 n t ds m => Option.rec (motive := fun _ => Res) none (fun r => XR.rec (motive := fun _ => Res) (fun s' => ih.run X ro t0 s'.n s'.t s'.ds s'.m) (fun v m' => some (.panic v, ⟨n, t0, ds, m'⟩)) r) (fStep X P ro ⟨n, t, ds, m⟩ o.dst o.op)⟩
    (fun _ _ _ => ⟨fun X ro t0 n t ds m => Option.rec (motive := fun _ => Res) none (fun r => XR.rec (motive := fun _ => Res) (fun s' => cond (xAgain P ops i D s') (ih.run X ro t0 s'.n s'.t s'.ds s'.m) none) (fun v m' => some (.panic v, ⟨n, t0, ds, m'⟩)) r) (fStep X P ro ⟨n, t, ds, m⟩ o.dst o.op)⟩) (againLT ops i D)
theorem effG_eq {P : Program} {ops : Array Oper} {D : List Nat} {i : Nat} {o : Oper} {ih : RG} {X : Ex} {ro : Option Nat} {t0 : Tr (Option Value)} {n : Nat} {t : Tr (Option Value)} {ds : List Deferred} {m : Mem} : (effG P ops D i o ih).run X ro t0 n t ds m =
    (fStep X P ro ⟨n, t, ds, m⟩ o.dst o.op).bind fun r => match r with | .ok s' => cond (xAgain P ops i D s') (ih.run X ro t0 s'.n s'.t s'.ds s'.m) none | .pan v m' => some (.panic v, ⟨n, t0, ds, m'⟩) := by
  have hag : againLT ops i D = [] → ∀ s', xAgain P ops i D s' = true := fun h s' => by unfold xAgain; rw [h]; rfl
  unfold effG
  cases hl : againLT ops i D with
  | nil =>
    show (Option.rec (motive := fun _ => Res) none _ (fStep X P ro ⟨n, t, ds, m⟩ o.dst o.op) : Res) = _
    rw [optRec]
    congr 1
    funext r
    cases r with
    | ok s' => show _ = cond (xAgain P ops i D s') _ none; rw [hag hl s']; rfl
    | pan v m' => rfl
  | cons x l =>
    show (Option.rec (motive := fun _ => Res) none _ (fStep X P ro ⟨n, t, ds, m⟩ o.dst o.op) : Res) = _
    rw [optRec]
    congr 1
    funext r
    cases r <;> rfl
noncomputable def goC (P : Program) (ops : Array Oper) (k : Nat) : List Nat → RG :=
  Nat.rec (motive := fun _ => List Nat → RG) (fun _ => failG) (fun _ ih D =>
    match (readyL ops D).find? (floatAt ops) with
    | some i => (match ops[i]? with | none => failG | some o => cond (slotOK o.dst) (guardG ops o (floatG P o (ih (i :: D))) (ih (i :: D))) failG)
    | none => match (readyL ops D).find? (mkAt ops) with
      | some i => (match ops[i]? with | none => failG | some o => cond (slotOK o.dst) (guardG ops o (mkG P o (ih (i :: D))) (ih (i :: D))) failG)
      | none => match readyL ops D with
        | [] => ⟨fun _ _ _ n t ds m => some (.normal, ⟨n, t, ds, m⟩)⟩
        | [i] => (match ops[i]? with | none => failG | some o => guardG ops o (effG P ops D i o (ih (i :: D))) (ih (i :: D)))
        | _ => failG) k
theorem goC_eq {X : Ex} {P : Program} {ro : Option Nat} {ops : Array Oper} {t0 : Tr (Option Value)} (k : Nat) : ∀ {D : List Nat} {n : Nat} {t : Tr (Option Value)} {ds : List Deferred} {m : Mem}, (goC P ops k D).run X ro t0 n t ds m = fGo X P ro ops t0 k D ⟨n, t, ds, m⟩ := by
  induction k with
  | zero => intro D n t ds m; rfl
  | succ k ih =>
    intro D n t ds m
    rw [fGo_eq]
    simp only [xGo]
    show (match (readyL ops D).find? (floatAt ops) with
    | some i => (match ops[i]? with | none => failG | some o => cond (slotOK o.dst) (guardG ops o (floatG P o (goC P ops k (i :: D))) (goC P ops k (i :: D))) failG)
    | none => match (readyL ops D).find? (mkAt ops) with
      | some i => (match ops[i]? with | none => failG | some o => cond (slotOK o.dst) (guardG ops o (mkG P o (goC P ops k (i :: D))) (goC P ops k (i :: D))) failG)
      | none => match readyL ops D with
        | [] => (⟨fun _ _ _ n t ds m => some (.normal, ⟨n, t, ds, m⟩)⟩ : RG)
        | [i] => (match ops[i]? with | none => failG | some o => guardG ops o (effG P ops D i o (goC P ops k (i :: D))) (goC P ops k (i :: D)))
        | _ => failG).run X ro t0 n t ds m = _
    have ih' : ∀ {D : List Nat} {n : Nat} {t : Tr (Option Value)} {ds : List Deferred} {m : Mem}, (goC P ops k D).run X ro t0 n t ds m = xGo X P ro ops t0 k D ⟨n, t, ds, m⟩ := by intro D n t ds m; rw [ih, fGo_eq]
    cases hf : (readyL ops D).find? (floatAt ops) with
    | some i =>
      simp only
      cases ho : ops[i]? with
      | none => rfl
      | some o =>
        simp only
        cases hs : slotOK o.dst with
        | false => rfl
        | true =>
          simp only [cond_true]
          rw [guardG_eq]
          congr 1
          funext b
          cases b with
          | true =>
            show (Option.rec (motive := fun _ => Res) none (fun v => (goC P ops k (i :: D)).run X ro t0 n ((putC o.dst).put n t v) ds m) ((pc P o.op).run t m) : Res) = _
            rw [optRec, pc_eq, fPure_eq, xev_eq (s := ⟨n, t, ds, m⟩)]
            simp only [cond_true]
            congr 1
            funext v
            rw [ih', putC_eq hs]
          | false =>
            simp only [cond_false, hs, cond_true]
            rw [ih', putC_eq hs]
    | none =>
      simp only
      cases hm : (readyL ops D).find? (mkAt ops) with
      | some i =>
        simp only
        cases ho : ops[i]? with
        | none => rfl
        | some o =>
          simp only
          cases hs : slotOK o.dst with
          | false => rfl
          | true =>
            simp only [cond_true]
            rw [guardG_eq]
            congr 1
            funext b
            cases b with
            | true =>
              show (Option.rec (motive := fun _ => Res) none (fun bm => Option.rec (motive := fun _ => Res) none (fun b => Bool.rec (motive := fun _ => Res) none ((goC P ops k (i :: D)).run X ro t0 n ((putC o.dst).put n t (bm.2 m.nx)) ds (m.new b)) m.free) (XB.of bm.1)) (aAlloc P (fun x => (evC P x).get t) o.op) : Res) = _
              rw [optRec, evC_eq, xev_eq (s := ⟨n, t, ds, m⟩)]
              simp only [cond_true]
              congr 1
              funext bm
              rw [optRec]
              congr 1
              funext x
              cases hfr : m.free with
              | false => rfl
              | true =>
                simp only [cond_true]
                rw [ih', putC_eq hs]
            | false =>
              simp only [cond_false, hs, cond_true]
              rw [ih', putC_eq hs]
      | none =>
        simp only
        match readyL ops D with
        | [] => rfl
        | [i] =>
          simp only
          cases ho : ops[i]? with
          | none => rfl
          | some o =>
            simp only
            rw [guardG_eq]
            congr 1
            funext b
            cases b with
            | true =>
              rw [effG_eq, fStep_eq]
              simp only [cond_true]
              congr 1
              funext r
              cases r with
              | ok s' => simp only [ih']
              | pan v m' => rfl
            | false =>
              simp only [cond_false]
              cases hs : slotOK o.dst with
              | false => rfl
              | true =>
                simp only [cond_true]
                rw [ih', putC_eq hs]
        | _ :: _ :: _ => rfl

/-! ### What comes before in each order, by bits -/
def setM (m : Nat) : List Nat → Nat
  | [] => m
  | j :: l => setM (m ||| (1 <<< j)) l
theorem setM_bit {i : Nat} (l : List Nat) : ∀ {m : Nat}, (setM m l).testBit i = true → m.testBit i = true ∨ i ∈ l := by
  have _ := PR.prog
  induction l with
  | nil => intro m h; exact .inl h
  | cons j l ih =>
    intro m h
    rcases ih h with h | h
    · rw [Nat.testBit_or, Bool.or_eq_true] at h
      rcases h with h | h
      · exact .inl h
      · rw [Nat.one_shiftLeft, Nat.testBit_two_pow] at h
        have := of_decide_eq_true h
        exact .inr (by rw [this]; exact List.mem_cons_self)
    · exact .inr (List.mem_cons_of_mem _ h)
def passM (ops : Array Oper) : Nat → Nat → Nat
  | 0, m => m
  | j + 1, m => passM ops j (cond (m.testBit j) (setM m (depsOf ops j)) m)
def stepA (ops : Array Oper) (S : List Nat) : List Nat := S ++ ((S.flatMap (depsOf ops)).filter fun j => !S.contains j).eraseDups
theorem ancOf_step (ops : Array Oper) (k : Nat) : ∀ S, ancOf ops (k + 1) S = stepA ops (ancOf ops k S) := by
  have _ := PR.prog
  induction k with
  | zero => intro S; rfl
  | succ k ih => intro S; show ancOf ops (k + 1) (stepA ops S) = stepA ops (ancOf ops k (stepA ops S)); exact ih _
theorem stepA_self {ops : Array Oper} {S : List Nat} {i : Nat} (h : i ∈ S) : i ∈ stepA ops S := by
  have _ := PR.prog
  exact List.mem_append_left _ h
theorem stepA_dep {ops : Array Oper} {S : List Nat} {i j : Nat} (hj : j ∈ S) (h : i ∈ depsOf ops j) : i ∈ stepA ops S := by
  have _ := PR.prog
  by_cases hi : i ∈ S
  · exact stepA_self hi
  · refine List.mem_append_right _ (List.mem_eraseDups.2 (List.mem_filter.2 ⟨List.mem_flatMap.2 ⟨j, hj, h⟩, ?_⟩))
    simpa using hi
theorem passM_anc {ops : Array Oper} {S : List Nat} (n : Nat) : ∀ {t m : Nat}, (∀ i, m.testBit i = true → i ∈ ancOf ops t S) → ∀ i, (passM ops n m).testBit i = true → i ∈ ancOf ops (t + n) S := by
  induction n with
  | zero => intro t m h i hi; exact h i hi
  | succ n ih =>
    intro t m h i hi
    rw [show t + (n + 1) = (t + 1) + n by omega]
    refine ih (t := t + 1) (fun i hi => ?_) i hi
    rw [ancOf_step]
    cases hb : m.testBit n with
    | false => rw [hb] at hi; exact stepA_self (h i hi)
    | true =>
      rw [hb] at hi
      rcases setM_bit _ hi with hi | hi
      · exact stepA_self (h i hi)
      · exact stepA_dep (h n hb) hi
def ancM (ops : Array Oper) (y : Nat) : Nat := passM ops ops.size (setM 0 (depsOf ops y))
def closedM (ops : Array Oper) (M : Nat) : Bool := (List.range ops.size).all fun j => cond (M.testBit j) ((depsOf ops j).all fun i => M.testBit i) true
/-- Those that must come to the same again, by bits. -/
def againN (ops : Array Oper) (y : Nat) (D : List Nat) : List Nat :=
  cond (closedM ops (ancM ops y) && (depsOf ops y).all fun i => (ancM ops y).testBit i) (D.filter fun i => cond (againAt ops i) (!(ancM ops y).testBit i) false) (againLT ops y D)
theorem closed_anc {ops : Array Oper} {M : Nat} (hM : closedM ops M = true) (k : Nat) : ∀ {S : List Nat}, (∀ i ∈ S, M.testBit i = true) → ∀ i ∈ ancOf ops k S, M.testBit i = true := by
  have _ := PR.prog
  induction k with
  | zero => intro S h i hi; exact h i hi
  | succ k ih =>
    intro S h i hi
    refine ih (S := stepA ops S) (fun i hi => ?_) i hi
    rcases List.mem_append.1 hi with hi | hi
    · exact h i hi
    · obtain ⟨j, hj, hij⟩ := List.mem_flatMap.1 (List.mem_filter.1 (List.mem_eraseDups.1 hi)).1
      have hjs : j < ops.size := by
        unfold depsOf at hij
        cases ho : ops[j]? with
        | none => rw [ho] at hij; cases hij
        | some o => exact (Array.getElem?_eq_some_iff.1 ho).1
      have h1 := (List.all_eq_true.1 hM) j (List.mem_range.2 hjs)
      rw [h j hj] at h1
      exact (List.all_eq_true.1 h1) i hij
theorem againN_eq {ops : Array Oper} {y : Nat} {D : List Nat} : againN ops y D = againLT ops y D := by
  unfold againN
  cases hc : (closedM ops (ancM ops y) && (depsOf ops y).all fun i => (ancM ops y).testBit i) with
  | false => rfl
  | true =>
    simp only [Bool.and_eq_true] at hc
    obtain ⟨h1, h2⟩ := hc
    simp only [cond_true]
    unfold againLT
    refine List.filter_congr fun i _ => ?_
    have key : (ancM ops y).testBit i = (ancOf ops ops.size (depsOf ops y)).contains i := by
      cases hb : (ancM ops y).testBit i with
      | true =>
        have h3 := passM_anc (ops := ops) (S := depsOf ops y) ops.size (t := 0) (m := setM 0 (depsOf ops y)) (fun i hi => by
          rcases setM_bit _ hi with hi | hi
          · simp at hi
          · exact hi) i hb
        rw [Nat.zero_add] at h3
        exact (List.contains_iff_mem.2 h3).symm
      | false =>
        cases hA : (ancOf ops ops.size (depsOf ops y)).contains i with
        | false => rfl
        | true =>
          rw [List.contains_iff_mem] at hA
          rw [closed_anc h1 ops.size (fun i hi => (List.all_eq_true.1 h2) i hi) i hA] at hb
          cases hb
    rw [key]
    cases againAt ops i <;> rfl
noncomputable def xAgainN (P : Program) (ops : Array Oper) (y : Nat) (D : List Nat) (s : St) : Bool :=
  (againN ops y D).all fun i => match ops[i]? with
    | some o => match o.dst with
      | some d => match aWanted ops s.a o with
        | some true => xAgain1 P s o d
        | some false => true
        | none => true
      | none => false
    | none => false
theorem xAgainN_eq {P : Program} {ops : Array Oper} {y : Nat} {D : List Nat} {s : St} : xAgainN P ops y D s = xAgain P ops y D s := by unfold xAgainN xAgain; rw [againN_eq]; rfl
noncomputable def effN (P : Program) (ops : Array Oper) (D : List Nat) (i : Nat) (o : Oper) (ih : RG) : RG :=
  List.rec (motive := fun _ => RG)
    ⟨fun X ro t0 n t ds m => Option.rec (motive := fun _ => Res) none (fun r => XR.rec (motive := fun _ => Res) (fun s' => ih.run X ro t0 s'.n s'.t s'.ds s'.m) (fun v m' => some (.panic v, ⟨n, t0, ds, m'⟩)) r) (fStep X P ro ⟨n, t, ds, m⟩ o.dst o.op)⟩
    (fun _ _ _ => ⟨fun X ro t0 n t ds m => Option.rec (motive := fun _ => Res) none (fun r => XR.rec (motive := fun _ => Res) (fun s' => cond (xAgainN P ops i D s') (ih.run X ro t0 s'.n s'.t s'.ds s'.m) none) (fun v m' => some (.panic v, ⟨n, t0, ds, m'⟩)) r) (fStep X P ro ⟨n, t, ds, m⟩ o.dst o.op)⟩) (againN ops i D)
theorem effN_eq {P : Program} {ops : Array Oper} {D : List Nat} {i : Nat} {o : Oper} {ih : RG} : effN P ops D i o ih = effG P ops D i o ih := by
  unfold effN effG
  simp only [xAgainN_eq, againN_eq]
/-! ### In the text's order, as long as that is the order -/
def pref : Nat → List Nat
  | 0 => []
  | i + 1 => i :: pref i
theorem pref_mem {i j : Nat} : j ∈ pref i ↔ j < i := by
  have _ := PR.prog
  induction i with
  | zero => simp [pref]
  | succ i ih => simp only [pref, List.mem_cons, ih]; omega
theorem range_cut {n i : Nat} (hi : i < n) : List.range n = List.range i ++ i :: List.range' (i + 1) (n - i - 1) := by
  have _ := PR.prog
  apply List.ext_getElem?
  intro k
  by_cases h1 : k < i
  · rw [List.getElem?_append_left (by simpa using h1)]
    simp [h1, Nat.lt_trans h1 hi]
  · rw [List.getElem?_append_right (by simpa using Nat.le_of_not_lt h1)]
    simp only [List.length_range]
    by_cases h2 : k = i
    · subst h2; simp [hi]
    · obtain ⟨d, rfl⟩ : ∃ d, k = i + 1 + d := ⟨k - (i + 1), by omega⟩
      rw [show i + 1 + d - i = d + 1 by omega, List.getElem?_cons_succ]
      by_cases h3 : i + 1 + d < n
      · have h4 : d < n - i - 1 := by omega
        simp [h3, h4, List.getElem?_range']
      · have h4 : n - i - 1 ≤ d := by omega
        simp [h3, h4]
theorem find_pref {ops : Array Oper} {i : Nat} (hi : i < ops.size) (hf : floatAt ops i = true) (hd : ((depsOf ops i).all fun j => Nat.blt j i) = true) : (readyL ops (pref i)).find? (floatAt ops) = some i := by
  have _ := PR.prog
  have hn : ∀ j, j < i → readyB ops (pref i) j = false := fun j hj => by
    have : (pref i).contains j = true := by rw [List.contains_iff_mem]; exact pref_mem.2 hj
    simp only [readyB, this, Bool.not_true, Bool.false_and]
  have hy : readyB ops (pref i) i = true := by
    have h1 : (pref i).contains i = false := by
      cases h : (pref i).contains i with
      | false => rfl
      | true => rw [List.contains_iff_mem] at h; exact absurd (pref_mem.1 h) (Nat.lt_irrefl _)
    simp only [readyB, h1, Bool.not_false, Bool.true_and, List.all_eq_true]
    intro j hj
    rw [List.contains_iff_mem]
    have := (List.all_eq_true.1 hd) j hj
    exact pref_mem.2 (by simpa [Nat.blt_eq] using this)
  have hr := range_cut hi
  unfold readyL
  rw [hr, List.filter_append, List.filter_eq_nil_iff.2 (fun j hj => by rw [hn j (List.mem_range.1 hj)]; simp), List.nil_append, List.filter_cons_of_pos hy, List.find?_cons_of_pos hf]
/-- Is this one ready, and no later one? -/
def fastOne (ops : Array Oper) (i : Nat) : Bool :=
  ((depsOf ops i).all fun j => Nat.blt j i) && (List.range' (i + 1) (ops.size - i - 1)).all fun j => (depsOf ops j).any fun d => Nat.ble i d
theorem ready_one {ops : Array Oper} {i : Nat} (hi : i < ops.size) (h : fastOne ops i = true) : readyL ops (pref i) = [i] := by
  have _ := PR.prog
  unfold fastOne at h
  simp only [Bool.and_eq_true] at h
  obtain ⟨hd, hl⟩ := h
  have hn : ∀ j, j < i → readyB ops (pref i) j = false := fun j hj => by
    have : (pref i).contains j = true := by rw [List.contains_iff_mem]; exact pref_mem.2 hj
    simp only [readyB, this, Bool.not_true, Bool.false_and]
  have hnot : ∀ j, i ≤ j → (pref i).contains j = false := fun j hj => by
    cases h : (pref i).contains j with
    | false => rfl
    | true => rw [List.contains_iff_mem] at h; have := pref_mem.1 h; omega
  have hy : readyB ops (pref i) i = true := by
    simp only [readyB, hnot i (Nat.le_refl i), Bool.not_false, Bool.true_and, List.all_eq_true]
    intro j hj
    rw [List.contains_iff_mem]
    have := (List.all_eq_true.1 hd) j hj
    exact pref_mem.2 (by simpa [Nat.blt_eq] using this)
  have hlater : ∀ j ∈ List.range' (i + 1) (ops.size - i - 1), readyB ops (pref i) j = false := fun j hj => by
    have h1 := (List.all_eq_true.1 hl) j hj
    obtain ⟨d, hd1, hd2⟩ := List.any_eq_true.1 h1
    have h2 : (pref i).contains d = false := hnot d (Nat.le_of_ble_eq_true hd2)
    have h3 : (depsOf ops j).all (pref i).contains = false := by
      rw [List.all_eq_false]
      exact ⟨d, hd1, by rw [h2]; simp⟩
    simp only [readyB, h3, Bool.and_false]
  unfold readyL
  rw [range_cut hi, List.filter_append, List.filter_eq_nil_iff.2 (fun j hj => by rw [hn j (List.mem_range.1 hj)]; simp), List.nil_append, List.filter_cons_of_pos hy, List.filter_eq_nil_iff.2 (fun j hj => by rw [hlater j hj]; simp)]
noncomputable def stepG (P : Program) (ops : Array Oper) (D : List Nat) (nx : Nat → RG) : RG :=
    match (readyL ops D).find? (floatAt ops) with
    | some i => (match ops[i]? with | none => failG | some o => cond (slotOK o.dst) (guardG ops o (floatG P o (nx i)) (nx i)) failG)
    | none => match (readyL ops D).find? (mkAt ops) with
      | some i => (match ops[i]? with | none => failG | some o => cond (slotOK o.dst) (guardG ops o (mkG P o (nx i)) (nx i)) failG)
      | none => match readyL ops D with
        | [] => ⟨fun _ _ _ n t ds m => some (.normal, ⟨n, t, ds, m⟩)⟩
        | [i] => (match ops[i]? with | none => failG | some o => guardG ops o (effN P ops D i o (nx i)) (nx i))
        | _ => failG
theorem stepG_eq {P : Program} {ops : Array Oper} {k : Nat} {D : List Nat} : goC P ops (Nat.succ k) D = stepG P ops D fun j => goC P ops k (j :: D) := by
  unfold stepG
  simp only [effN_eq]
  rfl
noncomputable def oneG (P : Program) (ops : Array Oper) (i : Nat) (o : Oper) (nx : RG) : RG :=
  cond (isFloat o.op) (cond (slotOK o.dst) (guardG ops o (floatG P o nx) nx) failG)
    (cond (isMk o.op) (cond (slotOK o.dst) (guardG ops o (mkG P o nx) nx) failG) (guardG ops o (effN P ops (pref i) i o nx) nx))
theorem oneG_eq {P : Program} {ops : Array Oper} {i : Nat} {o : Oper} {nx : Nat → RG} (ho : ops[i]? = some o) (h : fastOne ops i = true) : stepG P ops (pref i) nx = oneG P ops i o (nx i) := by
  have hi : i < ops.size := (Array.getElem?_eq_some_iff.1 ho).1
  have h1 : floatAt ops i = isFloat o.op := by unfold floatAt; rw [ho]
  have h2 : mkAt ops i = isMk o.op := by unfold mkAt; rw [ho]
  unfold stepG oneG
  rw [ready_one hi h]
  cases hf : isFloat o.op with
  | true =>
    rw [hf] at h1
    rw [List.find?_cons_of_pos h1]
    simp only [ho, cond_true]
  | false =>
    rw [hf] at h1
    rw [List.find?_cons_of_neg (by rw [h1]; simp)]
    simp only [List.find?_nil, cond_false]
    cases hm : isMk o.op with
    | true =>
      rw [hm] at h2
      rw [List.find?_cons_of_pos h2]
      simp only [ho, cond_true]
    | false =>
      rw [hm] at h2
      rw [List.find?_cons_of_neg (by rw [h2]; simp)]
      simp only [List.find?_nil, ho, cond_false]
noncomputable def goN (P : Program) (ops : Array Oper) (k : Nat) : Nat → RG :=
  Nat.rec (motive := fun _ => Nat → RG) (fun _ => failG) (fun k ih i =>
    match ops[i]? with
    | none => goC P ops (Nat.succ k) (pref i)
    | some o => cond (isFloat o.op && (depsOf ops i).all fun j => Nat.blt j i)
      (cond (slotOK o.dst) (guardG ops o (floatG P o (ih (Nat.succ i))) (ih (Nat.succ i))) failG)
      (cond (fastOne ops i) (oneG P ops i o (ih (Nat.succ i)))
        (stepG P ops (pref i) fun j => cond (Nat.beq j i) (ih (Nat.succ i)) (goC P ops k (j :: pref i))))) k
theorem goN_eq {P : Program} {ops : Array Oper} (k : Nat) : ∀ i, goN P ops k i = goC P ops k (pref i) := by
  induction k with
  | zero => intro i; rfl
  | succ k ih =>
    intro i
    rw [stepG_eq]
    show (match ops[i]? with
      | none => goC P ops (Nat.succ k) (pref i)
      | some o => cond (isFloat o.op && (depsOf ops i).all fun j => Nat.blt j i)
        (cond (slotOK o.dst) (guardG ops o (floatG P o (goN P ops k (Nat.succ i))) (goN P ops k (Nat.succ i))) failG)
        (cond (fastOne ops i) (oneG P ops i o (goN P ops k (Nat.succ i)))
          (stepG P ops (pref i) fun j => cond (Nat.beq j i) (goN P ops k (Nat.succ i)) (goC P ops k (j :: pref i))))) = stepG P ops (pref i) fun j => goC P ops k (j :: pref i)
    have hih : goN P ops k (Nat.succ i) = goC P ops k (i :: pref i) := ih (i + 1)
    cases ho : ops[i]? with
    | none => exact stepG_eq
    | some o =>
      simp only
      cases hb : (isFloat o.op && (depsOf ops i).all fun j => Nat.blt j i) with
      | true =>
        simp only [Bool.and_eq_true] at hb
        have hf : floatAt ops i = true := by unfold floatAt; rw [ho]; exact hb.1
        have hi : i < ops.size := (Array.getElem?_eq_some_iff.1 ho).1
        unfold stepG
        rw [find_pref hi hf hb.2, hih]
        simp only [ho, cond_true]
      | false =>
        simp only [cond_false]
        cases h1 : fastOne ops i with
        | true =>
          simp only [cond_true]
          rw [hih]
          exact (oneG_eq (nx := fun j => goC P ops k (j :: pref i)) ho h1).symm
        | false =>
        simp only [cond_false]
        congr 1
        funext j
        cases hj : Nat.beq j i with
        | false => rfl
        | true =>
          obtain rfl := Nat.eq_of_beq_eq_true hj
          simp only [cond_true]
          exact hih

section
variable (X : Ex) (P : Program) (ro : Option Nat)
noncomputable def okDraw (ops : Array Oper) (n : Nat) : Bool := wfT ops n && ops.toList.all fun o => slotOK o.dst
noncomputable def h_draw (ops : Array Oper) (s : St) : Option (AExit × St) := cond (okDraw ops s.n) ((goN P ops (Nat.succ ops.size) 0).run X ro (xSans ops.toList s.t) s.n s.t s.ds s.m) none
noncomputable def h_ops (ops : Array Oper) (s : St) : Option (AExit × St) := (opsC P ops.toList ops.toList).run X ro s.n s.t s.ds s.m
noncomputable def h_cond (c : Operand) (p : Loc) (s : St) : Option (AExit × St) := match (evC P c).get s.t with
    | some (.bool b) => cond b (X.code ro (.l p) s) (X.code ro (.r p) s)
    | _ => none
end
/-- A piece of code, made ready. -/
structure LC where
  run : Ex → Option Nat → St → Option (AExit × St)
noncomputable def comp (P : Program) (p : Loc) : LC :=
  match codeGet p with
  | .skip => ⟨fun _ _ s => some (.normal, s)⟩
  | .label _ => ⟨fun _ _ s => some (.normal, s)⟩
  | .exit id => ⟨fun _ _ s => some (.exit id, s)⟩
  | .ret => ⟨fun _ _ s => some (.ret, s)⟩
  | .region _ ops d => cond d ⟨fun X ro s => h_draw X P ro ops s⟩ ⟨fun X ro s => h_ops X P ro ops s⟩
  | .seq _ _ => ⟨fun X ro s => f_seq X ro p s⟩
  | .cond c _ _ => ⟨fun X ro s => h_cond X P ro c p s⟩
  | .block id _ => ⟨fun X ro s => f_block X ro id p s⟩
  | .loop _ => ⟨fun X ro s => X.loop ro (.l p) s⟩
  | .rangeFunc g ps _ _ => ⟨fun X ro s => xRange X P ro g ps p s⟩
  | .scope _ => ⟨fun X ro s => f_scope X ro p s⟩
  | _ => ⟨fun _ _ _ => none⟩
noncomputable def hCode (X : Ex) (P : Program) (ro : Option Nat) (p : Loc) (s : St) : Option (AExit × St) := (comp P p).run X ro s
theorem hCode_eq (X : Ex) (P : Program) (ro : Option Nat) (p : Loc) (s : St) : hCode X P ro p s = fCode X P ro p s := by
  unfold hCode comp fCode
  cases codeGet p with
  | region id ops d =>
    cases d with
    | true =>
      show cond (okDraw ops s.n) ((goN P ops (Nat.succ ops.size) 0).run X ro (xSans ops.toList s.t) s.n s.t s.ds s.m) none = cond (okDraw ops s.n) _ none
      rw [goN_eq, show pref 0 = [] from rfl, goC_eq]
    | false => exact opsC_eq _
  | cond c x y => show h_cond X P ro c p s = f_cond X P ro c p s; unfold h_cond f_cond; rw [evC_at]; rfl
  | _ => rfl
noncomputable def hex (P : Program) (T : List Ent) (n : Nat) : Ex := Nat.rec (motive := fun _ => Ex) Ex.zero (fun _ X => ⟨hCode X P, xLoop X, xCodeS X P, xTab X P T, xDCallF X P, xRoundF X⟩) n
theorem hex_eq (P : Program) (T : List Ent) (n : Nat) : hex P T n = gex P T n := by
  induction n with
  | zero => rfl
  | succ n ih =>
    show (⟨hCode (hex P T n) P, xLoop (hex P T n), xCodeS (hex P T n) P, xTab (hex P T n) P T, xDCallF (hex P T n) P, xRoundF (hex P T n)⟩ : Ex) = (⟨fCode (gex P T n) P, xLoop (gex P T n), xCodeS (gex P T n) P, xTab (gex P T n) P T, xDCallF (gex P T n) P, xRoundF (gex P T n)⟩ : Ex)
    rw [ih]
    have e : hCode (gex P T n) P = fCode (gex P T n) P := by funext ro c s; exact hCode_eq _ _ _ _ _
    rw [e]
/-- A call is reckoned. -/
noncomputable def entH (P : Program) (T : List Ent) (n : Nat) (e : Ent) : Bool :=
  cl 50 e.r && Nat.ble e.bs.length 1000000 && Nat.ble P.globals.size e.bs.length && (match (hex P T n).call e.f e.args e.mem with | some (.ret v, _) => veq 1000 v e.r | _ => false)
theorem entH_eq (P : Program) (T : List Ent) (n : Nat) (e : Ent) : entH P T n e = entB P T n e := by unfold entH entB; rw [hex_eq]; rfl
end Go.Ab

/- ABSTRACT MEMORY, 33: the reckoner cut into parts: what is known of a state is used at each state that holds it. -/
namespace Go.Ab
open Go Go.RowKit

/-! ### Comparing trees, memory, states -/
noncomputable def allT {β : Type} (ok : Option β → Bool) (b : Tr β) : Bool :=
  Tr.rec (motive := fun _ => Bool) (ok none) (fun _ v _ il ir => Bool.rec (motive := fun _ => Bool) false (Bool.rec (motive := fun _ => Bool) false ir il) (ok v)) b
noncomputable def cmpT {α β : Type} (ok : Option α → Option β → Bool) (a : Tr α) : Tr β → Bool :=
  Tr.rec (motive := fun _ => Tr β → Bool) (fun b => allT (ok none) b)
    (fun _ v _ il ir b => Tr.rec (motive := fun _ => Bool) (Bool.rec (motive := fun _ => Bool) false (Bool.rec (motive := fun _ => Bool) false (ir .nil) (il .nil)) (ok v none))
      (fun l' v' r' _ _ => Bool.rec (motive := fun _ => Bool) false (Bool.rec (motive := fun _ => Bool) false (ir r') (il l')) (ok v v')) b) a
theorem condF {b x : Bool} (h : cond b x false = true) : b = true ∧ x = true := by cases b <;> simp_all
theorem brec {x y : Bool} (h : (Bool.rec (motive := fun _ => Bool) false x y : Bool) = true) : y = true ∧ x = true := by cases y <;> simp_all
theorem allT_get {β : Type} {ok : Option β → Bool} {b : Tr β} (h : allT ok b = true) : ∀ k, ok (b.get k) = true := by
  induction b with
  | nil => intro k; exact h
  | node l v r ihl ihr =>
    intro k
    have h' : (Bool.rec (motive := fun _ => Bool) false (Bool.rec (motive := fun _ => Bool) false (allT ok r) (allT ok l)) (ok v) : Bool) = true := h
    obtain ⟨h1, h2⟩ := brec h'
    obtain ⟨h3, h4⟩ := brec h2
    rw [Tr.get_node]
    split
    · exact h1
    · split
      · exact ihl h3 _
      · exact ihr h4 _
theorem cmpT_get {α β : Type} {ok : Option α → Option β → Bool} {a : Tr α} : ∀ {b : Tr β}, cmpT ok a b = true → ∀ k, ok (a.get k) (b.get k) = true := by
  induction a with
  | nil => intro b h k; exact allT_get (ok := ok none) h k
  | node l v r ihl ihr =>
    intro b h k
    cases b with
    | nil =>
      have h' : (Bool.rec (motive := fun _ => Bool) false (Bool.rec (motive := fun _ => Bool) false (cmpT ok r .nil) (cmpT ok l .nil)) (ok v none) : Bool) = true := h
      obtain ⟨h1, h2⟩ := brec h'
      obtain ⟨h3, h4⟩ := brec h2
      rw [Tr.get_node]
      split
      · exact h1
      · split
        · exact ihl h3 _
        · exact ihr h4 _
    | node l' v' r' =>
      have h' : (Bool.rec (motive := fun _ => Bool) false (Bool.rec (motive := fun _ => Bool) false (cmpT ok r r') (cmpT ok l l')) (ok v v') : Bool) = true := h
      obtain ⟨h1, h2⟩ := brec h'
      obtain ⟨h3, h4⟩ := brec h2
      rw [Tr.get_node, Tr.get_node]
      split
      · exact h1
      · split
        · exact ihl h3 _
        · exact ihr h4 _
/-- A slot: nothing is known, or the same. -/
def okSlot (x y : Option (Option Value)) : Bool :=
  match x with
  | some none => true
  | some (some v) => (match y with | some (some u) => veq 1000 u v | _ => false)
  | none => (match y with | none => true | some (some u) => veq 1000 u undef | _ => false)
theorem okSlot_f {S t : Tr (Option Value)} (h : cmpT okSlot S t = true) : ∀ k v, tF S k = some v → tF t k = some v := by
  intro k v hv
  have h1 := cmpT_get h k
  unfold tF at hv ⊢
  unfold okSlot at h1
  cases hs : S.get k with
  | none =>
    rw [hs] at hv h1
    cases ht : t.get k with
    | none => exact hv
    | some o =>
      rw [ht] at h1
      cases o with
      | none => cases h1
      | some u => rw [← hv]; exact congrArg some (veq_eq h1)
  | some o =>
    rw [hs] at hv h1
    cases o with
    | none => cases hv
    | some w =>
      cases ht : t.get k with
      | none => rw [ht] at h1; cases h1
      | some o =>
        rw [ht] at h1
        cases o with
        | none => cases h1
        | some u => rw [← hv]; exact congrArg some (veq_eq h1)
def esEq : List (Value × Value) → List (Value × Value) → Bool
  | [], [] => true
  | a :: l, b :: l' => veq 1000 a.1 b.1 && (veq 1000 a.2 b.2 && esEq l l')
  | _, _ => false
theorem esEq_eq : ∀ {l l' : List (Value × Value)}, esEq l l' = true → l = l' := by
  intro l
  induction l with
  | nil => intro l' h; cases l' with
    | nil => rfl
    | cons x l' => cases h
  | cons a l ih => intro l' h; cases l' with
    | nil => cases h
    | cons b l' =>
      simp only [esEq, Bool.and_eq_true] at h
      obtain ⟨a1, a2⟩ := a
      obtain ⟨b1, b2⟩ := b
      have e1 := veq_eq h.1
      have e2 := veq_eq h.2.1
      simp only at e1 e2
      rw [ih h.2.2, e1, e2]
/-- A block: nothing is known, or the same. -/
def okBlk (x y : Option XB) : Bool :=
  match x with
  | none => (match y with | none => true | _ => false)
  | some .dead => (match y with | some _ => true | none => false)
  | some (.cells cs e k) => (match y with | some (.cells cs' e' k') => (veqN 1000).2 cs cs' && (Nat.beq e e' && kEq k k') | _ => false)
  | some (.map es) => (match y with | some (.map es') => esEq es es' | _ => false)
  | some .defs => (match y with | some .defs => true | _ => false)
  | some (.loop _) => false
  | some (.iter _ _ _ _) => false
theorem kEq_eq {a b : BKind} (h : kEq a b = true) : a = b := by
  unfold kEq at h
  split at h <;> first | rfl | cases h

section
variable [PR]
noncomputable def memSub (M m : Mem) : Bool := cond (Nat.beq M.nx m.nx) (cmpT okBlk M.h m.h) false
noncomputable def dsEq (a b : List Deferred) : Bool :=
  match a, b with
  | [], [] => true
  | _, _ => false
noncomputable def stSub (S s : St) : Bool := cond (Nat.beq S.m.nx s.m.nx) (cond (Nat.beq S.n s.n) (cond (dsEq S.ds s.ds) (cond (cmpT okSlot S.t s.t) (cmpT okBlk S.m.h s.m.h) false) false) false) false
theorem cmpBlk_sub [TT] {M m : Mem} (h : cmpT okBlk M.h m.h = true) : Sub M.H m.H := by
  intro i
  have h1 := cmpT_get h i
  unfold Mem.H
  unfold okBlk at h1
  cases hM : M.h.get i with
  | none =>
    rw [hM] at h1
    cases hm : m.h.get i with
    | none => exact .inl rfl
    | some y => rw [hm] at h1; cases h1
  | some x =>
    rw [hM] at h1
    cases hm : m.h.get i with
    | none => rw [hm] at h1; cases x <;> cases h1
    | some y =>
      rw [hm] at h1
      cases x with
      | dead => exact .inr (.inl ⟨rfl, by simp⟩)
      | cells cs e k =>
        cases y with
        | cells cs' e' k' =>
          simp only [Bool.and_eq_true] at h1
          rw [(veqN_eq 1000).2 _ _ h1.1, Nat.eq_of_beq_eq_true h1.2.1, kEq_eq h1.2.2]
          exact .inl rfl
        | _ => cases h1
      | map es =>
        cases y with
        | map es' => rw [esEq_eq h1]; exact .inl rfl
        | _ => cases h1
      | defs =>
        cases y with
        | defs => exact .inl rfl
        | _ => cases h1
      | loop L => cases h1
      | iter i sn seen c => cases h1

/-! ### What is known -/
/-- A call in a memory. -/
structure EntX where
  f : FuncId
  args : List Value
  m : Mem
  r : ARes
  m' : Mem
/-- The rest of a loop in a state. -/
structure EntL where
  p : Loc
  s : St
  e : AExit
  s' : St
structure Tabs where
  ents : List Ent
  calls : List EntX
  loops : List EntL
noncomputable def findX (T : List EntX) (f : FuncId) (args : List Value) (m : Mem) : Option (ARes × Mem) :=
  List.rec (motive := fun _ => Option (ARes × Mem)) none (fun e _ ih => cond (Nat.beq e.f f) (cond (memSub e.m m) (cond ((veqN 1000).2 e.args args) (some (e.r, e.m')) ih) ih) ih) T
noncomputable def findL (T : List EntL) (ro : Option Nat) (p : Loc) (s : St) : Option (AExit × St) :=
  Option.rec (motive := fun _ => Option (AExit × St)) (List.rec (motive := fun _ => Option (AExit × St)) none (fun e _ ih => cond (Nat.beq e.s.m.nx s.m.nx) (cond (locEq e.p p) (cond (stSub e.s s) (some (e.e, e.s')) ih) ih) ih) T) (fun _ => none) ro

variable [TT]
theorem Ext.of_sub {m : NMap} {H H2 : AHeap} (h : Sub H2 H) : Ext m H m H2 := have _ := PR.prog; ⟨m.le_refl, fun ht i hi => ⟨rfl, by
  rcases h i with e | ⟨e, _⟩ | ⟨e, _⟩
  · rw [e]; exact hi
  · rw [e]; simp
  · rw [e] at ht; cases ht⟩⟩
structure XOK (P : Program) (e : EntX) : Prop where
  calls : Callable P e.f
  says : SCalls P e.f e.args e.m.H fun r' H' => r' = e.r ∧ H' = e.m'.H
/-- So many rounds at most. -/
def LRuns (P : Program) (e : EntL) (K : Nat) : Prop := ∀ (B0 : Prot) (m : NMap) (w : World) (a' : Act) (F : Fence), Rel P B0 m e.s.H w → ARel m e.s.a a' → FRel m none F → ∀ n, Code.roundsIn F n P (codeGet e.p) (LiftQ P B0 m e.s.H w fun x a H => x = e.e ∧ a = e.s'.a ∧ H = e.s'.H) K a' w
def LOK (P : Program) (e : EntL) : Prop := ∃ K, LRuns P e K
structure TabsOK (P : Program) (T : Tabs) : Prop where
  ents : ∀ e ∈ T.ents, EntOK P e
  calls : ∀ e ∈ T.calls, XOK P e
  loops : ∀ e ∈ T.loops, LOK P e
variable {P : Program}
theorem LRuns.mono {e : EntL} {K K' : Nat} (h : LRuns P e K) (hk : K ≤ K') : LRuns P e K' := fun B0 m w a' F hr ha hf n => roundsIn_mono hk (h B0 m w a' F hr ha hf n)
theorem loops_bound {T : List EntL} (h : ∀ e ∈ T, LOK P e) : ∃ K, ∀ e ∈ T, LRuns P e K := by
  induction T with
  | nil => exact ⟨0, fun e he => by cases he⟩
  | cons e T ih =>
    obtain ⟨K1, h1⟩ := h e List.mem_cons_self
    obtain ⟨K2, h2⟩ := ih fun x hx => h x (List.mem_cons_of_mem _ hx)
    refine ⟨max K1 K2, fun x hx => ?_⟩
    rcases List.mem_cons.1 hx with rfl | hx
    · exact h1.mono (by omega)
    · exact (h2 x hx).mono (by omega)
theorem findX_sound {T : List EntX} (hT : ∀ e ∈ T, XOK P e) {f : FuncId} {args : List Value} {m m' : Mem} {r : ARes} (h : findX T f args m = some (r, m')) : Callable P f ∧ SCalls P f args m.H fun r' H' => r' = r ∧ H' = m'.H := by
  induction T with
  | nil => cases h
  | cons e T ih =>
    have ih' := ih fun x hx => hT x (List.mem_cons_of_mem _ hx)
    have h' : cond (Nat.beq e.f f) (cond (memSub e.m m) (cond ((veqN 1000).2 e.args args) (some (e.r, e.m')) (findX T f args m)) (findX T f args m)) (findX T f args m) = some (r, m') := h
    cases h1 : Nat.beq e.f f with
    | false => rw [h1] at h'; exact ih' h'
    | true =>
      rw [h1] at h'
      simp only [cond_true] at h'
      cases h2 : memSub e.m m with
      | false => rw [h2] at h'; exact ih' h'
      | true =>
        rw [h2] at h'
        simp only [cond_true] at h'
        cases h3 : (veqN 1000).2 e.args args with
        | false => rw [h3] at h'; exact ih' h'
        | true =>
          rw [h3] at h'
          cases h'
          have he := hT e List.mem_cons_self
          rw [← Nat.eq_of_beq_eq_true h1, ← (veqN_eq 1000).2 _ _ h3]
          unfold memSub at h2
          exact ⟨he.calls, he.says.weaken (cmpBlk_sub (condF h2).2) fun r' H' hr => ⟨H', Sub.refl _, hr⟩⟩
theorem findL_sound {T : List EntL} {K : Nat} (hT : ∀ e ∈ T, LRuns P e K) {ro : Option Nat} {p : Loc} {s s' : St} {e : AExit} (h : findL T ro p s = some (e, s')) (B0 : Prot) (m : NMap) (w : World) (a' : Act) (F : Fence) (hr : Rel P B0 m s.H w) (ha : ARel m s.a a') (hf : FRel m ro F) (n : Nat) :
    Code.roundsIn F n P (codeGet p) (LiftQ P B0 m s.H w fun x a H => x = e ∧ a = s'.a ∧ H = s'.H) K a' w := by
  cases ro with
  | some l => cases h
  | none =>
    induction T with
    | nil => cases h
    | cons x T ih =>
      have ih' := ih fun y hy => hT y (List.mem_cons_of_mem _ hy)
      have h' : cond (Nat.beq x.s.m.nx s.m.nx) (cond (locEq x.p p) (cond (stSub x.s s) (some (x.e, x.s')) (findL T none p s)) (findL T none p s)) (findL T none p s) = some (e, s') := h
      cases h1 : Nat.beq x.s.m.nx s.m.nx with
      | false => rw [h1] at h'; exact ih' h'
      | true =>
        rw [h1] at h'
        simp only [cond_true] at h'
        cases h2 : locEq x.p p with
        | false => rw [h2] at h'; exact ih' h'
        | true =>
          rw [h2] at h'
          simp only [cond_true] at h'
          cases h3 : stSub x.s s with
          | false => rw [h3] at h'; exact ih' h'
          | true =>
            rw [h3] at h'
            cases h'
            have hx := hT x List.mem_cons_self
            rw [← locEq_eq h2]
            unfold stSub at h3
            obtain ⟨_, h3⟩ := condF h3
            obtain ⟨hn, h3⟩ := condF h3
            obtain ⟨hds, h3⟩ := condF h3
            obtain ⟨ht, h3⟩ := condF h3
            have hn := Nat.eq_of_beq_eq_true hn
            have hd : x.s.ds = [] ∧ s.ds = [] := by
              unfold dsEq at hds
              split at hds
              · exact ⟨by assumption, by assumption⟩
              · cases hds
            have hsub : Sub x.s.H s.H := cmpBlk_sub h3
            have ha2 : ARel m x.s.a a' := by
              refine ⟨⟨?_, fun t v hv => ha.1.2 t v (okSlot_f ht t v hv)⟩, ?_⟩
              · have := ha.1.1; show a'.tmps.size = x.s.n; rw [hn]; exact this
              · have := ha.2; show DsRel m x.s.ds a'.defers; rw [hd.1]; rw [show s.a.defers = s.ds from rfl, hd.2] at this; exact this
            exact roundsIn_lift (Ext.of_sub hsub) (Keep.refl _ _) (hx B0 m w a' F (hr.sub hsub) ha2 hf n)
end

/-! ### The reckoner with what is known -/
section
variable [PR]
noncomputable def yCall (X : Ex) (P : Program) (T : Tabs) (f : FuncId) (args : List Value) (m : Mem) : Option (ARes × Mem) :=
  match findX T.calls f args m with
  | some r => some r
  | none => xTab X P T.ents f args m
noncomputable def yLoop (X : Ex) (T : Tabs) (ro : Option Nat) (p : Loc) (s : St) : Option (AExit × St) :=
  match findL T.loops ro p s with
  | some r => some r
  | none => xLoop X ro p s
noncomputable def oex (P : Program) (T : Tabs) (n : Nat) : Ex := Nat.rec (motive := fun _ => Ex) Ex.zero (fun _ X => ⟨hCode X P, yLoop X T, xCodeS X P, yCall X P T, xDCallF X P, xRoundF X⟩) n
variable [TT] {P : Program}
theorem oex_sound (htt : TT.tt = true) (hP : P = PR.prog) (hmix : P.follows .mixedOrders = true) (hc : ∀ f fn c, P.funcs[f]? = some fn → fn.body = some c → Callable P f) {T : Tabs} (hT : TabsOK P T) : ∃ K, ∀ n, Sound P (n + K) (oex P T n) := by
  obtain ⟨K, hK⟩ := loops_bound hT.loops
  refine ⟨K, fun n => ?_⟩
  induction n with
  | zero => exact ⟨fun h => (by cases h), fun h => (by cases h), fun h => (by cases h), fun h => (by cases h), fun h => (by cases h), fun h => (by cases h)⟩
  | succ n ih =>
    have hcode : ∀ {ro : Option Nat} {p : Loc} {s s' : St} {e : AExit}, hCode (oex P T n) P ro p s = some (e, s') → AWp P ro (codeGet p) (fun x a H => x = e ∧ a = s'.a ∧ H = s'.H) s.a s.H := fun h => xCode_sound htt hmix ih (by rw [← fCode_eq, ← hCode_eq]; exact h)
    refine ⟨fun h => hcode h, fun {ro p s s' e} h => ?_, fun h => xCodeS_sound ih h, fun {f args m m' r} h => ?_, fun h => xDCallF_sound ih hP hc h, fun h => xRoundF_sound ih h⟩
    · have h' : yLoop (oex P T n) T ro p s = some (e, s') := h
      unfold yLoop at h'
      intro B0 m w a' F hr ha hf k
      split at h'
      · rename_i q hq
        cases h'
        exact roundsIn_mono (by omega) (findL_sound hK hq B0 m w a' F hr ha hf k)
      · have := xLoop_sound ih h' B0 m w a' F hr ha hf k
        exact roundsIn_mono (by omega) this
    · have h' : yCall (oex P T n) P T f args m = some (r, m') := h
      unfold yCall at h'
      split at h'
      · rename_i q hq
        cases h'
        exact findX_sound hT.calls hq
      · unfold xTab at h'
        split at h'
        · rename_i v hv
          cases h'
          exact tabFind_sound hT.ents hv
        · exact xCallF_sound ih hP hc h'

/-- A call is reckoned: an entry of each kind. -/
noncomputable def entO (P : Program) (T : Tabs) (n : Nat) (e : Ent) : Bool :=
  cl 50 e.r && Nat.ble e.bs.length 1000000 && Nat.ble P.globals.size e.bs.length && (match (oex P T n).call e.f e.args e.mem with | some (.ret v, _) => veq 1000 v e.r | _ => false)
theorem entO_ok (htt : TT.tt = true) (hP : P = PR.prog) (hmix : P.follows .mixedOrders = true) (hc : ∀ f fn c, P.funcs[f]? = some fn → fn.body = some c → Callable P f) {T : Tabs} (hT : TabsOK P T) {e : Ent} (n : Nat) (h : entO P T n e = true) : EntOK P e := by
  simp only [entO, Bool.and_eq_true] at h
  obtain ⟨⟨⟨h1, h2⟩, h3⟩, h4⟩ := h
  split at h4
  · rename_i v m' hv
    obtain ⟨K, hS⟩ := oex_sound htt hP hmix hc hT
    obtain ⟨p1, p2⟩ := (hS n).call hv
    exact ⟨p1, p2.mono fun r' H' hr => by rw [hr.1, veq_eq h4], h1, Nat.le_of_ble_eq_true h2, Nat.le_of_ble_eq_true h3⟩
  · cases h4
def resEq (a b : ARes) : Bool :=
  match a, b with
  | .ret u, .ret v => veq 1000 u v
  | .pan u, .pan v => veq 1000 u v
  | _, _ => false
theorem resEq_eq {a b : ARes} (h : resEq a b = true) : a = b := by
  have _ := PR.prog
  have _ := TT.tt
  unfold resEq at h
  split at h
  · rw [veq_eq h]
  · rw [veq_eq h]
  · cases h
noncomputable def entXO (P : Program) (T : Tabs) (n : Nat) (e : EntX) : Bool :=
  match (oex P T n).call e.f e.args e.m with | some (r, m') => resEq r e.r && memSub e.m' m' | _ => false
theorem entXO_ok (htt : TT.tt = true) (hP : P = PR.prog) (hmix : P.follows .mixedOrders = true) (hc : ∀ f fn c, P.funcs[f]? = some fn → fn.body = some c → Callable P f) {T : Tabs} (hT : TabsOK P T) {e : EntX} (n : Nat) (h : entXO P T n e = true) : XOK P e := by
  unfold entXO at h
  split at h
  · rename_i r m' hv
    simp only [Bool.and_eq_true] at h
    obtain ⟨K, hS⟩ := oex_sound htt hP hmix hc hT
    obtain ⟨p1, p2⟩ := (hS n).call hv
    have h2 := (condF h.2).2
    exact ⟨p1, p2.weaken (Sub.refl _) fun r' H' hr => ⟨e.m'.H, by rw [hr.2]; exact cmpBlk_sub h2, by rw [hr.1]; exact resEq_eq h.1, rfl⟩⟩
  · cases h
def exEq (a b : AExit) : Bool :=
  match a, b with
  | .normal, .normal => true
  | .ret, .ret => true
  | .exit i, .exit j => Nat.beq i j
  | .panic u, .panic v => veq 1000 u v
  | _, _ => false
theorem exEq_eq {a b : AExit} (h : exEq a b = true) : a = b := by
  have _ := PR.prog
  have _ := TT.tt
  unfold exEq at h
  split at h
  · rfl
  · rfl
  · rw [Nat.eq_of_beq_eq_true h]
  · rw [veq_eq h]
  · cases h
/-- The end of a loop, known in part. -/
noncomputable def entLO (P : Program) (T : Tabs) (n : Nat) (e : EntL) : Bool :=
  match (oex P T n).loop none e.p e.s with | some (x, s') => exEq x e.e && stSub e.s' s' | _ => false
theorem roundsIn_post {F : Fence} {n : Nat} {c : Code} {Q Q' : Exit → Act → World → Prop} (hq : ∀ e a w, Q e a w → Q' e a w) {k : Nat} : ∀ {a : Act} {w : World}, Code.roundsIn F n P c Q k a w → Code.roundsIn F n P c Q' k a w := by
  have _ := PR.prog
  have _ := TT.tt
  induction k with
  | zero => intro a w h; exact h.elim
  | succ k ih =>
    intro a w h
    rw [roundsIn_succ] at h ⊢
    refine wpIn_mono h fun e a1 w1 he => ?_
    cases e <;> first | exact ih he | exact hq _ _ _ he
theorem entLO_ok (htt : TT.tt = true) (hP : P = PR.prog) (hmix : P.follows .mixedOrders = true) (hc : ∀ f fn c, P.funcs[f]? = some fn → fn.body = some c → Callable P f) {T : Tabs} (hT : TabsOK P T) {e : EntL} (n : Nat) (h : entLO P T n e = true) : LOK P e := by
  unfold entLO at h
  split at h
  · rename_i x s' hv
    simp only [Bool.and_eq_true] at h
    obtain ⟨K, hS⟩ := oex_sound htt hP hmix hc hT
    refine ⟨n + K, fun B0 m w a' F hr ha hf k => ?_⟩
    have hx := (hS n).loop hv B0 m w a' F hr ha hf k
    have hs := h.2
    unfold stSub at hs
    obtain ⟨_, hs⟩ := condF hs
    obtain ⟨hn, hs⟩ := condF hs
    obtain ⟨hds, hs⟩ := condF hs
    obtain ⟨ht, hs⟩ := condF hs
    have hn := Nat.eq_of_beq_eq_true hn
    have hd : e.s'.ds = [] ∧ s'.ds = [] := by
      unfold dsEq at hds
      split at hds
      · exact ⟨by assumption, by assumption⟩
      · cases hds
    have hsub : Sub e.s'.H s'.H := cmpBlk_sub hs
    refine roundsIn_post (fun e2 a2 w2 hl => ?_) hx
    obtain ⟨y, a3, H3, m3, ⟨rfl, rfl, rfl⟩, hE, hr3, ha3, hB3, hx3⟩ := hl
    refine ⟨y, e.s'.a, e.s'.H, m3, ⟨exEq_eq h.1, rfl, rfl⟩, hE.trans (Ext.of_sub hsub), hr3.sub hsub, ⟨⟨?_, fun t v hv => ha3.1.2 t v (okSlot_f ht t v hv)⟩, ?_⟩, hB3, hx3⟩
    · have := ha3.1.1; show a2.tmps.size = e.s'.n; rw [hn]; exact this
    · have := ha3.2; show DsRel m3 e.s'.ds a2.defers; rw [hd.1]; rw [show s'.a.defers = s'.ds from rfl, hd.2] at this; exact this
  · cases h
end
end Go.Ab

/- ABSTRACT MEMORY, 34: states, written out. -/
namespace Go.Ab
open Go Go.RowKit
/-- Names below n, of which nothing is known. -/
noncomputable def deads (n : Nat) : Tr XB :=
  Nat.rec (motive := fun _ => Nat → Tr XB) (fun _ => .nil) (fun _ ih n => Nat.rec (motive := fun _ => Tr XB) .nil (fun k _ => .node (ih (Nat.div (Nat.succ k) 2)) (some .dead) (ih (Nat.div k 2))) n) 40 n
noncomputable def memL (n : Nat) (l : List (Nat × XB)) : Mem := ⟨List.rec (motive := fun _ => Tr XB → Tr XB) (fun t => t) (fun x _ ih t => ih (Tr.set 40 t x.1 x.2)) l (deads n), n⟩
noncomputable def slotsL (l : List (Nat × Value)) : Tr (Option Value) := List.rec (motive := fun _ => Tr (Option Value) → Tr (Option Value)) (fun t => t) (fun x _ ih t => ih (Tr.set 40 t x.1 (some x.2))) l .nil
end Go.Ab

