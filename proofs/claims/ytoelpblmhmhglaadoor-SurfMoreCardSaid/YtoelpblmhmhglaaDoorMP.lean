/- ABSTRACT MEMORY, 31: the reckoner with its operations made ready once: regions, code. -/
import Derived.Test.YtoelpblmhmhglaaDoorMO
namespace Go.Ab
open Go Go.RowKit
variable [PR]
def isEff : Op → Bool
 | .store _ _ _ | .mapUpdate _ _ _ _ | .insert _ _ _ _ | .panic _ | .defer _ | .range _ _ | .next _ _ | .entry _ => true
 | .call c => match c.callee with
  | .value _ | .invoke _ _ => true
  | _ => false
 | _ => false
abbrev Res := Option (AExit × St)
structure RC where
 run : Ex → Option Nat → Nat → Tr (Option Value) → List Deferred → Mem → Res
structure PutC where
 put : Nat → Tr (Option Value) → Value → Tr (Option Value)
noncomputable def putC (dst : Option Tmp) : PutC :=
 Option.rec (motive := fun _ => PutC) ⟨fun _ t _ => t⟩ (fun d => ⟨fun n t v => setp (pth 40 d) t (some (Bool.rec (motive := fun _ => Value) undef v (Nat.ble (Nat.succ d) n)))⟩) dst
noncomputable def stepC (P : Program) (dst : Option Tmp) (op : Op) (ih : RC) : RC :=
 Bool.rec (motive := fun _ => RC) ⟨fun _ _ _ _ _ _ => none⟩
  (Bool.rec (motive := fun _ => RC)
   (Bool.rec (motive := fun _ => RC)
    (Bool.rec (motive := fun _ => RC)
     ⟨fun X ro n t ds m => Option.rec (motive := fun _ => Res) none (fun r => XR.rec (motive := fun _ => Res) (fun s' => ih.run X ro s'.n s'.t s'.ds s'.m) (fun v m' => some (.panic v, ⟨n, t, ds, m'⟩)) r) (fStep X P ro ⟨n, t, ds, m⟩ dst op)⟩
     ⟨fun X ro n t ds m => Option.rec (motive := fun _ => Res) none (fun r => XR.rec (motive := fun _ => Res) (fun s' => ih.run X ro s'.n s'.t s'.ds s'.m) (fun v m' => some (.panic v, ⟨n, t, ds, m'⟩)) r) (xEff X P ro ⟨n, t, ds, m⟩ dst op)⟩
     (isEff op))
    ⟨fun X ro n t ds m => Option.rec (motive := fun _ => Res) none (fun bm => Option.rec (motive := fun _ => Res) none (fun b => Bool.rec (motive := fun _ => Res) none (ih.run X ro n ((putC dst).put n t (bm.2 m.nx)) ds (m.new b)) m.free) (XB.of bm.1)) (aAlloc P (fun x => (evC P x).get t) op)⟩
    (isMk op))
   ⟨fun X ro n t ds m => Option.rec (motive := fun _ => Res) none (fun v => ih.run X ro n ((putC dst).put n t v) ds m) ((pc P op).run t m)⟩
   (isFloat op))
  (slotOK dst)
noncomputable def opsC (P : Program) (ops : List Oper) (l : List Oper) : RC :=
 List.rec (motive := fun _ => RC) ⟨fun _ _ n t ds m => some (.normal, ⟨n, t, ds, m⟩)⟩
  (fun o _ ih => Option.rec (motive := fun _ => RC) (stepC P o.dst o.op ih)
   (fun _ => ⟨fun X ro n t ds m => Option.rec (motive := fun _ => Res) none (fun b => Bool.rec (motive := fun _ => Res) (Bool.rec (motive := fun _ => Res) none (ih.run X ro n ((putC o.dst).put n t undef) ds m) (slotOK o.dst)) ((stepC P o.dst o.op ih).run X ro n t ds m) b) (aWanted ⟨ops⟩ (⟨n, t, ds, m⟩ : St).a o)⟩) o.guard) l
end Go.Ab
namespace Go.Ab
open Go Go.RowKit
variable [PR]
structure RG where
 run : Ex → Option Nat → Tr (Option Value) → Nat → Tr (Option Value) → List Deferred → Mem → Res
noncomputable def guardG (ops : Array Oper) (o : Oper) (yes ih : RG) : RG :=
 Option.rec (motive := fun _ => RG) yes
  (fun _ => ⟨fun X ro t0 n t ds m => Option.rec (motive := fun _ => Res) none (fun b => Bool.rec (motive := fun _ => Res) (Bool.rec (motive := fun _ => Res) none (ih.run X ro t0 n ((putC o.dst).put n t undef) ds m) (slotOK o.dst)) (yes.run X ro t0 n t ds m) b) (aWanted ops (⟨n, t, ds, m⟩ : St).a o)⟩) o.guard
noncomputable def failG : RG := ⟨fun _ _ _ _ _ _ _ => none⟩
noncomputable def floatG (P : Program) (o : Oper) (ih : RG) : RG := ⟨fun X ro t0 n t ds m => Option.rec (motive := fun _ => Res) none (fun v => ih.run X ro t0 n ((putC o.dst).put n t v) ds m) ((pc P o.op).run t m)⟩
noncomputable def mkG (P : Program) (o : Oper) (ih : RG) : RG :=
 ⟨fun X ro t0 n t ds m => Option.rec (motive := fun _ => Res) none (fun bm => Option.rec (motive := fun _ => Res) none (fun b => Bool.rec (motive := fun _ => Res) none (ih.run X ro t0 n ((putC o.dst).put n t (bm.2 m.nx)) ds (m.new b)) m.free) (XB.of bm.1)) (aAlloc P (fun x => (evC P x).get t) o.op)⟩
noncomputable def effG (P : Program) (ops : Array Oper) (D : List Nat) (i : Nat) (o : Oper) (ih : RG) : RG :=
 List.rec (motive := fun _ => RG)
  ⟨fun X ro t0 n t ds m => Option.rec (motive := fun _ => Res) none (fun r => XR.rec (motive := fun _ => Res) (fun s' => ih.run X ro t0 s'.n s'.t s'.ds s'.m) (fun v m' => some (.panic v, ⟨n, t0, ds, m'⟩)) r) (fStep X P ro ⟨n, t, ds, m⟩ o.dst o.op)⟩
  (fun _ _ _ => ⟨fun X ro t0 n t ds m => Option.rec (motive := fun _ => Res) none (fun r => XR.rec (motive := fun _ => Res) (fun s' => cond (xAgain P ops i D s') (ih.run X ro t0 s'.n s'.t s'.ds s'.m) none) (fun v m' => some (.panic v, ⟨n, t0, ds, m'⟩)) r) (fStep X P ro ⟨n, t, ds, m⟩ o.dst o.op)⟩) (againLT ops i D)
noncomputable def goC (P : Program) (ops : Array Oper) (k : Nat) : List Nat → RG :=
 Nat.rec (motive := fun _ => List Nat → RG) (fun _ => failG) (fun _ ih D =>
  match (readyL ops D).find? (floatAt ops) with
  | some i => (match ops[i]? with | none => failG | some o => cond (slotOK o.dst) (guardG ops o (floatG P o (ih (i :: D))) (ih (i :: D))) failG)
  | none => match (readyL ops D).find? (mkAt ops) with
   | some i => (match ops[i]? with | none => failG | some o => cond (slotOK o.dst) (guardG ops o (mkG P o (ih (i :: D))) (ih (i :: D))) failG)
   | none => match readyL ops D with
    | [] => ⟨fun _ _ _ n t ds m => some (.normal, ⟨n, t, ds, m⟩)⟩
    | [i] => (match ops[i]? with | none => failG | some o => guardG ops o (effG P ops D i o (ih (i :: D))) (ih (i :: D)))
    | _ => failG) k
def setM (m : Nat) : List Nat → Nat
 | [] => m
 | j :: l => setM (m ||| (1 <<< j)) l
def passM (ops : Array Oper) : Nat → Nat → Nat
 | 0, m => m
 | j + 1, m => passM ops j (cond (m.testBit j) (setM m (depsOf ops j)) m)
def ancM (ops : Array Oper) (y : Nat) : Nat := passM ops ops.size (setM 0 (depsOf ops y))
def closedM (ops : Array Oper) (M : Nat) : Bool := (List.range ops.size).all fun j => cond (M.testBit j) ((depsOf ops j).all fun i => M.testBit i) true
def againN (ops : Array Oper) (y : Nat) (D : List Nat) : List Nat :=
 cond (closedM ops (ancM ops y) && (depsOf ops y).all fun i => (ancM ops y).testBit i) (D.filter fun i => cond (againAt ops i) (!(ancM ops y).testBit i) false) (againLT ops y D)
noncomputable def xAgainN (P : Program) (ops : Array Oper) (y : Nat) (D : List Nat) (s : St) : Bool :=
 (againN ops y D).all fun i => match ops[i]? with
  | some o => match o.dst with
   | some d => match aWanted ops s.a o with
    | some true => xAgain1 P s o d
    | some false => true
    | none => true
   | none => false
  | none => false
noncomputable def effN (P : Program) (ops : Array Oper) (D : List Nat) (i : Nat) (o : Oper) (ih : RG) : RG :=
 List.rec (motive := fun _ => RG)
  ⟨fun X ro t0 n t ds m => Option.rec (motive := fun _ => Res) none (fun r => XR.rec (motive := fun _ => Res) (fun s' => ih.run X ro t0 s'.n s'.t s'.ds s'.m) (fun v m' => some (.panic v, ⟨n, t0, ds, m'⟩)) r) (fStep X P ro ⟨n, t, ds, m⟩ o.dst o.op)⟩
  (fun _ _ _ => ⟨fun X ro t0 n t ds m => Option.rec (motive := fun _ => Res) none (fun r => XR.rec (motive := fun _ => Res) (fun s' => cond (xAgainN P ops i D s') (ih.run X ro t0 s'.n s'.t s'.ds s'.m) none) (fun v m' => some (.panic v, ⟨n, t0, ds, m'⟩)) r) (fStep X P ro ⟨n, t, ds, m⟩ o.dst o.op)⟩) (againN ops i D)
def pref : Nat → List Nat
 | 0 => []
 | i + 1 => i :: pref i
def fastOne (ops : Array Oper) (i : Nat) : Bool :=
 ((depsOf ops i).all fun j => Nat.blt j i) && (List.range' (i + 1) (ops.size - i - 1)).all fun j => (depsOf ops j).any fun d => Nat.ble i d
noncomputable def stepG (P : Program) (ops : Array Oper) (D : List Nat) (nx : Nat → RG) : RG :=
    match (readyL ops D).find? (floatAt ops) with
    | some i => (match ops[i]? with | none => failG | some o => cond (slotOK o.dst) (guardG ops o (floatG P o (nx i)) (nx i)) failG)
    | none => match (readyL ops D).find? (mkAt ops) with
     | some i => (match ops[i]? with | none => failG | some o => cond (slotOK o.dst) (guardG ops o (mkG P o (nx i)) (nx i)) failG)
     | none => match readyL ops D with
      | [] => ⟨fun _ _ _ n t ds m => some (.normal, ⟨n, t, ds, m⟩)⟩
      | [i] => (match ops[i]? with | none => failG | some o => guardG ops o (effN P ops D i o (nx i)) (nx i))
      | _ => failG
noncomputable def oneG (P : Program) (ops : Array Oper) (i : Nat) (o : Oper) (nx : RG) : RG :=
 cond (isFloat o.op) (cond (slotOK o.dst) (guardG ops o (floatG P o nx) nx) failG)
  (cond (isMk o.op) (cond (slotOK o.dst) (guardG ops o (mkG P o nx) nx) failG) (guardG ops o (effN P ops (pref i) i o nx) nx))
noncomputable def goN (P : Program) (ops : Array Oper) (k : Nat) : Nat → RG :=
 Nat.rec (motive := fun _ => Nat → RG) (fun _ => failG) (fun k ih i =>
  match ops[i]? with
  | none => goC P ops (Nat.succ k) (pref i)
  | some o => cond (isFloat o.op && (depsOf ops i).all fun j => Nat.blt j i)
   (cond (slotOK o.dst) (guardG ops o (floatG P o (ih (Nat.succ i))) (ih (Nat.succ i))) failG)
   (cond (fastOne ops i) (oneG P ops i o (ih (Nat.succ i)))
    (stepG P ops (pref i) fun j => cond (Nat.beq j i) (ih (Nat.succ i)) (goC P ops k (j :: pref i))))) k
section
variable (X : Ex) (P : Program) (ro : Option Nat)
noncomputable def okDraw (ops : Array Oper) (n : Nat) : Bool := wfT ops n && ops.toList.all fun o => slotOK o.dst
noncomputable def h_draw (ops : Array Oper) (s : St) : Option (AExit × St) := cond (okDraw ops s.n) ((goN P ops (Nat.succ ops.size) 0).run X ro (xSans ops.toList s.t) s.n s.t s.ds s.m) none
noncomputable def h_ops (ops : Array Oper) (s : St) : Option (AExit × St) := (opsC P ops.toList ops.toList).run X ro s.n s.t s.ds s.m
noncomputable def h_cond (c : Operand) (p : Loc) (s : St) : Option (AExit × St) := match (evC P c).get s.t with
    | some (.bool b) => cond b (X.code ro (.l p) s) (X.code ro (.r p) s)
    | _ => none
end
structure LC where
 run : Ex → Option Nat → St → Option (AExit × St)
noncomputable def comp (P : Program) (p : Loc) : LC :=
 match codeGet p with
 | .skip => ⟨fun _ _ s => some (.normal, s)⟩
 | .label _ => ⟨fun _ _ s => some (.normal, s)⟩
 | .exit id => ⟨fun _ _ s => some (.exit id, s)⟩
 | .ret => ⟨fun _ _ s => some (.ret, s)⟩
 | .region _ ops d => cond d ⟨fun X ro s => h_draw X P ro ops s⟩ ⟨fun X ro s => h_ops X P ro ops s⟩
 | .seq _ _ => ⟨fun X ro s => f_seq X ro p s⟩
 | .cond c _ _ => ⟨fun X ro s => h_cond X P ro c p s⟩
 | .block id _ => ⟨fun X ro s => f_block X ro id p s⟩
 | .loop _ => ⟨fun X ro s => X.loop ro (.l p) s⟩
 | .rangeFunc g ps _ _ => ⟨fun X ro s => xRange X P ro g ps p s⟩
 | .scope _ => ⟨fun X ro s => f_scope X ro p s⟩
 | _ => ⟨fun _ _ _ => none⟩
noncomputable def hCode (X : Ex) (P : Program) (ro : Option Nat) (p : Loc) (s : St) : Option (AExit × St) := (comp P p).run X ro s
noncomputable def hex (P : Program) (T : List Ent) (n : Nat) : Ex := Nat.rec (motive := fun _ => Ex) Ex.zero (fun _ X => ⟨hCode X P, xLoop X, xCodeS X P, xTab X P T, xDCallF X P, xRoundF X⟩) n
end Go.Ab
namespace Go.Ab
open Go Go.RowKit
section
variable [PR]
structure EntL where
 p : Loc
 s : St
 e : AExit
 s' : St
variable [TT]
def LRuns (P : Program) (e : EntL) (K : Nat) : Prop := ∀ (B0 : Prot) (m : NMap) (w : World) (a' : Act) (F : Fence), Rel P B0 m e.s.H w → ARel m e.s.a a' → FRel m none F → ∀ n, Code.roundsIn F n P (codeGet e.p) (LiftQ P B0 m e.s.H w fun x a H => x = e.e ∧ a = e.s'.a ∧ H = e.s'.H) K a' w
variable {P : Program}
theorem LRuns.mono {e : EntL} {K K' : Nat} (h : LRuns P e K) (hk : K ≤ K') : LRuns P e K' := fun B0 m w a' F hr ha hf n => roundsIn_mono hk (h B0 m w a' F hr ha hf n)
end
end Go.Ab
namespace Go.Ab
open Go Go.RowKit
end Go.Ab
