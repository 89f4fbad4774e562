/- ABSTRACT MEMORY, 42: what a run comes to: regions, calls, rounds, code. -/
import Derived.Test.YtoelpblmhmhglaaDoorOJ
namespace Go.Ab
open Go Go.RowKit
variable [TT] [PR]
def againP (P : Program) (ops : Array Oper) (s : St) : List Nat → Prop
 | [] => True
 | i :: l => (match ops[i]? with
  | some o => match o.dst with
   | some d => match aWanted ops s.a o with
    | some true => cond (isFloat o.op) (match s.a.f d with | some v => cAs P (s.a.eval P) s.H o.op v | none => False) (match aAlloc P (s.a.eval P) o.op, s.a.f d with | some bm, some v => (match nameOf v with | some z => v = bm.2 z ∧ s.H z = some bm.1 | none => False) | _, _ => False)
    | _ => True
   | none => False
  | none => False) ∧ againP P ops s l
def vAgain (P : Program) (ops : Array Oper) (i : Nat) (D : List Nat) (s : St) (C : HS → Prop) (hs : HS) : Prop :=
 match againLT ops i D with
 | [] => C hs
 | x :: l => match tick hs with
  | (some .again, hs) => againP P ops s (x :: l) ∧ C hs
  | (_, hs) => cond (xAgain P ops i D s) (C hs) False
def vPure (P : Program) (s : St) (op : Op) (C : Value → HS → Prop) (hs : HS) : Prop :=
 match tick hs with
 | (some (.val v), hs) => cAs P (s.a.eval P) s.H op v ∧ C v hs
 | (some (.split h1 h2), _) => match aPure P (s.a.eval P) s.H op with
  | some (.bool b) => (b = true → C (.bool true) h1) ∧ (b = false → C (.bool false) h2)
  | _ => False
 | (_, hs) => match aPure P (s.a.eval P) s.H op with
  | some v => C v hs
  | none => False
def vMake (P : Program) (s : St) (o : Oper) (C : St → HS → Prop) (hs : HS) : Prop :=
 match hs with
 | (0, .mk n cs) :: hs => match vMk P (s.a.eval P) o.op n cs with
  | some pr => pr.1 ∧ cond s.m.free (C ({ s with m := s.m.new (.cells cs pr.2 .row) }.put o.dst (.slice (some ⟨s.m.nx, 0, none⟩) n n)) hs) False
  | none => False
 | hs => match aAlloc P (s.a.eval P) o.op with
  | some bm => match XB.of bm.1 with
   | some b => cond s.m.free (C ({ s with m := s.m.new b }.put o.dst (bm.2 s.m.nx)) hs) False
   | none => False
  | none => False
def vGo (X : Vx) (P : Program) (ro : Option Nat) (ops : Array Oper) (K : AExit → St → HS → Prop) (t0 : Tr (Option Value)) : Nat → List Nat → St → HS → Prop
 | 0, _, _, _ => False
 | k + 1, D, s, hs =>
  match (readyL ops D).find? (floatAt ops) with
  | some i => match ops[i]? with
   | none => False
   | some o => cond (slotOK o.dst) (match aWanted ops s.a o with
    | some true => vPure P s o.op (fun v hs => vGo X P ro ops K t0 k (i :: D) (s.put o.dst v) hs) hs
    | some false => vGo X P ro ops K t0 k (i :: D) (s.put o.dst undef) hs
    | none => False) False
  | none => match (readyL ops D).find? (mkAt ops) with
   | some i => match ops[i]? with
    | none => False
    | some o => cond (slotOK o.dst) (match aWanted ops s.a o with
     | some true => vMake P s o (fun s' hs => vGo X P ro ops K t0 k (i :: D) s' hs) hs
     | some false => vGo X P ro ops K t0 k (i :: D) (s.put o.dst undef) hs
     | none => False) False
   | none => match readyL ops D with
    | [] => K .normal s hs
    | [i] => match ops[i]? with
     | none => False
     | some o => match aWanted ops s.a o with
      | some true => vOp X P ro s o.dst o.op (fun r hs => match r with
       | .ok s' => cond (Nat.beq s'.n s.n) (vAgain P ops i D s' (fun hs => vGo X P ro ops K t0 k (i :: D) s' hs) hs) False
       | .pan v m => K (.panic v) { s with t := t0, m := m } hs) hs
      | some false => cond (slotOK o.dst) (vGo X P ro ops K t0 k (i :: D) (s.put o.dst undef) hs) False
      | none => False
    | _ => False
def vLeave (X : Vx) (P : Program) (fn : Func) (K : ARes → Mem → HS → Prop) : List Deferred → AMode → St → HS → Prop
 | [], .ret, s, hs => match aResults P fn s.a s.H with
  | some v => K (.ret v) s.m hs
  | none => False
 | [], .pan v, s, hs => K (.pan v) s.m hs
 | [], .caught, _, _ => False
 | ⟨.collected r, _⟩ :: ds, u, s, hs => match s.m.h.get r with
  | some .defs => cond (Nat.ble r 1000000000) (vLeave X P fn K ds u { s with m := s.m.put r .dead } hs) False
  | _ => False
 | ⟨.fn (.func f) cap, args⟩ :: ds, u, s, hs => X.dcall f (args.toList ++ cap.toList) (fun _ u' m hs => vLeave X P fn K ds (aSettle u') { s with m := m } hs) u s.m hs
 | _, _, _, _ => False
noncomputable def entrySt (args : List Value) (n : Nat) (m : Mem) : St := ⟨args.length + (n - args.length), xFill args 0 .nil, [], m⟩
def vBody (X : Vx) (P : Program) (fn : Func) (K : ARes → Mem → HS → Prop) (e : AExit) (s : St) (hs : HS) : Prop :=
 match e with
 | .normal => vLeave X P fn K s.ds .ret s hs
 | .ret => vLeave X P fn K s.ds .ret s hs
 | .panic v => vLeave X P fn K s.ds (.pan v) s hs
 | _ => False
def vCallF (X : Vx) (P : Program) (f : FuncId) (args : List Value) (K : ARes → Mem → HS → Prop) (m : Mem) (hs : HS) : Prop :=
 match P.funcs[f]? with
 | some fn => match fn.body with
  | some _ => match tick hs with
   | (some (.call r m'), hs) => SCalls P f args m.H (fun r' H' => r' = r ∧ Sub m'.H H') ∧ K r m' hs
   | (some (.con C), hs) => ConOK P f C ∧ (match C.ext P.globals.size args m with | some x => C.pre x ∧ K (C.res x) m hs | none => False)
   | (some (.conW C), hs) => ConWOK P f C ∧ (match C.ext P.globals.size args m with | some x => C.pre x ∧ K (C.res x) (m.putl (atP (C.names P.globals.size args m) (C.puts x))) hs | none => False)
   | (some (.conN C), hs) => ConNOK P f C ∧ (match C.con.ext P.globals.size args m with
    | some x => C.pre x ∧ cond (m.frees (rowsX (C.news x)) && (keysLt m.nx m.h id && Nat.ble P.globals.size m.nx)) (K (.ret (resR C.one m.nx (C.res x))) (m.news (rowsX (C.news x))) hs) False
    | none => False)
   | (_, hs) => cond (Nat.ble args.length 1000000) (X.code none (.top f) (vBody X P fn K) (entrySt args fn.ntmps m) hs) False
  | none => False
 | none => False
def vBodyS (P : Program) (fn : Func) (K : Value → AMode → Mem → HS → Prop) (e : AExit) (u : AMode) (s : St) (hs : HS) : Prop :=
 match e, s.ds with
 | .normal, [] => match aResults P fn s.a s.H with
  | some v => K v u s.m hs
  | none => False
 | .ret, [] => match aResults P fn s.a s.H with
  | some v => K v u s.m hs
  | none => False
 | _, _ => False
def vDCallF (X : Vx) (P : Program) (f : FuncId) (args : List Value) (K : Value → AMode → Mem → HS → Prop) (u : AMode) (m : Mem) (hs : HS) : Prop :=
 match P.funcs[f]? with
 | some fn => match fn.body with
  | some _ => cond (Nat.ble args.length 1000000) (X.codeS (.top f) (vBodyS P fn K) u (entrySt args fn.ntmps m) hs) False
  | none => False
 | none => False
def vEndRound (l : Nat) (jump : Option Code) (K : ARes → Mem → HS → Prop) (m : Mem) (hs : HS) : Prop :=
 match m.h.get l with
 | some (.loop L) => K (.ret (.bool jump.isNone)) (m.put l (.loop { L with state := if jump.isNone then .ready else .done, pending := jump })) hs
 | _ => False
def vRoundEnd (l : Nat) (K : ARes → Mem → HS → Prop) (e : AExit) (s : St) (hs : HS) : Prop :=
 match e with
 | .normal => vEndRound l none K s.m hs
 | .ret => vEndRound l (some .ret) K s.m hs
 | .exit id => vEndRound l (some (.exit id)) K s.m hs
 | _ => False
def vRoundMid (X : Vx) (l : Nat) (p : Loc) (K : ARes → Mem → HS → Prop) (e : AExit) (s : St) (hs : HS) : Prop :=
 match e with
 | .normal => match s.m.h.get l with
  | some (.loop L2) => match L2.state with
   | .ready => X.code (some l) (.r p) (vRoundEnd l K) { s with m := s.m.put l (.loop { L2 with state := .busy }) } hs
   | _ => False
  | _ => False
 | _ => False
def vRoundF (X : Vx) (l : Nat) (args : List Value) (K : ARes → Mem → HS → Prop) (m : Mem) (hs : HS) : Prop :=
 cond (Nat.ble l 1000000000)
  (match m.h.get l with
  | some (.loop L) =>
   cond (Nat.beq args.length L.params.size && L.params.toList.all fun d => Nat.ble d 1000000000)
    (X.code (some l) (.l L.loc) (vRoundMid X l L.loc K) ⟨L.n, xSetPs L.n L.t (L.params.toList.zip args), [], m⟩ hs)
    False
  | _ => False)
  False
def vRangeEnd (l : Nat) (s : St) (K : AExit → St → HS → Prop) (r : ARes) (m : Mem) (hs : HS) : Prop :=
 match r with
 | .pan v => K (.panic v) { s with m := m } hs
 | .ret _ => match m.h.get l with
  | some (.loop L) =>
   match L.state with
   | .busy => False
   | _ => match L.pending with
    | none => K .normal { s with m := m.put l .dead } hs
    | some .ret => K .ret { s with m := m.put l .dead } hs
    | some (.exit id) => K (.exit id) { s with m := m.put l .dead } hs
    | _ => False
  | _ => False
def vRange (X : Vx) (P : Program) (ro : Option Nat) (g : Operand) (ps : Array Tmp) (p : Loc) (K : AExit → St → HS → Prop) (s : St) (hs : HS) : Prop :=
 match s.a.eval P g with
 | some gv => cond (isYield gv) False
  (match ro with
  | none => cond s.m.free (cond (s.m.new .defs).free
      (vFnVal X P gv [yieldOf (s.m.new .defs).nx] (vRangeEnd (s.m.new .defs).nx { s with ds := ⟨.collected s.m.nx, #[]⟩ :: s.ds } K) ((s.m.new .defs).new (.loop ⟨.ready, none, s.n, s.t, ps, p⟩)) hs) False) False
  | some l0 => match s.m.h.get l0 with
   | some (.loop _) => cond s.m.free (vFnVal X P gv [yieldOf s.m.nx] (vRangeEnd s.m.nx s K) (s.m.new (.loop ⟨.ready, none, s.n, s.t, ps, p⟩)) hs) False
   | _ => False)
 | none => False
def vThen (C : St → HS → Prop) (K : AExit → St → HS → Prop) (e : AExit) (s : St) (hs : HS) : Prop :=
 match e with
 | .normal => C s hs
 | e => K e s hs
def vInBlock (id : Nat) (K : AExit → St → HS → Prop) (e : AExit) (s : St) (hs : HS) : Prop :=
 match e with
 | .exit id' => K (if id' = id then .normal else .exit id') s hs
 | e => K e s hs
def vScope (K : AExit → St → HS → Prop) (e : AExit) (s : St) (hs : HS) : Prop :=
 match e with
 | .goto _ => False
 | e => K e s hs
def LoopOK (P : Program) (ro : Option Nat) (p : Loc) (T : Tm) (x : Hx) (e : AExit) (T' : Tm) (x' : Hx) : Prop :=
 AWp P ro (.loop (codeGet (.l p))) (fun q a H => q = e ∧ a = (T'.inst x').a ∧ H = (T'.inst x').H) (T.inst x).a (T.inst x).H
def LoopOW (P : Program) (ro : Option Nat) (p : Loc) (T : Tw) (x : Hw) (e : AExit) (T' : Tw) (x' : Hw) : Prop :=
 AWp P ro (.loop (codeGet (.l p))) (fun q a H => q = e ∧ a = (T'.inst x').a ∧ H = (T'.inst x').H) (T.inst x).a (T.inst x).H
def vCode (X : Vx) (P : Program) (ro : Option Nat) (p : Loc) (K : AExit → St → HS → Prop) (s : St) (hs : HS) : Prop :=
 match codeGet p with
 | .skip => K .normal s hs
 | .label _ => K .normal s hs
 | .exit id => K (.exit id) s hs
 | .ret => K .ret s hs
 | .region _ ops false => vOps X P ro ops.toList K ops.toList s hs
 | .region _ ops true => cond (wfT ops s.n && ops.toList.all fun o => slotOK o.dst) (vGo X P ro ops K (xSans ops.toList s.t) (Nat.succ ops.size) [] s hs) False
 | .seq _ _ => X.code ro (.l p) (vThen (X.code ro (.r p) K) K) s hs
 | .cond c _ _ => match s.a.eval P c with
  | some (.bool b) => match tick hs with
   | (some (.split h1 h2), _) => (b = true → X.code ro (.l p) K s h1) ∧ (b = false → X.code ro (.r p) K s h2)
   | (_, hs) => cond b (X.code ro (.l p) K s hs) (X.code ro (.r p) K s hs)
  | _ => False
 | .block id _ => X.code ro (.l p) (vInBlock id K) s hs
 | .loop _ => match tick hs with
  | (some (.loopT T e T' f), hs) => cond (keysLt T.k s.m.h id && (Nat.beq T.k T.blocks.length && Nat.ble P.globals.size T.k))
      (match T.ext [] s with | some x => Atoms x.ls ∧ LoopOK P ro p T x e T' (f x) ∧ K e (T'.inst (f x)) hs | none => False) False
  | (some (.loopW T e T' f), hs) => cond (keysLt T.k s.m.h id && (Nat.beq T.k T.blocks.length && Nat.ble P.globals.size T.k))
      (match T.ext [] s with | some x => ClW x ∧ LoopOW P ro p T x e T' (f x) ∧ K e (T'.inst (f x)) hs | none => False) False
  | (some (.loop e s'), hs) => AWp P ro (.loop (codeGet (.l p))) (fun x a H => x = e ∧ Fgt s' a H) s.a s.H ∧ K e s' hs
  | (_, hs) => X.loop ro (.l p) K s hs
 | .rangeFunc g ps _ _ => vRange X P ro g ps p K s hs
 | .scope _ => X.code ro (.l p) (vScope K) s hs
 | _ => False
def vLoop (X : Vx) (ro : Option Nat) (p : Loc) (K : AExit → St → HS → Prop) (s : St) (hs : HS) : Prop :=
 X.code ro p (vThen (X.loop ro p K) K) s hs
def vThenS (C : AMode → St → HS → Prop) (K : AExit → AMode → St → HS → Prop) (e : AExit) (u : AMode) (s : St) (hs : HS) : Prop :=
 match e with
 | .normal => C u s hs
 | e => K e u s hs
def vCodeS (X : Vx) (P : Program) (p : Loc) (K : AExit → AMode → St → HS → Prop) (u : AMode) (s : St) (hs : HS) : Prop :=
 match codeGet p with
 | .seq _ _ => X.codeS (.l p) (vThenS (X.codeS (.r p) K) K) u s hs
 | .cond c _ _ => match s.a.eval P c with
  | some (.bool b) => cond b (X.codeS (.l p) K u s hs) (X.codeS (.r p) K u s hs)
  | _ => False
 | .region _ ops false => cond (ops.toList.any fun o => isRecover o.op)
     (match xSOps P ops.toList u s with
     | some (e, u', s') => K e u' s' hs
     | none => False)
     (X.code none p (fun e s hs => K e u s hs) s hs)
 | _ => X.code none p (fun e s hs => K e u s hs) s hs
noncomputable def vex (P : Program) (n : Nat) : Vx := Nat.rec (motive := fun _ => Vx) Vx.zero (fun _ X => ⟨vCode X P, vLoop X, vCodeS X P, vCallF X P, vDCallF X P, vRoundF X⟩) n
end Go.Ab
