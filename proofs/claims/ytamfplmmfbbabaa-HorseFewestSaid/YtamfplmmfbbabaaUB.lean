/- ABSTRACT MEMORY, 14: a function from its body. -/
import Derived.Test.YtamfplmmfbbabaaUA
import Derived.RangeFuncRecord
import Derived.RecoverIn
import Derived.Orders
namespace Go.Ab
open Go Go.RowKit
variable [TT]
def aResult (P : Program) (a : AAct) (H : AHeap) : ResultVar → Option Value
  | .tmp t => a.f t
  | .cell x t => match a.f x with
    | some (.pointer (some ⟨i, o, none⟩)) => loadV P t H i o
    | _ => none
def aResList (P : Program) (a : AAct) (H : AHeap) : List ResultVar → Option (List Value)
  | [] => some []
  | r :: rs => (aResult P a H r).bind fun v => (aResList P a H rs).map (v :: ·)
def oneOf : List Value → Value
  | [v] => v
  | vs => .tuple ⟨vs⟩
def aResults (P : Program) (fn : Func) (a : AAct) (H : AHeap) : Option Value := (aResList P a H fn.results.toList).map oneOf
inductive AMode where
  | ret
  | pan (v : Value)
  | caught
def MRel (m : NMap) : AMode → FrameMode → Prop
  | .ret, u => u = .returning
  | .pan v, u => ∃ v', u = .panicking [{ v := v', recovered := false }] ∧ VRel m v v'
  | .caught, u => ∃ v', u = .panicking [{ v := v', recovered := true }]
def aSettle : AMode → AMode
  | .caught => .ret
  | u => u
def SDCalls (P : Program) (f : FuncId) (args : List Value) (u : AMode) (H : AHeap) (R : Value → AMode → AHeap → Prop) : Prop :=
  ∀ (B0 : Prot) (m : NMap) (w : World) (args' : List Value) (u' : FrameMode), Rel P B0 m H w → VsRel m args args' → MRel m u u' → ∀ n,
    CallsDIn Fence.wide n P f ⟨args'⟩ u' w fun e u2' w' => ∃ v v' u2 H' m', R v u2 H' ∧ Ext m H m' H' ∧ Rel P B0 m' H' w' ∧ Keep B0 w w' ∧ e = .returned v' ∧ VRel m' v v' ∧ MRel m' u2 u2'
def ALeave (P : Program) (fn : Func) (R : ARes → AHeap → Prop) : List Deferred → AMode → AAct → AHeap → Prop
  | [], .ret, a, H => bindO (aResults P fn a H) fun v => R (.ret v) H
  | [], .pan v, _, H => R (.pan v) H
  | [], .caught, _, _ => False
  | ⟨.collected r, _⟩ :: ds, u, a, H => (H r = some .defs) ∧ ALeave P fn R ds u a (del H r)
  | ⟨.fn (.func f) cap, args⟩ :: ds, u, a, H => Callable P f ∧ SDCalls P f (args.toList ++ cap.toList) u H (fun _ u' H' => ALeave P fn R ds (aSettle u') a H')
  | _, _, _, _ => False
def ABody (P : Program) (fn : Func) (R : ARes → AHeap → Prop) : AExit → AAct → AHeap → Prop
  | .normal, a, H | .ret, a, H => ALeave P fn R a.defers .ret a H
  | .panic v, a, H => ALeave P fn R a.defers (.pan v) a H
  | _, _, _ => False
def aEntry (args : List Value) (n : Nat) : AAct := { n := args.length + (n - args.length), f := fun t => if t < args.length then args[t]? else some undef, defers := [] }
section
variable {P : Program} {B0 : Prot} {m : NMap} {H : AHeap} {w w' : World} {a : AAct} {a' : Act} {R : ARes → AHeap → Prop}
def resF (tmps : Array Value) : ResultVar → Sem Value
  | .tmp t => pure (tmps.getD t undef)
  | .cell x t => do loadVar t (← asAddr (tmps.getD x undef))
theorem results_eq (fn : Func) (tmps : Array Value) : results fn tmps = (do let vs ← fn.results.mapM (resF tmps); pure (if h : vs.size = 1 then vs[0] else .tuple vs)) := by
  have _ := TT.tt
  unfold results
  congr 1
theorem aResult_sound (hr : Rel P B0 m H w) (ha : TRel m ⟨a.n, a.f⟩ a'.tmps) {r : ResultVar} {v : Value} (h : aResult P a H r = some v) :
    ∃ v', (resF a'.tmps r).run P w = .ok v' w ∧ VRel m v v' := by
  cases r with
  | tmp t => exact ⟨_, rfl, ha.2 t v h⟩
  | cell x t =>
    simp only [aResult] at h
    split at h
    · rename_i i o hx
      obtain ⟨f, hm, e⟩ := (ha.2 x _ hx).ptr_inv
      obtain ⟨v', h1, h2⟩ := loadV_sound hr hm h
      exact ⟨v', by simp [resF, e, asAddr, h1], h2⟩
    · cases h
theorem results_sound {fn : Func} (hr : Rel P B0 m H w) (ha : TRel m ⟨a.n, a.f⟩ a'.tmps) {v : Value} (h : aResults P fn a H = some v) :
    ∃ v', (results fn a'.tmps).run P w = .ok v' w ∧ VRel m v v' := by
  unfold aResults at h
  cases hl : aResList P a H fn.results.toList with
  | none => rw [hl] at h; cases h
  | some vs =>
    rw [hl] at h
    cases h
    have key : ∀ (l : List ResultVar) vs, aResList P a H l = some vs → ∃ vs', (l.mapM (resF a'.tmps)).run P w = .ok vs' w ∧ VsRel m vs vs' := by
      intro l
      induction l with
      | nil => intro vs h; cases h; exact ⟨[], rfl, .nil⟩
      | cons r rs ih =>
        intro vs h
        obtain ⟨v, hv, h1⟩ := option_bind_some h
        cases hl : aResList P a H rs with
        | none => rw [hl] at h1; cases h1
        | some vs1 =>
          rw [hl] at h1
          cases h1
          obtain ⟨vs', h2, h3⟩ := ih vs1 hl
          obtain ⟨v', h4, h5⟩ := aResult_sound hr ha hv
          refine ⟨v' :: vs', ?_, .cons h5 h3⟩
          rw [List.mapM_cons]
          simp only [Sem.run_bind, h4, Result.andThen_ok, h2, Sem.run_pure]
    obtain ⟨vs', h1, h2⟩ := key _ _ hl
    have hrun : (results fn a'.tmps).run P w = .ok (oneOf vs') w := by
      rw [results_eq, Array.mapM_eq_mapM_toList]
      simp only [Sem.run_bind, Sem.run_map, h1, Result.andThen_ok]
      match vs' with
      | [] => rfl
      | [x] => rfl
      | x :: y :: l => rfl
    refine ⟨_, hrun, ?_⟩
    match vs, vs', h2 with
    | [], _, h => have := h.nil_left; subst this; exact .tuple .nil .nil
    | [x], _, h =>
      obtain ⟨v', l', rfl, hv, hl⟩ := h.uncons
      have := hl.nil_left; subst this
      exact hv
    | x :: y :: l, _, h =>
      obtain ⟨v1, l1, rfl, hv, hl⟩ := h.uncons
      obtain ⟨v2, l2, rfl, hv2, hl2⟩ := hl.uncons
      exact .tuple (.cons hv (.cons hv2 hl2)) .nil
theorem Rel.shut (h : Rel P B0 m H w) {i : Nat} {b0 : ABlk} {f : BInfo} (hi : H i = some b0) (hm : m i = some f) (h0 : b0.own = true) (hsize : w.heap.size ≤ w'.heap.size)
    (hoth : ∀ k, k ≠ f.blk → k < w.heap.size → w'.heap[k]? = w.heap[k]?) : Rel P B0 m (Ab.del H i) w' where
  blocks j c g hj hg := by
    by_cases e : j = i
    · subst e; simp at hj; subst hj; trivial
    rw [del_other _ _ _ e] at hj
    have hc := h.blocks j c g hj hg
    refine hc.heap fun hd => hoth _ ?_ (hc.lt hd)
    cases ho : c.own with
    | true => exact h.inj j i c b0 g f e hj hi ho h0 hg hm
    | false =>
      have h1 := hc.ro_lt ho hd
      have h2 := (h.blocks i b0 f hi hm).own_ge h0
      exact fun e => h2 (e ▸ h1)
  inj := (h.del (by rw [hi]; simp)).inj
  fin := (h.del (by rw [hi]; simp)).fin
  base := fun k hk => Nat.lt_of_lt_of_le (h.base k hk) hsize
  glob := h.glob
  tot := (h.del (by rw [hi]; simp)).tot
theorem below_putObj {B : Prot} {k : Nat} {w : World} (hB : ¬ B k) (o : Obj) : Keep B w (w.putObj k o) := have _ := TT.tt;
  ⟨rfl, rfl, rfl, by simp, fun j hj => World.putObj_heap_other (fun e => hB (e ▸ hj))⟩
theorem settle_sound {u : AMode} {u' : FrameMode} (h : MRel m u u') : MRel m (aSettle u) (settle u') := by
  have _ := TT.tt
  cases u with
  | ret => cases h; rfl
  | pan v => obtain ⟨v', rfl, hv⟩ := h; exact ⟨v', rfl, hv⟩
  | caught => obtain ⟨v', rfl⟩ := h; rfl
theorem leaves_sound {fn : Func} {n : Nat} {m0 : NMap} {H0 : AHeap} {w0 : World} (ds : List Deferred) : ∀ {ds' : List Deferred} {u : AMode} {u' : FrameMode} {m : NMap} {w : World} {H : AHeap}, Ext m0 H0 m H → Keep B0 w0 w → Rel P B0 m H w → DsRel m ds ds' →
    TRel m ⟨a.n, a.f⟩ a'.tmps → MRel m u u' → ALeave P fn R ds u a H → LeavesInM Fence.wide n P fn a'.tmps (LiftR P B0 m0 H0 w0 R) ds' u' w := by
  induction ds with
  | nil =>
    intro ds' u u' m w H hm0 hB0 hr hd ha hu h
    cases hd
    cases u with
    | ret =>
      cases hu
      obtain ⟨v, hv, hR⟩ := h
      obtain ⟨v', h1, h2⟩ := results_sound hr ha hv
      exact ⟨v', h1, .ret v, H, m, hR, hm0, hr, hB0, v', rfl, h2⟩
    | pan v =>
      obtain ⟨v', rfl, hv⟩ := hu
      exact ⟨.pan v, H, m, h, hm0, hr, hB0, v', rfl, hv⟩
    | caught => exact h.elim
  | cons d ds ih =>
    intro ds' u u' m w H hm0 hB0 hr hd ha hu h
    have hne : u' ≠ .run := by
      cases u with
      | ret => cases hu; simp
      | pan v => obtain ⟨v', rfl, hv⟩ := hu; simp
      | caught => obtain ⟨v', rfl⟩ := hu; simp
    cases hd with
    | @mark r f _ ds2 hm hd =>
      obtain ⟨hH, h⟩ := h
      have hblk := hr.blocks r _ f hH hm
      obtain ⟨hB, hheap⟩ := hblk
      exact ⟨hne, .inl ⟨f.blk, _, rfl, run_takeDeferred hheap, ih (hm0.trans (Ext.del _ _)) (hB0.trans (below_putObj hB _)) (hr.shut hH hm rfl (by simp) fun k hk _ => World.putObj_heap_other hk) hd ha hu h⟩⟩
    | @fn fv fv' cap cap' args args' _ ds2 hfn hc hargs hd =>
      cases hfn with
      | func f =>
        obtain ⟨hcall, h⟩ := h
        refine ⟨hne, .inr ⟨fun h => (by cases h), .func f, ⟨cap'⟩, f, ⟨args' ++ cap'⟩, rfl, ?_, fun _ _ => trivial, ?_⟩⟩
        · have e1 : ((⟨args'⟩ : Array Value) ++ ⟨cap'⟩) = ⟨args' ++ cap'⟩ := by apply Array.ext'; simp
          simp only [invoke, e1]
          exact hcall _ _
        · have hx := h B0 m w _ u' hr (hargs.append hc) hu (n - 1)
          refine ⟨hx.1, fun c cs hmode hroom => ?_⟩
          obtain ⟨e, u2, w2, fr, ⟨v, v', U, H', m', hR, hm, hr', hB, he, hv, hU⟩, hs, hk, hf', hg⟩ := hx.2 c cs hmode hroom
          subst he
          exact ⟨.returned v', u2, w2, fr, ih (hm0.trans hm) (hB0.trans hB) hr' (hd.mono hm.le) (ha.mono hm.le) (settle_sound hU) hR, hs, hk, hf', hg⟩
      | _ => exact h.elim
theorem body_sound {fn : Func} {n : Nat} {e : Exit} {a1 : Act} {w1 : World} (h : LiftQ P B0 m H w (ABody P fn R) e a1 w1) : bodyPostM Fence.wide n P fn (LiftR P B0 m H w R) e a1 w1 := by
  obtain ⟨x, a, H', m', hq, hm, hr, ha, hB, hx⟩ := h
  cases x with
  | normal => cases hx; exact leaves_sound _ hm hB hr ha.2 ha.1 (u := .ret) rfl hq
  | ret => cases hx; exact leaves_sound _ hm hB hr ha.2 ha.1 (u := .ret) rfl hq
  | panic v =>
    obtain ⟨v', rfl, hv⟩ := hx
    exact leaves_sound _ hm hB hr ha.2 ha.1 (u := .pan v) ⟨v', rfl, hv⟩ hq
  | exit id => exact hq.elim
  | goto l => exact hq.elim
theorem entry_sound {args args' : List Value} (h : VsRel m args args') (n : Nat) :
    ARel m (aEntry args n) { tmps := (⟨args'⟩ : Array Value) ++ Array.replicate (n - (⟨args'⟩ : Array Value).size) undef, defers := [] } := by
  have _ := TT.tt
  have hlen := h.length
  refine ⟨⟨by simp [aEntry, hlen], fun t v ht => ?_⟩, .nil⟩
  simp only [aEntry] at ht
  split at ht
  · rename_i hlt
    obtain ⟨v', h1, h2⟩ := h.get ht
    have : (((⟨args'⟩ : Array Value) ++ Array.replicate (n - (⟨args'⟩ : Array Value).size) undef)).getD t undef = v' := by
      have hlt' : t < args'.length := by omega
      rw [List.getElem?_eq_getElem hlt'] at h1
      cases h1
      simp [Array.getD, hlt']
      intro h
      omega
    rw [this]
    exact h2
  · cases ht
    have : (((⟨args'⟩ : Array Value) ++ Array.replicate (n - (⟨args'⟩ : Array Value).size) undef)).getD t undef = undef := by
      rw [Array.getD_eq_getD_getElem?, Array.getElem?_append_right (by simp; omega), Array.getElem?_replicate]
      split <;> rfl
    rw [this]
    exact .tuple .nil .nil
theorem SCalls_of_AWp {f : FuncId} {fn : Func} {c : Code} {args : List Value} (hf : P.funcs[f]? = some fn) (hb : fn.body = some c)
    (h : AWp P none c (ABody P fn R) (aEntry args fn.ntmps) H) : SCalls P f args H R :=
  fun B0 m w args' hr hv n => callsIn_of_wp_marks hf hb trivial (wpIn_mono (h B0 m w _ Fence.wide hr (entry_sound hv _) rfl n) fun _ _ _ hl => body_sound hl)
theorem SCalls.weaken {f : FuncId} {args : List Value} {H2 : AHeap} {R' : ARes → AHeap → Prop} (h : SCalls P f args H2 R) (hH : Sub H2 H) (hr : ∀ r H', R r H' → ∃ H'', Sub H'' H' ∧ R' r H'') : SCalls P f args H R' :=
  fun B0 m w args' h1 h2 n => (h B0 m w args' (h1.sub hH) h2 n).mono fun _ _ ⟨r, H', m', a, b, c, d⟩ => let ⟨H'', s, a'⟩ := hr r H' a; ⟨r, H'', m', a', b.sub hH s, c.sub s, d⟩
end
end Go.Ab
/- ABSTRACT MEMORY, 15: a range over a function; a round. -/
namespace Go.Ab
open Go Go.RowKit
variable [TT]
def loopAt (H : AHeap) (l : Nat) : Option ALoop := (H l).bind fun | .loop L => some L | _ => none
theorem loopAt_some {H : AHeap} {l : Nat} {L : ALoop} (h : loopAt H l = some L) : H l = some (.loop L) := by
  have _ := TT.tt
  unfold loopAt at h
  obtain ⟨b, hb, h⟩ := option_bind_some h
  cases b <;> cases h
  exact hb
def ARangeEnd (l : Nat) (Q : AExit → AAct → AHeap → Prop) (a : AAct) : ARes → AHeap → Prop
  | .ret _, H => bindO (loopAt H l) fun L => L.state ≠ .busy ∧
      match L.pending with
      | none => Q .normal a (del H l)
      | some .ret => Q .ret a (del H l)
      | some (.exit id) => Q (.exit id) a (del H l)
      | _ => False
  | .pan v, H => Q (.panic v) a H
def ACallF (P : Program) (fv : Value) (args : List Value) (H : AHeap) (R : ARes → AHeap → Prop) : Prop :=
  match fv with
  | .func (.func f) ⟨first⟩ ⟨cap⟩ => Callable P f ∧ SCalls P f (first ++ args ++ cap) H R
  | .func (.via t path f ptr) ⟨first⟩ _ =>
    match first ++ args with
    | x :: rest => ∃ u, ((aFollow P path.toList t x).bind fun tv => aRecv P tv.1 tv.2 ptr) = some u ∧ Callable P f ∧ SCalls P f (u :: rest) H R
    | [] => False
  | _ => False
def yieldOf (l : Nat) : Value := .func (.yield l) ⟨[]⟩ ⟨[]⟩
def newLoop (a : AAct) (ps : Array Tmp) (assign body : Code) : ALoop := ⟨.ready, none, ⟨a.n, a.f⟩, ps, assign, body⟩
def ARange (P : Program) (ro : Option Nat) (a : AAct) (H : AHeap) (g : Operand) (ps : Array Tmp) (assign body : Code) (Q : AExit → AAct → AHeap → Prop) : Prop :=
  bindO (a.eval P g) fun gv =>
    match ro with
    | none => pick H fun r => pick (upd H r .defs) fun l =>
        ACallF P gv [yieldOf l] (upd (upd H r .defs) l (.loop (newLoop a ps assign body))) (ARangeEnd l Q { a with defers := ⟨.collected r, #[]⟩ :: a.defers })
    | some l0 => ∃ L0, H l0 = some (.loop L0) ∧ pick H fun l => ACallF P gv [yieldOf l] (upd H l (.loop (newLoop a ps assign body))) (ARangeEnd l Q a)
section
variable {P : Program} {B0 : Prot} {m : NMap} {H : AHeap} {w w' : World} {a : AAct} {a' : Act} {ro : Option Nat} {Q : AExit → AAct → AHeap → Prop} {R : ARes → AHeap → Prop}
theorem rangeCall_sound {F : Fence} {n l blk : Nat} {g : Operand} {gv : Value} {fl : BInfo} {R1 : Ending → World → Prop} (hf : FRel m ro F) (hr : Rel P B0 m H w) (hg : VRel m gv (a'.eval g)) (hl : m l = some fl) (hblk : fl.blk = blk) (h : ACallF P gv [yieldOf l] H R)
    (hR : ∀ e w1, LiftR P B0 m H w R e w1 → R1 e w1) :
    ∃ (d : Deferred) (f : FuncId) (args : Array Value), (resolve a'.eval (rangeCall g blk) 0).run P w = .ok d w ∧ (∀ f', Target.leads P w d.target d.args = some f' → F.fn f') ∧ (invoke d.target d.args).run P w = .ok (.enter f args) w ∧
      (F.depth.isSome = true → 1 ≤ n) ∧ CallsIn F (n - 1) P f args w R1 := by
  subst hblk
  have ndepth : F.depth.isSome = true → 1 ≤ n := fun h => by rw [hf.depth] at h; cases h
  have hy : VRel m (yieldOf l) (.func (.yield fl.blk) ⟨[]⟩ ⟨[]⟩) := VsRel.func (.yield hl) .nil .nil .nil
  unfold ACallF at h
  split at h
  · rename_i f first cap
    obtain ⟨hcall, h⟩ := h
    obtain ⟨fn', u', c', e, hfn, hu, hc⟩ := hg.func_inv
    cases hfn
    have hx := (h B0 m w _ hr ((hu.append (.cons hy .nil)).append hc) (n - 1)).mono hR
    refine ⟨{ target := .fn (.func f) ⟨c'⟩, args := ⟨u'⟩ ++ #[.func (.yield fl.blk) #[] #[]] }, f, ⟨u' ++ [.func (.yield fl.blk) #[] #[]] ++ c'⟩, ?_, fun f' _ => hf.fn f', ?_, ndepth, ?_⟩
    rotate_left
    rotate_left
    · exact hf.calls hx
    · have hres := resolve_value (P := P) (w := w) (a' := a') (c := rangeCall g fl.blk) (ty := 0) rfl e
      rwa [show (rangeCall g fl.blk).args.map a'.eval = #[.func (.yield fl.blk) #[] #[]] by simp [Act.eval]] at hres
    · have e1 : (((⟨u'⟩ : Array Value) ++ #[.func (.yield fl.blk) #[] #[]]) ++ ⟨c'⟩) = ⟨u' ++ [.func (.yield fl.blk) #[] #[]] ++ c'⟩ := by apply Array.ext'; simp
      simp only [invoke, e1]
      exact hcall _ _
  · rename_i t path f ptr first cap
    obtain ⟨fn', u', c', e, hfn, hu, hc⟩ := VRel.func_inv (u := first) (c := cap.toList) hg
    cases hfn
    split at h
    · rename_i x rest hxr
      obtain ⟨u2, hu2, hcall, h⟩ := h
      obtain ⟨tv, htv, hrv⟩ := option_bind_some hu2
      have hall := hu.append (.cons hy .nil)
      rw [hxr] at hall
      obtain ⟨x', rest', exr, hx', hrest⟩ := hall.uncons
      obtain ⟨q1, h1, h2⟩ := aFollow_sound (P := P) (w := w) (t2 := tv.1) (u := tv.2) hx' htv
      obtain ⟨q2, h3, h4⟩ := aRecv_sound (P := P) (w := w) (wr := none) h2 hrv
      have e1 : ((⟨u'⟩ : Array Value) ++ #[.func (.yield fl.blk) #[] #[]]) = ⟨x' :: rest'⟩ := by apply Array.ext'; simpa using exr
      have hvia : (receiverVia t x' path ptr).run P w = .ok q2 w := by
        simp only [receiverVia, Sem.run_bind, h1, Result.andThen_ok, h3]
      have e2 : (#[q2] ++ (⟨x' :: rest'⟩ : Array Value).extract 1 (⟨x' :: rest'⟩ : Array Value).size) = ⟨q2 :: rest'⟩ := by apply Array.ext'; simp
      have hx := (h B0 m w _ hr (.cons h4 hrest) (n - 1)).mono hR
      refine ⟨{ target := .fn (.via t path f ptr) ⟨c'⟩, args := ⟨u'⟩ ++ #[.func (.yield fl.blk) #[] #[]] }, f, ⟨q2 :: rest'⟩, ?_, fun f' _ => hf.fn f', ?_, ndepth, ?_⟩
      rotate_left
      rotate_left
      · exact hf.calls hx
      · have hres := resolve_value (P := P) (w := w) (a' := a') (c := rangeCall g fl.blk) (ty := 0) rfl e
        rwa [show (rangeCall g fl.blk).args.map a'.eval = #[.func (.yield fl.blk) #[] #[]] by simp [Act.eval]] at hres
      · simp only [e1, invoke]
        simp only [List.getElem?_toArray, List.getElem?_cons_zero, Sem.run_bind, hvia, Result.andThen_ok, e2]
        exact hcall _ _
    · exact h.elim
  · exact h.elim
theorem rangeEnd_sound {F : Fence} {n l : Nat} {m0 : NMap} {H0 : AHeap} {w0 : World} {fl : BInfo} (hm0 : Ext m0 H0 m H) (hB0 : Keep B0 w0 w) (ha : ARel m a a') (hl : m l = some fl) {e : Ending} {w1 : World}
    (h : LiftR P B0 m H w (ARangeEnd l Q a) e w1) : rangePost F n P fl.blk (LiftQ P B0 m0 H0 w0 Q) a' e w1 := by
  obtain ⟨r, H', m', hq, hm, hr, hB, hx⟩ := h
  cases r with
  | pan v =>
    obtain ⟨v', rfl, hv⟩ := hx
    exact ⟨.panic v, a, H', m', hq, hm0.trans hm, hr, ha.mono hm.le, hB0.trans hB, v', rfl, hv⟩
  | ret v =>
    obtain ⟨v', rfl, hv⟩ := hx
    obtain ⟨L, hL, hst, hq⟩ := hq
    have hL := loopAt_some hL
    have hblk := hr.blocks l _ fl hL (hm.le _ _ hl)
    obtain ⟨hBl, L', hheap, hs', hp', _⟩ := hblk
    have hend := run_endLoop (P := P) hheap (by rw [hs']; exact hst)
    have hrel := hr.shut (w' := w1.putObj fl.blk (.loop { L' with state := .exhausted })) hL (hm.le _ _ hl) rfl (by simp) fun k hk _ => World.putObj_heap_other hk
    have hBB := (hB0.trans hB).trans (below_putObj hBl (.loop { L' with state := .exhausted }))
    generalize w1.putObj fl.blk (.loop { L' with state := .exhausted }) = w4 at hend hrel hBB
    refine ⟨_, _, hend, ?_⟩
    rw [hp']
    split at hq
    · rename_i hp
      simp only [hp]
      exact ⟨.normal, a, _, m', hq, (hm0.trans hm).trans (Ext.del _ _), hrel, ha.mono hm.le, hBB, rfl⟩
    · rename_i hp
      simp only [hp]
      exact wpIn_ret ⟨.ret, a, _, m', hq, (hm0.trans hm).trans (Ext.del _ _), hrel, ha.mono hm.le, hBB, rfl⟩
    · rename_i id hp
      simp only [hp]
      exact wpIn_exit ⟨.exit id, a, _, m', hq, (hm0.trans hm).trans (Ext.del _ _), hrel, ha.mono hm.le, hBB, rfl⟩
    · exact hq.elim
theorem nset_same {m : NMap} {i : Nat} {f : BInfo} : nset m i f i = some f := by have _ := TT.tt; simp [nset]
theorem AWp_rangeFunc {g : Operand} {ps : Array Tmp} {assign body : Code} (h : ARange P ro a H g ps assign body Q) : AWp P ro (.rangeFunc g ps assign body) Q a H := by
  intro B0 m w a' F hr ha hf n
  refine wpIn_rangeFunc fun fn _ => ?_
  obtain ⟨gv, hgv, h⟩ := h
  have hg := eval_sound hr ha hgv
  cases ro with
  | none =>
    cases hf
    have hent := run_enterLoop_outer (P := P) (w := w) fn a'.tmps ps assign body
    obtain ⟨r, hmr, hHr, h⟩ := hr.pick h
    have hr1 := hr.alloc hmr hHr (.deferred (some [])) .defs ⟨w.heap.size, 0, 0⟩ rfl ⟨hr.newb, World.alloc_heap_new _ _⟩
    obtain ⟨l, hml, hHl, h⟩ := hr1.pick h
    have hlr : l ≠ r := by rintro rfl; simp at hHl
    have hHl0 : H l = none := by rwa [upd_other _ _ _ _ hlr] at hHl
    have hle1 : m.le (nset m r ⟨w.heap.size, 0, 0⟩) := nset_le hmr
    have hsz : (w.alloc (.deferred (some []))).heap.size = w.heap.size + 1 := World.size_alloc _ _
    have hr2 := hr1.alloc hml hHl (.loop { state := .ready, pending := none, fn, tmps := a'.tmps, params := ps, assign, body, defers := w.heap.size }) (.loop (newLoop a ps assign body)) ⟨(w.alloc (.deferred (some []))).heap.size, 0, 0⟩ rfl
      ⟨hr1.newb, _, World.alloc_heap_new _ _, rfl, rfl, ha.1.mono hle1, rfl, rfl, rfl⟩
    have hle2 : (nset m r ⟨w.heap.size, 0, 0⟩).le _ := nset_le (f := ⟨(w.alloc (.deferred (some []))).heap.size, 0, 0⟩) hml
    have hle := NMap.le_trans hle1 hle2
    have hBw : Keep B0 w ((w.alloc (.deferred (some []))).alloc (.loop { state := .ready, pending := none, fn, tmps := a'.tmps, params := ps, assign, body, defers := w.heap.size })) := ((Keep.refl B0 w).alloc hr.base _).alloc hr1.base _
    have ha2 : ARel (nset (nset m r ⟨w.heap.size, 0, 0⟩) l ⟨(w.alloc (.deferred (some []))).heap.size, 0, 0⟩) { a with defers := ⟨.collected r, #[]⟩ :: a.defers } { a' with defers := [{ target := .collected w.heap.size, args := #[] }] ++ a'.defers } :=
      ⟨ha.1.mono hle, .mark (hle2 _ _ nset_same) (ha.2.mono hle)⟩
    obtain ⟨d, f, args, h1, h2, h3, h4, h5⟩ := rangeCall_sound (n := n) (F := Fence.wide) (ro := none) rfl hr2 (hg.mono hle) nset_same hsz h
      (fun e w1 hl => rangeEnd_sound (F := Fence.wide) (n := n) (m0 := m) (H0 := H) (w0 := w) ((Ext.new hmr hHr).trans (Ext.new hml hHl)) hBw ha2 nset_same hl)
    rw [show (⟨(w.alloc (.deferred (some []))).heap.size, 0, 0⟩ : BInfo).blk = w.heap.size + 1 from hsz] at h5
    exact ⟨_, _, _, d, _, f, args, _, hent, h1, h2, h3, h4, h5⟩
  | some l0 =>
    obtain ⟨L0, hL0, h⟩ := h
    obtain ⟨f0, hm0, rfl⟩ := id hf
    have hblk := hr.blocks l0 _ f0 hL0 hm0
    obtain ⟨_, L', hheap, _⟩ := hblk
    have hent : (Instr.enterLoop fn a'.tmps ps assign body (some f0.blk)).run P w = .ok (w.heap.size, []) (w.alloc (.loop { state := .ready, pending := none, fn, tmps := a'.tmps, params := ps, assign, body, defers := L'.defers })) := by
      unfold Instr.enterLoop
      simp only [Sem.run_bind, run_getLoop hheap, run_newObj_alloc, Result.andThen, Sem.run_pure]
    obtain ⟨l, hml, hHl, h⟩ := hr.pick h
    have hr2 := hr.alloc hml hHl (.loop { state := .ready, pending := none, fn, tmps := a'.tmps, params := ps, assign, body, defers := L'.defers }) (.loop (newLoop a ps assign body)) ⟨w.heap.size, 0, 0⟩ rfl
      ⟨hr.newb, _, World.alloc_heap_new _ _, rfl, rfl, ha.1, rfl, rfl, rfl⟩
    have hle : m.le _ := nset_le (f := ⟨w.heap.size, 0, 0⟩) hml
    have hBw : Keep B0 w (w.alloc (.loop { state := .ready, pending := none, fn, tmps := a'.tmps, params := ps, assign, body, defers := L'.defers })) := (Keep.refl B0 w).alloc hr.base _
    have ha2 : ARel (nset m l ⟨w.heap.size, 0, 0⟩) a { a' with defers := [] ++ a'.defers } := ha.mono hle
    obtain ⟨d, f, args, h1, h2, h3, h4, h5⟩ := rangeCall_sound (n := n) (hf.mono hle) hr2 (hg.mono hle) nset_same rfl h
      (fun e w1 hl => rangeEnd_sound (F := Fence.wide.inRound f0.blk) (n := n) (m0 := m) (H0 := H) (w0 := w) (Ext.new hml hHl) hBw ha2 nset_same hl)
    exact ⟨_, _, _, d, _, f, args, _, hent, h1, h2, h3, h4, h5⟩
def setPs (τ : ATmps) : List (Tmp × Value) → ATmps
  | [] => τ
  | (t, v) :: l => setPs ⟨τ.n, fun s => if s = t then (if t < τ.n then some v else some undef) else τ.f s⟩ l
def endRound (l : Nat) (jump : Option Code) (H : AHeap) (R : ARes → AHeap → Prop) : Prop :=
  bindO (loopAt H l) fun L => R (.ret (.bool jump.isNone)) (upd H l (.loop { L with state := if jump.isNone then .ready else .done, pending := jump }))
def ARoundEnd (l : Nat) (R : ARes → AHeap → Prop) : AExit → AAct → AHeap → Prop
  | .normal, _, H => endRound l none H R
  | .ret, _, H => endRound l (some .ret) H R
  | .exit id, _, H => endRound l (some (.exit id)) H R
  | _, _, _ => False
def ARoundMid (P : Program) (l : Nat) (body : Code) (R : ARes → AHeap → Prop) : AExit → AAct → AHeap → Prop
  | .normal, a, H => bindO (loopAt H l) fun L => L.state = .ready ∧ AWp P (some l) body (ARoundEnd l R) a (upd H l (.loop { L with state := .busy }))
  | _, _, _ => False
theorem setPs_sound {l l' : List (Tmp × Value)} : ∀ {τ : ATmps} {tmps : Array Value}, TRel m τ tmps → l.map Prod.fst = l'.map Prod.fst → VsRel m (l.map Prod.snd) (l'.map Prod.snd) → TRel m (setPs τ l) (l'.foldl (fun tmps (t, a) => tmps.setIfInBounds t a) tmps) := by
  have _ := TT.tt
  induction l generalizing l' with
  | nil =>
    intro τ tmps h h1 h2
    cases l' with
    | nil => exact h
    | cons x l' => cases h1
  | cons x l ih =>
    intro τ tmps h h1 h2
    cases l' with
    | nil => cases h1
    | cons x' l' =>
      obtain ⟨t, v⟩ := x
      obtain ⟨t', v'⟩ := x'
      simp only [List.map_cons, List.cons.injEq] at h1 h2
      obtain ⟨rfl, h1⟩ := h1
      obtain ⟨v2, l2, e, hv, hl⟩ := VsRel.uncons h2
      cases e
      simp only [setPs, List.foldl_cons]
      refine ih ⟨by simpa using h.1, fun s u hs => ?_⟩ h1 hl
      simp only at hs
      have hsz := h.1
      split at hs
      · rename_i e
        subst e
        split at hs
        · rename_i hlt
          cases hs
          have hlt' : s < tmps.size := by rw [hsz]; exact hlt
          simpa [Array.getD, hlt'] using hv
        · rename_i hlt
          cases hs
          have hlt' : ¬ s < tmps.size := by rw [hsz]; exact hlt
          simp only [Array.getD, Array.size_setIfInBounds, hlt', dif_neg, not_false_eq_true]
          exact .tuple .nil .nil
      · rename_i e
        have := h.2 s u hs
        rw [Array.getD_eq_getD_getElem?] at this ⊢
        rwa [Array.getElem?_setIfInBounds_ne (Ne.symm e)]
theorem loop_put (hr : Rel P B0 m H w) {l : Nat} {fl : BInfo} {L : ALoop} {L' : Loop} (hH : H l = some (.loop L)) (hm : m l = some fl) (hheap : w.heap[fl.blk]? = some (.loop L')) (st : LoopState) (jump : Option Code) :
    Rel P B0 m (upd H l (.loop { L with state := st, pending := jump })) (w.putObj fl.blk (.loop { L' with state := st, pending := jump })) := by
  obtain ⟨hB, L2, hheap2, h1, h2, h3, h4, h5, h6⟩ := hr.blocks l _ fl hH hm
  rw [hheap] at hheap2
  cases hheap2
  refine hr.put hH hm rfl (by simp) (fun k hk _ => World.putObj_heap_other hk) ⟨hB, _, World.putObj_heap_same (Array.getElem?_eq_some_iff.1 hheap).1, rfl, rfl, h3, h4, h5, h6⟩
theorem endRound_sound {m0 : NMap} {H0 : AHeap} {w0 : World} {l : Nat} {fl : BInfo} (hm0 : Ext m0 H0 m H) (hB0 : Keep B0 w0 w) (hr : Rel P B0 m H w) (hm : m l = some fl) (jump : Option Code) (h : endRound l jump H R) :
    ∃ v w', (Instr.endRound fl.blk jump).run P w = .ok v w' ∧ LiftR P B0 m0 H0 w0 R (.returned v) w' := by
  obtain ⟨L, hL, hR⟩ := h
  have hL := loopAt_some hL
  obtain ⟨hB, L', hheap, _⟩ := hr.blocks l _ fl hL hm
  exact ⟨_, _, run_endRound jump hheap, _, _, m, hR, hm0.trans (Ext.upd _ _ _ _), loop_put hr hL hm hheap _ _, hB0.trans (below_putObj hB _), _, rfl, .of_atomic rfl⟩
theorem SRound_of_AWp {l : Nat} {args : List Value} {L : ALoop} (hL : H l = some (.loop L)) (hlen : args.length = L.params.size)
    (h : AWp P (some l) L.assign (ARoundMid P l L.body R) ⟨L.tmps.n, (setPs L.tmps (L.params.toList.zip args)).f, []⟩ H) : SRound P l args H R := by
  intro B0 m w args' fl hr hl hv
  obtain ⟨hB, L', hheap, hs, hp, ht, hps, has, hbd⟩ := hr.blocks l _ fl hL hl
  refine ⟨L', hheap, by rw [hv.length, hps]; exact hlen, fun n => roundIn_of_wpIn trivial ?_⟩
  have hn : (setPs L.tmps (L.params.toList.zip args)).n = L.tmps.n := by
    generalize L.params.toList.zip args = z
    generalize L.tmps = τ
    induction z generalizing τ with
    | nil => rfl
    | cons x z ih => obtain ⟨t, v⟩ := x; simp only [setPs]; rw [ih]
  have hlen' : args'.length = L.params.size := by rw [hv.length]; exact hlen
  have htm : ARel m ⟨L.tmps.n, (setPs L.tmps (L.params.toList.zip args)).f, []⟩ { tmps := (L'.params.zip ⟨args'⟩).foldl (fun tmps (t, a) => tmps.setIfInBounds t a) L'.tmps, defers := [] } := by
    refine ⟨?_, .nil⟩
    rw [hps]
    have e1 : (L.params.zip (⟨args'⟩ : Array Value)).foldl (fun tmps (t, a) => tmps.setIfInBounds t a) L'.tmps = (L.params.toList.zip args').foldl (fun tmps (t, a) => tmps.setIfInBounds t a) L'.tmps := by
      rw [← Array.foldl_toList, Array.toList_zip]
    rw [e1]
    have hz1 : (L.params.toList.zip args).map Prod.fst = L.params.toList := List.map_fst_zip (by simp [hlen])
    have hz2 : (L.params.toList.zip args').map Prod.fst = L.params.toList := List.map_fst_zip (by simp [hlen'])
    have hz3 : (L.params.toList.zip args).map Prod.snd = args := List.map_snd_zip (by simp [hlen])
    have hz4 : (L.params.toList.zip args').map Prod.snd = args' := List.map_snd_zip (by simp [hlen'])
    have := setPs_sound (m := m) (l := L.params.toList.zip args) (l' := L.params.toList.zip args') ht (by rw [hz1, hz2]) (by rw [hz3, hz4]; exact hv)
    rw [← hn]
    exact this
  rw [has, hbd]
  refine wpIn_mono (h B0 m w _ (Fence.wide.inRound fl.blk) hr htm ⟨fl, hl, rfl⟩ n) ?_
  rintro e a1 w1 ⟨x, a2, H2, m2, hq, hm2, hr2, ha2, hB2, hx⟩
  cases x with
  | normal =>
    cases hx
    obtain ⟨L2, hL2, hst, hbody⟩ := hq
    have hL2 := loopAt_some hL2
    have hl2 := hm2.le _ _ hl
    obtain ⟨hB3, L3, hheap3, hs3, hp3, _⟩ := hr2.blocks l _ fl hL2 hl2
    refine ⟨_, run_beginRound hheap3 (hs3.trans hst), ?_⟩
    have hr3 := loop_put hr2 hL2 hl2 hheap3 .busy L3.pending
    have hr3' : Rel P B0 m2 (upd H2 l (.loop { L2 with state := .busy })) (w1.putObj fl.blk (.loop { L3 with state := .busy })) := by
      rw [hp3] at hr3
      have : L3 = { L3 with pending := L2.pending } := by rw [← hp3]
      rw [this]
      exact hr3
    have hBB := hB2.trans (below_putObj hB3 (.loop { L3 with state := .busy }))
    refine wpIn_mono (hbody B0 m2 _ a1 (Fence.wide.inRound fl.blk) hr3' ha2 ⟨fl, hl2, rfl⟩ n) ?_
    rintro e4 a4 w4 ⟨x4, a4', H4, m4, hq4, hm4, hr4, ha4, hB4, hx4⟩
    have hmm := (hm2.trans (Ext.upd _ _ _ _)).trans hm4
    have hBBB := hBB.trans hB4
    cases x4 with
    | normal => cases hx4; exact endRound_sound hmm hBBB hr4 (hmm.le _ _ hl) none hq4
    | ret => cases hx4; exact endRound_sound hmm hBBB hr4 (hmm.le _ _ hl) _ hq4
    | exit id => cases hx4; exact endRound_sound hmm hBBB hr4 (hmm.le _ _ hl) _ hq4
    | goto t => exact hq4.elim
    | panic v => exact hq4.elim
  | _ => exact hq.elim
end
end Go.Ab
/- ABSTRACT MEMORY, 16: deferred calls that recover. -/
namespace Go.Ab
open Go Go.RowKit
variable [TT]
def LiftQS (P : Program) (B0 : Prot) (m : NMap) (H : AHeap) (w : World) (Q : AExit → AMode → AAct → AHeap → Prop) (c0 : Frame) (cs : List Frame) : Exit → Act → List Frame → World → Prop := fun e a' cs' w' =>
  ∃ x u a H' m' u', Q x u a H' ∧ Ext m H m' H' ∧ Rel P B0 m' H' w' ∧ ARel m' a a' ∧ Keep B0 w w' ∧ ExRel m' x e ∧ MRel m' u u' ∧ cs' = { c0 with mode := u' } :: cs
def AWpS (P : Program) (c : Code) (Q : AExit → AMode → AAct → AHeap → Prop) (u : AMode) (a : AAct) (H : AHeap) : Prop :=
  ∀ (B0 : Prot) (m : NMap) (w : World) (a' : Act) (c0 : Frame) (cs : List Frame) (u' : FrameMode), Rel P B0 m H w → ARel m a a' → MRel m u u' → ∀ n, c.wpSIn Fence.wide n P (LiftQS P B0 m H w Q c0 cs) a' ({ c0 with mode := u' } :: cs) w
def AThenS (K : AMode → AAct → AHeap → Prop) (Q : AExit → AMode → AAct → AHeap → Prop) : AExit → AMode → AAct → AHeap → Prop
  | .normal, u, a, H => K u a H
  | e, u, a, H => Q e u a H
def ASOps (P : Program) (ops : Array Oper) (Q : AExit → AMode → AAct → AHeap → Prop) : List Nat → AMode → AAct → AHeap → Prop
  | [], u, a, H => Q .normal u a H
  | i :: rest, u, a, H =>
    match ops[i]? with
    | none => ASOps P ops Q rest u a H
    | some o => o.guard = none ∧
        match o.op with
        | .call ⟨.builtin .recover, _, _⟩ =>
          match u with
          | .pan v => ASOps P ops Q rest .caught (a.put o.dst v) H
          | _ => ASOps P ops Q rest u (a.put o.dst .nilIface) H
        | op => bindO (aPure P (a.eval P) H op) fun v => ASOps P ops Q rest u (a.put o.dst v) H
def ABodyS (P : Program) (fn : Func) (R : Value → AMode → AHeap → Prop) : AExit → AMode → AAct → AHeap → Prop
  | .normal, u, a, H | .ret, u, a, H => a.defers = [] ∧ bindO (aResults P fn a H) fun v => R v u H
  | _, _, _, _ => False
section
variable {P : Program} {B0 : Prot} {m : NMap} {H : AHeap} {w w' : World} {a : AAct} {a' : Act} {u : AMode} {Q Q' : AExit → AMode → AAct → AHeap → Prop}
theorem MRel.mono {m' : NMap} {u' : FrameMode} (h : m.le m') (hu : MRel m u u') : MRel m' u u' := by
  have _ := TT.tt
  cases u with
  | ret => exact hu
  | pan v => obtain ⟨v', e, hv⟩ := hu; exact ⟨v', e, hv.mono h⟩
  | caught => exact hu
theorem LiftQS.trans {m1 : NMap} {H1 : AHeap} {w1 w2 : World} {c0 : Frame} {u1 : FrameMode} {cs cs' : List Frame} {e : Exit} (hm : Ext m H m1 H1) (hb : Keep B0 w w1) (h : LiftQS P B0 m1 H1 w1 Q { c0 with mode := u1 } cs e a' cs' w2) : LiftQS P B0 m H w Q c0 cs e a' cs' w2 := by
  obtain ⟨x, u, a, H', m', u', hq, hmm, hr, ha, hB, hx, hu, hcs⟩ := h
  exact ⟨x, u, a, H', m', u', hq, hm.trans hmm, hr, ha, hb.trans hB, hx, hu, hcs⟩
theorem wpSIn_mono {F : Fence} {n : Nat} {c : Code} {Q1 Q2 : Exit → Act → List Frame → World → Prop} {cs : List Frame} (h : c.wpSIn F n P Q1 a' cs w) (hq : ∀ e a cs w, Q1 e a cs w → Q2 e a cs w) : c.wpSIn F n P Q2 a' cs w := have _ := TT.tt;
  fun b k h1 h2 h3 h4 => let ⟨e, a', cs', w', l, q, r⟩ := h b k h1 h2 h3 h4; ⟨e, a', cs', w', l, hq _ _ _ _ q, r⟩
theorem AWpS.mono {c : Code} (h : AWpS P c Q u a H) (hq : ∀ e u a H, Q e u a H → Q' e u a H) : AWpS P c Q' u a H :=
  fun B0 m w a' c0 cs u' h1 h2 h3 n => wpSIn_mono (h B0 m w a' c0 cs u' h1 h2 h3 n) fun _ _ _ _ ⟨x, u, a, H', m', u', q, r⟩ => ⟨x, u, a, H', m', u', hq _ _ _ _ q, r⟩
theorem AWpS_of {c : Code} (h : AWp P none c (fun e a H => Q e u a H) a H) : AWpS P c Q u a H :=
  fun B0 m w a' _ _ u' hr ha hu n => wpSIn_of_wpIn rfl (wpIn_mono (h B0 m w a' Fence.wide hr ha rfl n) fun _ _ _ ⟨x, a, H', m', q, hm, hr, ha, hB, hx⟩ =>
    ⟨x, u, a, H', m', u', q, hm, hr, ha, hB, hx, hu.mono hm.le, rfl⟩)
theorem AWpS_seq {x y : Code} (h : AWpS P x (AThenS (AWpS P y Q) Q) u a H) : AWpS P (.seq x y) Q u a H := by
  intro B0 m w a' c0 cs u' hr ha hu n
  refine wpSIn_seq (wpSIn_mono (h B0 m w a' c0 cs u' hr ha hu n) ?_)
  rintro e a1 cs1 w1 ⟨x, u2, a2, H', m', u2', hq, hm, hr', ha', hB, hx, hu', hcs⟩
  subst hcs
  cases x with
  | normal =>
    cases hx
    exact wpSIn_mono (hq B0 m' w1 a1 c0 cs u2' hr' ha' hu' n) fun _ _ _ _ hl => LiftQS.trans (u1 := c0.mode) hm hB hl
  | exit id => cases hx; exact ⟨.exit id, u2, a2, H', m', u2', hq, hm, hr', ha', hB, rfl, hu', rfl⟩
  | goto l => cases hx; exact ⟨.goto l, u2, a2, H', m', u2', hq, hm, hr', ha', hB, rfl, hu', rfl⟩
  | ret => cases hx; exact ⟨.ret, u2, a2, H', m', u2', hq, hm, hr', ha', hB, rfl, hu', rfl⟩
  | panic v =>
    obtain ⟨v', rfl, hv⟩ := hx
    exact ⟨.panic v, u2, a2, H', m', u2', hq, hm, hr', ha', hB, ⟨v', rfl, hv⟩, hu', rfl⟩
theorem AWpS_cond {c : Operand} {x y : Code} {b : Bool} (hc : a.eval P c = some (.bool b)) (ht : b = true → AWpS P x Q u a H) (hf : b = false → AWpS P y Q u a H) : AWpS P (.cond c x y) Q u a H := by
  intro B0 m w a' c0 cs u' hr ha hu n
  have hb := (eval_sound hr ha hc).bool_inv
  cases b with
  | true => exact wpSIn_cond hb (ht rfl B0 m w a' c0 cs u' hr ha hu n)
  | false => exact wpSIn_cond hb (hf rfl B0 m w a' c0 cs u' hr ha hu n)
theorem ASOps_sound {ops : Array Oper} {n : Nat} {m0 : NMap} {H0 : AHeap} {w0 : World} {c0 : Frame} {cs : List Frame} (l : List Nat) : ∀ {m : NMap} {w : World} {a : AAct} {a' : Act} {H : AHeap} {u : AMode} {u' : FrameMode}, Ext m0 H0 m H → Keep B0 w0 w → Rel P B0 m H w → ARel m a a' → MRel m u u' →
    ASOps P ops Q l u a H → wpOpsSIn Fence.wide n P ops (LiftQS P B0 m0 H0 w0 Q c0 cs) l a' ({ c0 with mode := u' } :: cs) w := by
  induction l with
  | nil => exact fun hm0 hB0 hr ha hu h => ⟨.normal, _, _, _, _, _, h, hm0, hr, ha, hB0, rfl, hu, rfl⟩
  | cons i rest ih =>
    intro m w a a' H u u' hm0 hB0 hr ha hu h
    simp only [ASOps] at h
    simp only [wpOpsSIn]
    cases ho : ops[i]? with
    | none =>
      rw [ho] at h
      exact ih hm0 hB0 hr ha hu h
    | some o =>
      rw [ho] at h
      simp only at h ⊢
      obtain ⟨hg, h⟩ := h
      have hw : Region.wanted o (yielded ops a'.tmps) = true := by simp [Region.wanted, hg]
      rw [hw]
      simp only [if_true]
      refine ⟨fun _ _ => trivial, ?_⟩
      obtain ⟨dst, op, ty, pos, aft, gd⟩ := o
      simp only at h hg ⊢
      split at h
      · rename_i args ats
        have hrun : (execOp a'.eval ⟨dst, .call ⟨.builtin .recover, args, ats⟩, ty, pos, aft, gd⟩).run P w = .ok .recover w := by
          simp [execOp, resolve, invoke, builtin]
        rw [hrun]
        simp only
        split at h
        · rename_i v
          obtain ⟨v', rfl, hv⟩ := hu
          simp only [recoverD]
          exact ih (u := .caught) hm0 hB0 hr (put_sound ha hv) ⟨v', rfl⟩ h
        · rename_i hnp
          have hn : recoverD ({ c0 with mode := u' } :: cs) = none := by
            cases u with
            | ret => cases hu; rfl
            | pan v => exact absurd rfl (hnp v)
            | caught => obtain ⟨v', rfl⟩ := hu; rfl
          rw [hn]
          exact ih hm0 hB0 hr (put_sound ha (.of_atomic rfl)) hu h
      · obtain ⟨v, hv, h⟩ := h
        obtain ⟨v', h1, h2⟩ := aPure_sound (o := ⟨dst, op, ty, pos, aft, gd⟩) hr ha hv
        rw [h1]
        exact ih hm0 hB0 hr (put_sound ha h2) hu h
theorem AWpS_region {id : Nat} {ops : Array Oper} (h : ASOps P ops Q (List.range ops.size) u a H) : AWpS P (.region id ops false) Q u a H :=
  fun _ m _ _ _ _ _ hr ha hu _ => wpSIn_region (ASOps_sound _ (Ext.refl m _) (Keep.refl _ _) hr ha hu h)
theorem SDCalls_of_AWpS {R : Value → AMode → AHeap → Prop} {f : FuncId} {fn : Func} {c : Code} {args : List Value} (hf : P.funcs[f]? = some fn) (hb : fn.body = some c)
    (h : AWpS P c (ABodyS P fn R) u (aEntry args fn.ntmps) H) : SDCalls P f args u H R := by
  intro B0 m w args' u' hr hv hu n
  refine callsDIn_of_wpSIn hf hb trivial fun c0 cs hc0 => ?_
  subst hc0
  refine wpSIn_mono (h B0 m w _ c0 cs c0.mode hr (entry_sound hv _) hu n) ?_
  rintro e a1 cs1 w1 ⟨x, u2, a2, H', m', u2', hq, hm, hr', ha', hB, hx, hu', hcs⟩
  have key : ∀ (hd : a2.defers = []) (hv : bindO (aResults P fn a2 H') fun v => R v u2 H'), a1.defers = [] ∧ ∃ u', cs1 = { c0 with mode := u' } :: cs ∧ ∃ v, (results fn a1.tmps).run P w1 = .ok v w1 ∧
      ∃ v2 v' u2 H' m', R v2 u2 H' ∧ Ext m H m' H' ∧ Rel P B0 m' H' w1 ∧ Keep B0 w w1 ∧ Ending.returned v = .returned v' ∧ VRel m' v2 v' ∧ MRel m' u2 u' := by
    rintro hd ⟨v, hv, hR⟩
    obtain ⟨v', h1, h2⟩ := results_sound hr' ha'.1 hv
    have hd' := ha'.2
    rw [hd] at hd'
    have : a1.defers = [] := by
      generalize hg : a1.defers = x at hd'
      cases hd'
      rfl
    exact ⟨this, u2', hcs, v', h1, v, v', u2, H', m', hR, hm, hr', hB, rfl, h2, hu'⟩
  cases x with
  | normal => cases hx; exact key hq.1 hq.2
  | ret => cases hx; exact key hq.1 hq.2
  | _ => exact hq.elim
end
end Go.Ab
/- ABSTRACT MEMORY, 17: regions that draw their order: what one operation looks at. -/
namespace Go.Ab
open Go Go.RowKit
variable [TT]
section
variable {P : Program} {H : AHeap} {ρ ρ' : Operand → Option Value}
theorem evs_congr {l : List Operand} (h : ∀ x ∈ l, ρ x = ρ' x) : evs ρ l = evs ρ' l := by
  have _ := TT.tt
  induction l with
  | nil => rfl
  | cons x l ih =>
    simp only [evs]
    rw [h x (by simp), ih fun y hy => h y (by simp [hy])]
theorem evps_congr {l : List (Nat × Operand)} (h : ∀ x ∈ l.map (·.2), ρ x = ρ' x) : evps ρ l = evps ρ' l := by
  have _ := TT.tt
  induction l with
  | nil => rfl
  | cons x l ih =>
    obtain ⟨i, x⟩ := x
    simp only [evps]
    rw [h x (by simp), ih fun y hy => h y (by simp only [List.map_cons, List.mem_cons]; exact .inr hy)]
theorem oev_congr {o : Option Operand} (h : ∀ x ∈ o, ρ x = ρ' x) : oev ρ o = oev ρ' o := by
  have _ := TT.tt
  cases o with
  | none => rfl
  | some x => simp only [oev]; rw [h x rfl]
theorem aPure_congr {op : Op} (h : ∀ x ∈ op.operands, ρ x = ρ' x) : aPure P ρ H op = aPure P ρ' H op := by
  cases op with
  | makeFunc fn first cap =>
    simp only [Op.operands] at h
    simp only [aPure]
    rw [evs_congr (l := first.toList) fun x hx => h x (by simp at hx ⊢; exact .inl hx), evs_congr (l := cap.toList) fun x hx => h x (by simp at hx ⊢; exact .inr hx)]
  | build t parts =>
    simp only [Op.operands] at h
    simp only [aPure]
    rw [evps_congr (l := parts.toList) fun x hx => h x (by simpa using hx)]
  | slice t x lo hi mx =>
    simp only [Op.operands] at h
    cases mx with
    | none =>
      simp only [aPure]
      rw [h x (by simp), oev_congr (o := lo) fun y hy => h y (by cases hy; simp), oev_congr (o := hi) fun y hy => h y (by cases hy; simp)]
    | some m => cases hi with
      | none => rfl
      | some hi =>
        simp only [aPure]
        rw [h x (by simp), oev_congr (o := lo) fun y hy => h y (by cases hy; simp), h hi (by simp), h m (by simp)]
  | call c =>
    obtain ⟨callee, args, ats⟩ := c
    obtain ⟨args⟩ := args
    simp only [Op.operands, Call.operands] at h
    cases callee with
    | builtin b =>
      have hx : ∀ x ∈ args, ρ x = ρ' x := fun x hx => h x (by simp [hx])
      cases b <;> try rfl
      all_goals
        simp only [aPure]
        match args, hx with
        | [], _ => rfl
        | [x], hx => have e := hx x (by simp); first | rfl | (rw [e]; done) | (split <;> first | rfl | (rename_i h1 _; cases h1; rw [e]) | (rename_i h1; cases h1; rw [e]))
        | [x, y], hx => first | rfl | (simp only [hx x (by simp), hx y (by simp)])
        | x :: y :: z :: l, _ => rfl
    | _ => rfl
  | pick c x y =>
    simp only [Op.operands] at h
    simp only [aPure]
    rw [h c (by simp), h x (by simp), h y (by simp)]
  | binOp _ _ x y _ =>
    simp only [Op.operands] at h
    simp only [aPure]
    rw [h x (by simp), h y (by simp)]
  | indexAddr _ x y =>
    simp only [Op.operands] at h
    simp only [aPure]
    rw [h x (by simp), h y (by simp)]
  | index _ x y =>
    simp only [Op.operands] at h
    simp only [aPure]
    rw [h x (by simp), h y (by simp)]
  | lookup _ x y _ =>
    simp only [Op.operands] at h
    simp only [aPure]
    rw [h x (by simp), h y (by simp)]
  | _ => first | rfl | (simp only [Op.operands] at h; simp only [aPure]; rw [h _ (by simp)])
theorem aAlloc_congr {op : Op} (h : ∀ x ∈ op.operands, ρ x = ρ' x) : aAlloc P ρ op = aAlloc P ρ' op := by
  cases op with
  | buildSlice t n parts =>
    simp only [Op.operands] at h
    simp only [aAlloc]
    rw [evps_congr (l := parts.toList) fun x hx => h x (by simpa using hx)]
  | makeMap t r =>
    cases r with
    | none => rfl
    | some x =>
      simp only [Op.operands] at h
      simp only [aAlloc]
      rw [h x (by simp)]
  | makeSlice _ x y =>
    simp only [Op.operands] at h
    simp only [aAlloc]
    rw [h x (by simp), h y (by simp)]
  | _ => first | rfl | (simp only [Op.operands] at h; simp only [aAlloc]; rw [h _ (by simp)])
theorem bindO_congr {α : Type} {o o' : Option α} {k k' : α → Prop} (e : o = o') (h : ∀ x, k x → k' x) (hh : bindO o k) : bindO o' k' := by
  have _ := TT.tt
  obtain ⟨x, h1, h2⟩ := hh
  exact ⟨x, e ▸ h1, h x h2⟩
theorem ACall_mono {fv : Value} {vs : List Value} {R R' : ARes → AHeap → Prop} (hr : ∀ r H', R r H' → R' r H') (h : ACall P fv vs H R) : ACall P fv vs H R' := by
  unfold ACall at h
  split at h
  · exact ⟨h.1, h.2.mono hr⟩
  · exact h.mono hr
  · split at h
    · rename_i e
      simp only [ACall, e]
      obtain ⟨u, h1, h2, h3⟩ := h
      exact ⟨u, h1, h2, h3.mono hr⟩
    · exact h.elim
  · exact h.elim
theorem AInvoke_mono {fv : Value} {name : String} {vs : List Value} {R R' : ARes → AHeap → Prop} (hr : ∀ r H', R r H' → R' r H') (h : AInvoke P fv name vs H R) : AInvoke P fv name vs H R' := by
  unfold AInvoke at h
  split at h
  · obtain ⟨f, u, h1, h2, h3⟩ := h; exact ⟨f, u, h1, h2, h3.mono hr⟩
  · exact h.elim
theorem AOp_congr {ro : Option Nat} {a a2 : AAct} {op : Op} {dst : Option Tmp} {K K2 : AAct → AHeap → Prop} {X X2 : Value → AHeap → Prop} (h : ∀ x ∈ op.operands, a.eval P x = a2.eval P x) (hd : a.defers = a2.defers)
    (hK : ∀ v ds H', K ({ a with defers := ds }.put dst v) H' → K2 ({ a2 with defers := ds }.put dst v) H') (hX : ∀ v H', X v H' → X2 v H') (hh : AOp P ro a H dst op K X) : AOp P ro a2 H dst op K2 X2 := by
  have hK1 : ∀ v H', K (a.put dst v) H' → K2 (a2.put dst v) H' := fun v H' hk => by
    have := hK v a.defers H' hk
    rw [hd] at this
    exact this
  have hres : ∀ r H', onRes (fun v H' => K (a.put dst v) H') X r H' → onRes (fun v H' => K2 (a2.put dst v) H') X2 r H' := by
    intro r H' h
    cases r with
    | ret v => exact hK1 v H' h
    | pan v => exact hX v H' h
  unfold AOp at hh ⊢
  rw [← aPure_congr h, ← aAlloc_congr h]
  split
  · rename_i v e
    rw [e] at hh
    exact hK1 v H hh
  · rename_i e
    rw [e] at hh
    simp only at hh
    split
    · rename_i b mk e2
      rw [e2] at hh
      exact hh.mono fun i hi => hK1 _ _ hi
    · rename_i e2
      rw [e2] at hh
      simp only at hh
      cases op with
      | store t x y =>
        simp only [Op.operands] at h
        refine bindO_congr (h x (by simp)) (fun u hu => bindO_congr (h y (by simp)) (fun v hv => ?_) hu) hh
        split at hv
        · exact ⟨hv.1, bindO_congr rfl (fun b hb => hK1 _ _ hb) hv.2⟩
        · exact hv.elim
      | mapUpdate t x k y =>
        simp only [Op.operands] at h
        exact bindO_congr (h x (by simp)) (fun u hu => bindO_congr (h k (by simp)) (fun u hu => bindO_congr (h y (by simp)) (fun u hu => bindO_congr rfl (fun r hr => hK1 _ _ hr) hu) hu) hu) hh
      | insert t x k y =>
        simp only [Op.operands] at h
        exact bindO_congr (h x (by simp)) (fun u hu => bindO_congr (h k (by simp)) (fun u hu => bindO_congr (h y (by simp)) (fun u hu => bindO_congr rfl (fun r hr => hK1 _ _ hr) hu) hu) hu) hh
      | range t x =>
        simp only [Op.operands] at h
        exact bindO_congr (h x (by simp)) (fun u hu => bindO_congr rfl (fun r hr => pick.mono hr fun j h => hK1 _ _ h) hu) hh
      | next x st =>
        simp only [Op.operands] at h
        cases st with
        | true => exact hh.elim
        | false => exact bindO_congr (h x (by simp)) (fun u hu => ANext.mono (fun v H' hv => hK1 _ _ hv) hu) hh
      | entry x =>
        simp only [Op.operands] at h
        exact bindO_congr (h x (by simp)) (fun u hu => bindO_congr rfl (fun v hv => hK1 _ _ hv) hu) hh
      | panic x =>
        simp only [Op.operands] at h
        refine bindO_congr (h x (by simp)) (fun u hu => ?_) hh
        split at hu
        · exact hX _ _ hu
        · exact hu.elim
      | defer c =>
        obtain ⟨callee, args, ats⟩ := c
        cases callee with
        | value f =>
          simp only [Op.operands, Call.operands] at h
          refine ⟨hh.1, bindO_congr (h f (by simp)) (fun u hu => bindO_congr (evs_congr (l := args.toList) fun x hx => h x (by simp at hx; simp [hx])) (fun v hv => ?_) hu) hh.2⟩
          split at hv
          · rw [← hd]
            exact hK _ _ _ hv
          · exact hv.elim
        | _ => exact hh.2.elim
      | call c =>
        obtain ⟨callee, args, ats⟩ := c
        cases callee with
        | value f =>
          simp only [Op.operands, Call.operands] at h
          exact bindO_congr (h f (by simp)) (fun u hu => bindO_congr (evs_congr (l := args.toList) fun x hx => h x (by simp at hx; simp [hx])) (fun v hv => ACall_mono hres hv) hu) hh
        | invoke r name =>
          simp only [Op.operands, Call.operands] at h
          exact bindO_congr (h r (by simp)) (fun u hu => bindO_congr (evs_congr (l := args.toList) fun x hx => h x (by simp at hx; simp [hx])) (fun v hv => AInvoke_mono hres hv) hu) hh
        | builtin b =>
          obtain ⟨args⟩ := args
          obtain ⟨ats⟩ := ats
          simp only [Op.operands, Call.operands] at h
          have hx : ∀ x ∈ args, a.eval P x = a2.eval P x := fun x hx => h x (by simp [hx])
          cases b with
          | append =>
            simp only [AEff] at hh ⊢
            split
            · rename_i x y t t'
              refine ⟨hh.1, bindO_congr (hx x (by simp)) (fun u hu => bindO_congr (hx y (by simp)) (fun v hv => bindO_congr rfl (fun r hr => ?_) hv) hu) hh.2⟩
              cases r with
              | same v => exact hK1 _ _ hr
              | inpl v i b => exact hK1 _ _ hr
              | grow H' n b => exact pick.mono hr fun j h => hK1 _ _ h
            · rename_i hne
              split at hh
              · exact absurd rfl (hne _ _ _ _ rfl)
              · exact hh.elim
          | copy =>
            simp only [AEff] at hh ⊢
            split
            · rename_i x y t t'
              exact bindO_congr (hx x (by simp)) (fun u hu => bindO_congr (hx y (by simp)) (fun v hv => bindO_congr rfl (fun r hr => hK1 _ _ hr) hv) hu) hh
            · rename_i hne
              split at hh
              · exact absurd rfl (hne _ _ _ _ rfl)
              · exact hh.elim
          | clear =>
            simp only [AEff] at hh ⊢
            split
            · rename_i x t
              exact bindO_congr (hx x (by simp)) (fun u hu => bindO_congr rfl (fun r hr => hK1 _ _ hr) hu) hh
            · rename_i hne
              split at hh
              · exact absurd rfl (hne _ _ rfl)
              · exact hh.elim
          | panic =>
            simp only [AEff] at hh ⊢
            split
            · rename_i x
              refine bindO_congr (hx x (by simp)) (fun u hu => ?_) hh
              split at hu
              · exact hX _ _ hu
              · exact hu.elim
            · rename_i hne
              split at hh
              · exact absurd rfl (hne _)
              · exact hh.elim
          | _ => exact hh.elim
      | _ => exact hh.elim
def reads : Op → Bool
  | .load _ _ | .call _ | .lookup _ _ _ _ | .slice _ _ _ _ _ => true
  | _ => false
theorem aPure_noread {op : Op} {H' : AHeap} (h : reads op = false) : aPure P ρ H op = aPure P ρ H' op := by
  have _ := TT.tt
  cases op with
  | _ => first | rfl | (simp [reads] at h)
end
end Go.Ab
/- ABSTRACT MEMORY, 18: regions that draw their order: all orders. -/
namespace Go.Ab
open Go Go.RowKit
variable [TT]
def depsOf (ops : Array Oper) (i : Nat) : List Nat :=
  match ops[i]? with
  | some o => (o.after.toList.filter (Region.binds .any)).map (·.on)
  | none => []
def dstOf (ops : Array Oper) (i : Nat) : Option Tmp := (ops[i]?).bind (·.dst)
def looks (ops : Array Oper) (i : Nat) : List Tmp :=
  match ops[i]? with
  | some o => o.looksAt ops
  | none => []
def ancOf (ops : Array Oper) : Nat → List Nat → List Nat
  | 0, S => S
  | k + 1, S => ancOf ops k (S ++ ((S.flatMap (depsOf ops)).filter fun j => !S.contains j).eraseDups)
def isFloat : Op → Bool
  | .move _ | .assign _ | .pick _ _ _ | .load _ _ | .nilCheck _ | .binOp _ _ _ _ _ | .unOp _ _ _ | .convert _ _ _ | .makeInterface _ _ | .makeFunc _ _ _ | .fieldAddr _ _ _ | .field _ _ _
  | .indexAddr _ _ _ | .index _ _ _ | .lookup _ _ _ _ | .extract _ _ | .typeAssert _ _ _ _ | .slice _ _ _ _ _ | .build _ _ => true
  | .call c => match c.callee with
    | .builtin .len | .builtin .min | .builtin .max => true
    | _ => false
  | _ => false
def floatAt (ops : Array Oper) (i : Nat) : Bool := match ops[i]? with | some o => isFloat o.op | none => false
def readsAt (ops : Array Oper) (i : Nat) : Bool := match ops[i]? with | some o => isFloat o.op && reads o.op | none => false
def wfDraw (ops : Array Oper) (n : Nat) : Bool :=
  (List.range ops.size).all fun i => (match dstOf ops i with
    | none => !readsAt ops i
    | some d => decide (d < n) && !(looks ops i).contains d && (List.range ops.size).all fun j =>
        i == j || (dstOf ops j != some d && (!(looks ops j).contains d || (depsOf ops j).contains i || ((depsOf ops i).contains j && !readsAt ops j))))
def readyB (ops : Array Oper) (D : List Nat) (i : Nat) : Bool := !D.contains i && (depsOf ops i).all D.contains
def readyL (ops : Array Oper) (D : List Nat) : List Nat := (List.range ops.size).filter (readyB ops D)
def Again (P : Program) (ops : Array Oper) (y : Nat) (a : AAct) (H : AHeap) : List Nat → Prop
  | [] => True
  | i :: D => (readsAt ops i = true → (ancOf ops ops.size (depsOf ops y)).contains i = false →
      match ops[i]? with
      | some o => match o.dst with
        | some d => aWanted ops a o = some true → aPure P (a.eval P) H o.op = a.f d
        | none => False
      | none => False) ∧ Again P ops y a H D
def AGo (P : Program) (ro : Option Nat) (ops : Array Oper) (Q : AExit → AAct → AHeap → Prop) (a0 : AAct) : Nat → List Nat → AAct → AHeap → Prop
  | 0, _, _, _ => False
  | fuel + 1, D, a, H =>
    match (readyL ops D).find? (floatAt ops) with
    | some i => match ops[i]? with
      | none => False
      | some o => bindO (aWanted ops a o) fun b => (b = true → bindO (aPure P (a.eval P) H o.op) fun v => AGo P ro ops Q a0 fuel (i :: D) (a.put o.dst v) H) ∧ (b = false → AGo P ro ops Q a0 fuel (i :: D) (a.put o.dst undef) H)
    | none => (readyL ops D = [] → Q .normal a H) ∧ ∀ i ∈ readyL ops D, match ops[i]? with
      | none => False
      | some o => bindO (aWanted ops a o) fun b =>
          (b = true → AOp P ro a H o.dst o.op (fun a1 H1 => Again P ops i a1 H1 D ∧ AGo P ro ops Q a0 fuel (i :: D) a1 H1) (fun v H1 => Q (.panic v) { a0 with defers := a.defers } H1)) ∧
          (b = false → AGo P ro ops Q a0 fuel (i :: D) (a.put o.dst undef) H)
def asg (ops : Array Oper) (T : List Nat) (V : Nat → Value) (a : AAct) : AAct :=
  { a with f := fun t => match T.find? (fun z => dstOf ops z == some t) with | some z => if t < a.n then some (V z) else some undef | none => a.f t }
section
variable {P : Program} {ro : Option Nat} {ops : Array Oper} {Q : AExit → AAct → AHeap → Prop} {ai : AAct} {ds : List Deferred} {D T : List Nat} {V : Nat → Value} {H : AHeap}
theorem asg_nil : asg ops [] V ai = ai := have _ := TT.tt; rfl
theorem asg_n : (asg ops T V ai).n = ai.n := have _ := TT.tt; rfl
theorem asg_V {V' : Nat → Value} (h : ∀ i ∈ T, V' i = V i) : asg ops T V' ai = asg ops T V ai := by
  have _ := TT.tt
  unfold asg
  congr 1
  funext t
  cases hf : T.find? (fun z => dstOf ops z == some t) with
  | none => rfl
  | some z => simp only [h z (List.mem_of_find?_eq_some hf)]
def vset (V : Nat → Value) (i : Nat) (v : Value) : Nat → Value := fun j => if j = i then v else V j
theorem put_asg {i : Nat} {o : Oper} {v : Value} (ho : ops[i]? = some o) (hi : i ∉ T) : ({ asg ops T V ai with defers := ds } : AAct).put o.dst v = { asg ops (i :: T) (vset V i v) ai with defers := ds } := by
  have hV : asg ops T (vset V i v) ai = asg ops T V ai := asg_V fun j hj => by
    have : j ≠ i := by rintro rfl; exact hi hj
    simp [vset, this]
  rw [← hV]
  have hd : dstOf ops i = o.dst := by simp [dstOf, ho]
  cases hdst : o.dst with
  | none =>
    rw [hdst] at hd
    simp only [AAct.put, asg, List.find?_cons, hd]
    rfl
  | some d =>
    rw [hdst] at hd
    simp only [AAct.put, asg, List.find?_cons, hd]
    congr 1
    funext t
    by_cases e : t = d
    · subst e
      simp [vset]
      rfl
    · have : (some d == some t) = false := by simp; exact Ne.symm e
      simp [e, this]
def OrdD (ops : Array Oper) : List Nat → Prop
  | [] => True
  | x :: D => (∀ j ∈ depsOf ops x, j ∈ D) ∧ OrdD ops D
theorem OrdD.first (h : OrdD ops D) (hex : ∃ i ∈ D, i ∉ T) : ∃ i ∈ D, i ∉ T ∧ ∀ j ∈ depsOf ops i, j ∈ T := by
  have _ := TT.tt
  induction D with
  | nil => obtain ⟨i, hi, _⟩ := hex; cases hi
  | cons x D ih =>
    by_cases hd : ∃ i ∈ D, i ∉ T
    · obtain ⟨i, hi, h1, h2⟩ := ih h.2 hd
      exact ⟨i, List.mem_cons_of_mem _ hi, h1, h2⟩
    · have hDT : ∀ k ∈ D, k ∈ T := fun k hk => Classical.byContradiction fun hc => hd ⟨k, hk, hc⟩
      obtain ⟨i, hi, hiT⟩ := hex
      rcases List.mem_cons.1 hi with rfl | hi
      · exact ⟨i, List.mem_cons_self, hiT, fun j hj => hDT j (h.1 j hj)⟩
      · exact absurd (hDT i hi) hiT
structure Inv (P : Program) (ops : Array Oper) (ai : AAct) (D T : List Nat) (V : Nat → Value) (H : AHeap) : Prop where
  sub : ∀ i ∈ T, i ∈ D
  dcl : ∀ i ∈ D, i < ops.size ∧ ∀ j ∈ depsOf ops i, j ∈ D
  tcl : ∀ i ∈ T, ∀ j ∈ depsOf ops i, j ∈ T
  lag : ∀ i ∈ D, i ∉ T → ∃ o, ops[i]? = some o ∧ isFloat o.op = true ∧ ((aWanted ops (asg ops (depsOf ops i) V ai) o = some true ∧ aPure P ((asg ops (depsOf ops i) V ai).eval P) H o.op = some (V i)) ∨ (aWanted ops (asg ops (depsOf ops i) V ai) o = some false ∧ V i = undef))
  ord : OrdD ops D
theorem wf_at (hw : wfDraw ops ai.n = true) {i : Nat} (hi : i < ops.size) : (match dstOf ops i with
    | none => !readsAt ops i
    | some d => decide (d < ai.n) && !(looks ops i).contains d && (List.range ops.size).all fun j =>
        i == j || (dstOf ops j != some d && (!(looks ops j).contains d || (depsOf ops j).contains i || ((depsOf ops i).contains j && !readsAt ops j)))) = true := have _ := TT.tt;
  (List.all_eq_true.1 hw) i (by simpa using hi)
theorem wf_dst (hw : wfDraw ops ai.n = true) {i j : Nat} (hi : i < ops.size) (hj : j < ops.size) {d : Tmp} (h1 : dstOf ops i = some d) (h2 : dstOf ops j = some d) : i = j := by
  have h := wf_at hw hi
  rw [h1] at h
  simp only [Bool.and_eq_true, List.all_eq_true] at h
  have := h.2 j (by simpa using hj)
  rw [h2] at this
  simpa using this
theorem wf_looks (hw : wfDraw ops ai.n = true) {i j : Nat} (hi : i < ops.size) (hj : j < ops.size) {d : Tmp} (h1 : dstOf ops i = some d) (h2 : d ∈ looks ops j) : i ≠ j ∧ (i ∈ depsOf ops j ∨ (j ∈ depsOf ops i ∧ readsAt ops j = false)) := by
  have h := wf_at hw hi
  rw [h1] at h
  simp only [Bool.and_eq_true, List.all_eq_true] at h
  have hne : i ≠ j := by
    rintro rfl
    have := h.1.2
    simp [h2] at this
  have := h.2 j (by simpa using hj)
  simp only [Bool.or_eq_true, Bool.and_eq_true, beq_iff_eq, hne, false_or, bne_iff_ne, Bool.not_eq_true', List.contains_eq_mem, decide_eq_true_eq, decide_eq_false_iff_not, h2, not_true_eq_false] at this
  exact ⟨hne, this.2⟩
theorem look (hw : wfDraw ops ai.n = true) {i : Nat} (hi : i < ops.size) (hTs : ∀ z ∈ T, z < ops.size) (hdeps : ∀ j ∈ depsOf ops i, j ∈ T) (h : readsAt ops i = true ∨ (i ∉ T ∧ ∀ z ∈ T, ∀ j ∈ depsOf ops z, j ∈ T)) {t : Tmp} (ht : t ∈ looks ops i) :
    (asg ops T V ai).f t = (asg ops (depsOf ops i) V ai).f t := by
  simp only [asg]
  have key : ∀ z ∈ T, dstOf ops z = some t → z ∈ depsOf ops i := by
    intro z hz hd
    obtain ⟨_, h1 | h1⟩ := wf_looks hw (hTs z hz) hi hd ht
    · exact h1
    · rcases h with h | h
      · rw [h] at h1; exact absurd h1.2 (by simp)
      · exact absurd (h.2 z hz i h1.1) h.1
  cases hf : T.find? (fun z => dstOf ops z == some t) with
  | some z =>
    have hz := List.mem_of_find?_eq_some hf
    have hd : dstOf ops z = some t := by simpa using List.find?_some hf
    cases hg : (depsOf ops i).find? (fun z => dstOf ops z == some t) with
    | some z' =>
      have hz' := List.mem_of_find?_eq_some hg
      have hd' : dstOf ops z' = some t := by simpa using List.find?_some hg
      rw [wf_dst hw (hTs z hz) (hTs z' (hdeps z' hz')) hd hd']
    | none =>
      have := List.find?_eq_none.1 hg z (key z hz hd)
      simp [hd] at this
  | none =>
    cases hg : (depsOf ops i).find? (fun z => dstOf ops z == some t) with
    | some z' =>
      have hz' := List.mem_of_find?_eq_some hg
      have hd' : dstOf ops z' = some t := by simpa using List.find?_some hg
      have := List.find?_eq_none.1 hf z' (hdeps z' hz')
      simp [hd'] at this
    | none => rfl
theorem wanted_congr {a a2 : AAct} {i : Nat} {o : Oper} (ho : ops[i]? = some o) (h : ∀ t ∈ looks ops i, a.f t = a2.f t) : aWanted ops a o = aWanted ops a2 o := by
  have _ := TT.tt
  unfold aWanted
  split
  · rfl
  · rename_i j want hg
    split
    · rename_i d hd
      rw [h d (by simp [looks, ho, Oper.looksAt, hg, hd])]
    · rfl
theorem eval_congr {a a2 : AAct} {i : Nat} {o : Oper} (ho : ops[i]? = some o) (h : ∀ t ∈ looks ops i, a.f t = a2.f t) : ∀ x ∈ o.op.operands, a.eval P x = a2.eval P x := by
  have _ := TT.tt
  intro x hx
  cases x with
  | tmp t => exact h t (by
      simp only [looks, ho, Oper.looksAt, List.mem_append, List.mem_filterMap]
      exact .inl ⟨.tmp t, by simpa using hx, rfl⟩)
  | _ => rfl
theorem ready_mem {i : Nat} : i ∈ readyL ops D ↔ i < ops.size ∧ i ∉ D ∧ ∀ j ∈ depsOf ops i, j ∈ D := by
  have _ := TT.tt
  simp [readyL, readyB, List.contains_eq_mem]
theorem get_of_lt {i : Nat} (hi : i < ops.size) : ∃ o, ops[i]? = some o := have _ := TT.tt; ⟨ops[i], by simp [hi]⟩
theorem Inv.plan (hw : wfDraw ops ai.n = true) (h : Inv P ops ai D T V H) {i : Nat} (hi : i ∈ readyL ops D) {o : Oper} (ho : ops[i]? = some o) (hfl : isFloat o.op = true) {v : Value}
    (hv : (aWanted ops (asg ops D V ai) o = some true ∧ aPure P ((asg ops D V ai).eval P) H o.op = some v) ∨ (aWanted ops (asg ops D V ai) o = some false ∧ v = undef)) : Inv P ops ai (i :: D) T (vset V i v) H := by
  obtain ⟨h1, h2, h3⟩ := ready_mem.1 hi
  have hVd : ∀ k ∈ D, asg ops (depsOf ops k) (vset V i v) ai = asg ops (depsOf ops k) V ai := fun k hk => asg_V fun j hj => by
    have : j ≠ i := by rintro rfl; exact h2 ((h.dcl k hk).2 j hj)
    simp [vset, this]
  have hVi : asg ops (depsOf ops i) (vset V i v) ai = asg ops (depsOf ops i) V ai := asg_V fun j hj => by
    have : j ≠ i := by rintro rfl; exact h2 (h3 j hj)
    simp [vset, this]
  refine ⟨fun k hk => List.mem_cons_of_mem _ (h.sub k hk), fun k hk => ?_, h.tcl, fun k hk hkT => ?_, ⟨h3, h.ord⟩⟩
  · rcases List.mem_cons.1 hk with rfl | hk
    · exact ⟨h1, fun j hj => List.mem_cons_of_mem _ (h3 j hj)⟩
    · exact ⟨(h.dcl k hk).1, fun j hj => List.mem_cons_of_mem _ ((h.dcl k hk).2 j hj)⟩
  · by_cases e : k = i
    · subst e
      refine ⟨o, ho, hfl, ?_⟩
      have hl : ∀ t ∈ looks ops k, (asg ops D V ai).f t = (asg ops (depsOf ops k) V ai).f t := fun t ht => look hw h1 (fun z hz => (h.dcl z hz).1) h3 (.inr ⟨h2, fun z hz => (h.dcl z hz).2⟩) ht
      rw [hVi, ← wanted_congr ho hl, ← aPure_congr (eval_congr ho hl)]
      simpa [vset] using hv
    · have hkD : k ∈ D := by simpa [e] using hk
      obtain ⟨o', ho', hfl', hx⟩ := h.lag k hkD hkT
      refine ⟨o', ho', hfl', ?_⟩
      rw [hVd k hkD]
      simpa [vset, e] using hx
theorem go_norm (hw : wfDraw ops ai.n = true) {a0 : AAct} (fuel : Nat) : ∀ {D : List Nat} {V : Nat → Value}, Inv P ops ai D T V H → AGo P ro ops Q a0 fuel D { asg ops D V ai with defers := ds } H →
    ∃ fuel' D' V', Inv P ops ai D' T V' H ∧ (∀ i ∈ T, V' i = V i) ∧ (readyL ops D').find? (floatAt ops) = none ∧ AGo P ro ops Q a0 (fuel' + 1) D' { asg ops D' V' ai with defers := ds } H := by
  induction fuel with
  | zero => exact fun _ h => h.elim
  | succ fuel ih =>
    intro D V hI h
    cases hf : (readyL ops D).find? (floatAt ops) with
    | none => exact ⟨fuel, D, V, hI, fun _ _ => rfl, hf, h⟩
    | some i =>
      have hi := List.mem_of_find?_eq_some hf
      have hfl := List.find?_some hf
      obtain ⟨h1, h2, h3⟩ := ready_mem.1 hi
      obtain ⟨o, ho⟩ := get_of_lt h1
      have hfl' : isFloat o.op = true := by simpa [floatAt, ho] using hfl
      simp only [AGo, hf, ho] at h
      obtain ⟨b, hb, ht, hfa⟩ := h
      have step : ∀ v, ((aWanted ops (asg ops D V ai) o = some true ∧ aPure P ((asg ops D V ai).eval P) H o.op = some v) ∨ (aWanted ops (asg ops D V ai) o = some false ∧ v = undef)) →
          AGo P ro ops Q a0 fuel (i :: D) (({ asg ops D V ai with defers := ds } : AAct).put o.dst v) H →
          ∃ fuel' D' V', Inv P ops ai D' T V' H ∧ (∀ i ∈ T, V' i = V i) ∧ (readyL ops D').find? (floatAt ops) = none ∧ AGo P ro ops Q a0 (fuel' + 1) D' { asg ops D' V' ai with defers := ds } H := by
        intro v hv hg
        rw [put_asg ho h2] at hg
        obtain ⟨fuel', D', V', hI', hV', hn, hg'⟩ := ih (hI.plan hw hi ho hfl' hv) hg
        refine ⟨fuel', D', V', hI', fun k hk => ?_, hn, hg'⟩
        rw [hV' k hk]
        have : k ≠ i := by rintro rfl; exact h2 (hI.sub k hk)
        simp [vset, this]
      have hb' : aWanted ops (asg ops D V ai) o = some b := hb
      cases b with
      | true =>
        obtain ⟨v, hv, hg⟩ := ht rfl
        exact step v (.inl ⟨hb', hv⟩) hg
      | false => exact step undef (.inr ⟨hb', rfl⟩) (hfa rfl)
theorem Inv.step (h : Inv P ops ai D T V H) {i : Nat} (hi : i ∈ D) (hd : ∀ j ∈ depsOf ops i, j ∈ T) : Inv P ops ai D (i :: T) V H := by
  have _ := TT.tt
  refine ⟨fun k hk => ?_, h.dcl, fun k hk j hj => ?_, fun k hk hkT => h.lag k hk fun hc => hkT (List.mem_cons_of_mem _ hc), h.ord⟩
  · rcases List.mem_cons.1 hk with rfl | hk
    · exact hi
    · exact h.sub k hk
  · rcases List.mem_cons.1 hk with rfl | hk
    · exact List.mem_cons_of_mem _ (hd j hj)
    · exact List.mem_cons_of_mem _ (h.tcl k hk j hj)
theorem anc_sub (htcl : ∀ i ∈ T, ∀ j ∈ depsOf ops i, j ∈ T) (k : Nat) : ∀ {S : List Nat}, (∀ j ∈ S, j ∈ T) → ∀ i ∈ ancOf ops k S, i ∈ T := by
  have _ := TT.tt
  induction k with
  | zero => exact fun hS i hi => hS i hi
  | succ k ih =>
    intro S hS i hi
    refine ih (fun j hj => ?_) i hi
    rcases List.mem_append.1 hj with hj | hj
    · exact hS j hj
    · rw [List.mem_eraseDups, List.mem_filter, List.mem_flatMap] at hj
      obtain ⟨⟨x, hx, hjx⟩, _⟩ := hj
      exact htcl x (hS x hx) j hjx
def againL (ops : Array Oper) (y : Nat) (D : List Nat) : List Nat := let A := ancOf ops ops.size (depsOf ops y); D.filter fun i => readsAt ops i && !A.contains i
theorem again_of {y : Nat} {a : AAct} (h : ∀ i ∈ againL ops y D, match ops[i]? with
      | some o => match o.dst with
        | some d => aWanted ops a o = some true → aPure P (a.eval P) H o.op = a.f d
        | none => False
      | none => False) : Again P ops y a H D := by
  have _ := TT.tt
  induction D with
  | nil => trivial
  | cons x D ih =>
    refine ⟨fun h1 h2 => h x ?_, ih fun i hi => h i ?_⟩
    · simp only [againL, List.mem_filter, List.mem_cons, true_or, true_and, h1, h2, Bool.not_false, Bool.and_self]
    · simp only [againL, List.mem_filter, List.mem_cons] at hi ⊢
      exact ⟨.inr hi.1, hi.2⟩
theorem again_nil {y : Nat} {a : AAct} (h : againL ops y D = []) : Again P ops y a H D := again_of (by rw [h]; exact fun _ hi => by cases hi)
theorem again_at {y : Nat} {a : AAct} (h : Again P ops y a H D) {i : Nat} (hi : i ∈ D) : readsAt ops i = true → (ancOf ops ops.size (depsOf ops y)).contains i = false →
    match ops[i]? with
      | some o => match o.dst with
        | some d => aWanted ops a o = some true → aPure P (a.eval P) H o.op = a.f d
        | none => False
      | none => False := by
  have _ := TT.tt
  induction D with
  | nil => cases hi
  | cons x D ih =>
    rcases List.mem_cons.1 hi with rfl | hi
    · exact h.1
    · exact ih h.2 hi
theorem Inv.both (hw : wfDraw ops ai.n = true) (h : Inv P ops ai D T V H) {i : Nat} (hiD : i ∉ D) (hi : i < ops.size) (hd : ∀ j ∈ depsOf ops i, j ∈ T) {v : Value} {H1 : AHeap} (hag : H1 = H ∨ Again P ops i { asg ops (i :: D) (vset V i v) ai with defers := ds } H1 D) :
    Inv P ops ai (i :: D) (i :: T) (vset V i v) H1 := by
  have hVd : ∀ k ∈ D, asg ops (depsOf ops k) (vset V i v) ai = asg ops (depsOf ops k) V ai := fun k hk => asg_V fun j hj => by
    have : j ≠ i := by rintro rfl; exact hiD ((h.dcl k hk).2 j hj)
    simp [vset, this]
  have hD3 : ∀ j ∈ depsOf ops i, j ∈ D := fun j hj => h.sub j (hd j hj)
  have hdcl : ∀ k ∈ i :: D, k < ops.size ∧ ∀ j ∈ depsOf ops k, j ∈ i :: D := fun k hk => by
    rcases List.mem_cons.1 hk with rfl | hk
    · exact ⟨hi, fun j hj => List.mem_cons_of_mem _ (hD3 j hj)⟩
    · exact ⟨(h.dcl k hk).1, fun j hj => List.mem_cons_of_mem _ ((h.dcl k hk).2 j hj)⟩
  refine ⟨fun k hk => ?_, hdcl, fun k hk j hj => ?_, fun k hk hkT => ?_, ⟨hD3, h.ord⟩⟩
  · rcases List.mem_cons.1 hk with rfl | hk
    · exact List.mem_cons_self
    · exact List.mem_cons_of_mem _ (h.sub k hk)
  · rcases List.mem_cons.1 hk with rfl | hk
    · exact List.mem_cons_of_mem _ (hd j hj)
    · exact List.mem_cons_of_mem _ (h.tcl k hk j hj)
  · have hki : k ≠ i := by rintro rfl; exact hkT List.mem_cons_self
    have hkD : k ∈ D := by simpa [hki] using hk
    have hkT' : k ∉ T := fun hc => hkT (List.mem_cons_of_mem _ hc)
    obtain ⟨o, ho, hfl, hx⟩ := h.lag k hkD hkT'
    refine ⟨o, ho, hfl, ?_⟩
    rw [hVd k hkD]
    have hvk : vset V i v k = V k := by simp [vset, hki]
    rw [hvk]
    rcases hx with ⟨h1, h2⟩ | h2
    · refine .inl ⟨h1, ?_⟩
      rcases hag with rfl | hag
      · exact h2
      · cases hrd : reads o.op with
        | false => rw [← h2]; exact aPure_noread hrd
        | true =>
          have hrA : readsAt ops k = true := by simp [readsAt, ho, hfl, hrd]
          have hanc : (ancOf ops ops.size (depsOf ops i)).contains k = false := by
            cases hc : (ancOf ops ops.size (depsOf ops i)).contains k with
            | false => rfl
            | true => exact absurd (anc_sub h.tcl _ hd k (by simpa using hc)) hkT'
          have hA := again_at hag hkD hrA hanc
          rw [ho] at hA
          simp only at hA
          have hl : ∀ t ∈ looks ops k, (asg ops (i :: D) (vset V i v) ai).f t = (asg ops (depsOf ops k) (vset V i v) ai).f t := fun t ht =>
            look hw (h.dcl k hkD).1 (fun z hz => (hdcl z hz).1) (fun j hj => (hdcl k hk).2 j hj) (.inl hrA) ht
          have hl' : ∀ t ∈ looks ops k, ({ asg ops (i :: D) (vset V i v) ai with defers := ds } : AAct).f t = (asg ops (depsOf ops k) V ai).f t := fun t ht => by
            rw [← hVd k hkD]; exact hl t ht
          split at hA
          · rename_i d hdst
            have h3 := hA (by rw [wanted_congr ho hl']; exact h1)
            rw [aPure_congr (eval_congr ho hl')] at h3
            rw [h3]
            have hdk : dstOf ops k = some d := by simp [dstOf, ho, hdst]
            have hdn : d < ai.n := by
              have := wf_at hw (h.dcl k hkD).1
              rw [hdk] at this
              simp only [Bool.and_eq_true, decide_eq_true_eq] at this
              exact this.1.1
            show (asg ops (i :: D) (vset V i v) ai).f d = _
            simp only [asg]
            cases hf : (i :: D).find? (fun z => dstOf ops z == some d) with
            | none =>
              have := List.find?_eq_none.1 hf k hk
              simp [hdk] at this
            | some z =>
              have hz := List.mem_of_find?_eq_some hf
              have hdz : dstOf ops z = some d := by simpa using List.find?_some hf
              have := wf_dst hw (hdcl z hz).1 (h.dcl k hkD).1 hdz hdk
              subst this
              simp [hdn, hvk]
          · exact hA.elim
    · exact .inr h2
end
end Go.Ab
/- ABSTRACT MEMORY, 19: regions that draw their order: the rule. -/
namespace Go.Ab
open Go Go.RowKit
variable [TT]
def Up (Q : AExit → AAct → AHeap → Prop) (e : AExit) (a : AAct) (H : AHeap) : Prop := ∃ a1 : AAct, a1.n = a.n ∧ a1.defers = a.defers ∧ (∀ t v, a1.f t = some v → a.f t = some v) ∧ Q e a1 H
def sans (ops : Array Oper) (a : AAct) : AAct := { a with f := fun t => if (List.range ops.size).any (fun i => dstOf ops i == some t) then none else a.f t }
section
variable {P : Program} {B0 : Prot} {m : NMap} {H : AHeap} {w : World} {a : AAct} {ro : Option Nat} {ops : Array Oper} {Q : AExit → AAct → AHeap → Prop} {ai : AAct}
theorem LiftQ_up {e : Exit} {a1 : Act} {w1 : World} (h : LiftQ P B0 m H w (Up Q) e a1 w1) : LiftQ P B0 m H w Q e a1 w1 := by
  obtain ⟨x, a, H', m', ⟨a2, h1, h2, h3, hq⟩, hm, hr, ha, hB, hx⟩ := h
  exact ⟨x, a2, H', m', hq, hm, hr, ⟨⟨by rw [h1]; exact ha.1.1, fun t v ht => ha.1.2 t v (h3 t v ht)⟩, by rw [h2]; exact ha.2⟩, hB, hx⟩
theorem up_self {e : AExit} (h : Q e a H) : Up Q e a H := have _ := TT.tt; ⟨a, rfl, rfl, fun _ _ h => h, h⟩
theorem up_sans {T : List Nat} {V : Nat → Value} {ds : List Deferred} {e : AExit} (hT : ∀ i ∈ T, i < ops.size) (h : Q e { sans ops ai with defers := ds } H) : Up Q e { asg ops T V ai with defers := ds } H := by
  have _ := TT.tt
  refine ⟨{ sans ops ai with defers := ds }, rfl, rfl, fun t v ht => ?_, h⟩
  simp only [sans] at ht
  split at ht
  · cases ht
  · rename_i hn
    simp only [asg]
    cases hf : T.find? (fun z => dstOf ops z == some t) with
    | none => exact ht
    | some z =>
      exfalso
      apply hn
      rw [List.any_eq_true]
      have hz := List.find?_some hf
      exact ⟨z, by simpa using hT z (List.mem_of_find?_eq_some hf), hz⟩
def unlisted (ops : Array Oper) (T : List Nat) : Nat := ((List.range ops.size).filter fun i => !T.contains i).length
theorem unlisted_cons {T : List Nat} {i : Nat} (hi : i < ops.size) (hiT : i ∉ T) : unlisted ops (i :: T) < unlisted ops T := by
  have _ := TT.tt
  unfold unlisted
  have e : (List.range ops.size).filter (fun j => !(i :: T).contains j) = ((List.range ops.size).filter fun j => !T.contains j).filter fun j => j != i := by
    rw [List.filter_filter]
    congr 1
    funext j
    simp only [List.contains_cons, Bool.not_or]
    rfl
  rw [e]
  refine List.length_filter_lt_length_iff_exists.2 ⟨i, ?_, by simp⟩
  simp [hi, hiT]
theorem go_sim (hw : wfDraw ops ai.n = true) (fuelσ : Nat) : ∀ {fuel : Nat} {listed : Array Bool} {D T : List Nat} {V : Nat → Value} {H : AHeap} {ds : List Deferred} (t : Nat), (∀ j, listed.getD j false = true ↔ j ∈ T) → listed.size = ops.size → unlisted ops T ≤ fuelσ →
    Inv P ops ai D T V H → AGo P ro ops Q (sans ops ai) fuel D { asg ops D V ai with defers := ds } H → AOps P ro ops (Up Q) (Region.linearise.go .any ops fuelσ t listed []) { asg ops T V ai with defers := ds } H := by
  have hready : ∀ {listed : Array Bool} {T : List Nat}, (∀ j, listed.getD j false = true ↔ j ∈ T) → listed.size = ops.size → ∀ i, i ∈ Region.ready .any ops listed ↔ i < ops.size ∧ i ∉ T ∧ ∀ j ∈ depsOf ops i, j ∈ T := by
    intro listed T hl hs i
    simp only [Region.ready, List.mem_filter, List.mem_range, Bool.and_eq_true, Bool.not_eq_true']
    constructor
    · rintro ⟨h1, h2, h3⟩
      obtain ⟨o, ho⟩ := get_of_lt h1
      refine ⟨h1, fun hc => ?_, fun j hj => ?_⟩
      · have := (hl i).2 hc
        have hlt : i < listed.size := by rw [hs]; exact h1
        simp [Array.getD, hlt] at this h2
        rw [this] at h2
        cases h2
      · simp only [depsOf, ho, List.mem_map, List.mem_filter] at hj
        obtain ⟨e, ⟨he, hb⟩, rfl⟩ := hj
        simp only [ho, Option.map_some, Option.getD_some, Array.all_eq_true'] at h3
        have := h3 e (by simpa using he)
        rw [hb] at this
        exact (hl e.on).1 (by simpa using this)
    · rintro ⟨h1, h2, h3⟩
      obtain ⟨o, ho⟩ := get_of_lt h1
      refine ⟨h1, ?_, ?_⟩
      · have hlt : i < listed.size := by rw [hs]; exact h1
        have hn : ¬ listed.getD i false = true := fun hc => h2 ((hl i).1 hc)
        simp [Array.getD, hlt] at hn ⊢
        exact hn
      · simp only [ho, Option.map_some, Option.getD_some, Array.all_eq_true']
        intro e he
        cases hb : Region.binds .any e with
        | false => rfl
        | true =>
          have := (hl e.on).2 (h3 e.on (by simp only [depsOf, ho, List.mem_map, List.mem_filter]; exact ⟨e, ⟨by simpa using he, hb⟩, rfl⟩))
          simpa using this
  /- nothing is left -/
  have hend : ∀ {fuel : Nat} {D T : List Nat} {V : Nat → Value} {H : AHeap} {ds : List Deferred}, (∀ i, i < ops.size → i ∉ T → ¬ ∀ j ∈ depsOf ops i, j ∈ T) → Inv P ops ai D T V H → AGo P ro ops Q (sans ops ai) fuel D { asg ops D V ai with defers := ds } H →
      Up Q .normal { asg ops T V ai with defers := ds } H := by
    intro fuel D T V H ds hno hI hg
    have hDT : ∀ i ∈ D, i ∈ T := fun i hi => Classical.byContradiction fun hc => by
      obtain ⟨k, hk, hkT, hd⟩ := hI.ord.first ⟨i, hi, hc⟩
      exact hno k (hI.dcl k hk).1 hkT hd
    have hnil : readyL ops D = [] := List.eq_nil_iff_forall_not_mem.2 fun i hi => by
      obtain ⟨h1, h2, h3⟩ := ready_mem.1 hi
      exact hno i h1 (fun hc => h2 (hI.sub i hc)) fun j hj => hDT j (h3 j hj)
    cases fuel with
    | zero => exact hg.elim
    | succ fuel =>
      simp only [AGo, hnil, List.find?_nil] at hg
      have hq := hg.1 trivial
      have e : asg ops D V ai = asg ops T V ai := by
        unfold asg
        congr 1
        funext t
        cases hf : D.find? (fun z => dstOf ops z == some t) with
        | none =>
          cases hg' : T.find? (fun z => dstOf ops z == some t) with
          | none => rfl
          | some z =>
            have := List.find?_eq_none.1 hf z (hI.sub z (List.mem_of_find?_eq_some hg'))
            have h2 := List.find?_some hg'
            exact absurd h2 this
        | some z =>
          have hz := List.mem_of_find?_eq_some hf
          have hd := List.find?_some hf
          cases hg' : T.find? (fun z => dstOf ops z == some t) with
          | none => exact absurd hd (List.find?_eq_none.1 hg' z (hDT z hz))
          | some z' =>
            have hz' := List.mem_of_find?_eq_some hg'
            have hd' := List.find?_some hg'
            have := wf_dst hw (hI.dcl z hz).1 (hI.dcl z' (hI.sub z' hz')).1 (d := t) (by simpa using hd) (by simpa using hd')
            subst this
            rfl
      rw [← e]
      exact up_self hq
  induction fuelσ with
  | zero =>
    intro fuel listed D T V H ds t hl hs hun hI hg
    refine hend (fun i hi hiT _ => ?_) hI hg
    have := unlisted_cons hi hiT
    omega
  | succ fuelσ ih =>
    intro fuel listed D T V H ds t hl hs hun hI hg
    simp only [Region.linearise.go]
    change AOps P ro ops (Up Q) (match (Region.ready .any ops listed)[t % (Region.ready .any ops listed).length]? with
      | some i => Region.linearise.go .any ops fuelσ (t / (Region.ready .any ops listed).length) (listed.setIfInBounds i true) [i]
      | none => [].reverse) _ H
    cases hi : (Region.ready .any ops listed)[t % (Region.ready .any ops listed).length]? with
    | none =>
      have hnil : Region.ready .any ops listed = [] := by
        cases hr : Region.ready .any ops listed with
        | nil => rfl
        | cons x xs =>
          rw [hr] at hi
          have hlt : t % (x :: xs).length < (x :: xs).length := Nat.mod_lt _ (by simp)
          simp at hi
          simp at hlt
          omega
      refine hend (fun i hi hiT hd => ?_) hI hg
      have := (hready hl hs i).2 ⟨hi, hiT, hd⟩
      rw [hnil] at this
      cases this
    | some i =>
      simp only []
      rw [linearise_go_acc, List.reverse_singleton, List.singleton_append]
      obtain ⟨h1, h2, h3⟩ := (hready hl hs i).1 (List.mem_of_getElem? hi)
      obtain ⟨o, ho⟩ := get_of_lt h1
      have hl' : ∀ j, (listed.setIfInBounds i true).getD j false = true ↔ j ∈ i :: T := by
        intro j
        have hlt : i < listed.size := by rw [hs]; exact h1
        simp only [Array.getD_eq_getD_getElem?, List.mem_cons]
        by_cases e : j = i
        · subst e; simp [hlt]
        · rw [Array.getElem?_setIfInBounds_ne (Ne.symm e), ← Array.getD_eq_getD_getElem?, hl j]
          simp [e]
      have hs' : (listed.setIfInBounds i true).size = ops.size := by simpa using hs
      have hun' : unlisted ops (i :: T) ≤ fuelσ := by have := unlisted_cons h1 h2; omega
      obtain ⟨fuel', D', V', hI', hV', hn, hg'⟩ := go_norm hw fuel hI hg
      have haT : asg ops T V ai = asg ops T V' ai := (asg_V hV').symm
      rw [haT]
      have hlook : ∀ {X : List Nat} {W : Nat → Value}, (∀ z ∈ X, z < ops.size) → (∀ z ∈ X, ∀ j ∈ depsOf ops z, j ∈ X) → (∀ j ∈ depsOf ops i, j ∈ X) → i ∉ X → ∀ s ∈ looks ops i, (asg ops X W ai).f s = (asg ops (depsOf ops i) W ai).f s :=
        fun hX hXc hXd hiX s hs => look hw h1 hX hXd (.inr ⟨hiX, hXc⟩) hs
      have hTl : ∀ z ∈ T, z < ops.size := fun z hz => (hI'.dcl z (hI'.sub z hz)).1
      have hlT := hlook (X := T) (W := V') hTl hI'.tcl h3 h2
      simp only [AOps, ho]
      by_cases hiD : i ∈ D'
      · -- the plan has done it
        obtain ⟨o', ho', hfl, hx⟩ := hI'.lag i hiD h2
        rw [ho] at ho'
        cases ho'
        have hI2 := hI'.step hiD h3
        have hVV : vset V' i (V' i) = V' := by funext j; simp only [vset]; split <;> simp_all
        rcases hx with ⟨hw1, hp⟩ | ⟨hw1, hu⟩
        · have hwT : aWanted ops ({ asg ops T V' ai with defers := ds } : AAct) o = some true := by rw [← hw1]; exact wanted_congr ho hlT
          have hpT : aPure P (({ asg ops T V' ai with defers := ds } : AAct).eval P) H o.op = some (V' i) := by rw [← hp]; exact aPure_congr (eval_congr ho hlT)
          refine ⟨true, hwT, fun _ => ?_, fun h => (by cases h)⟩
          unfold AOp
          rw [hpT]
          simp only
          rw [put_asg ho h2, hVV]
          exact ih _ hl' hs' hun' hI2 hg'
        · have hwT : aWanted ops ({ asg ops T V' ai with defers := ds } : AAct) o = some false := by rw [← hw1]; exact wanted_congr ho hlT
          refine ⟨false, hwT, fun h => (by cases h), fun _ => ?_⟩
          rw [← hu, put_asg ho h2, hVV]
          exact ih _ hl' hs' hun' hI2 hg'
      · -- the plan does it now
        have hiR : i ∈ readyL ops D' := ready_mem.2 ⟨h1, hiD, fun j hj => hI'.sub j (h3 j hj)⟩
        have hlD := hlook (X := D') (W := V') (fun z hz => (hI'.dcl z hz).1) (fun z hz => (hI'.dcl z hz).2) (fun j hj => hI'.sub j (h3 j hj)) hiD
        have hlDT : ∀ s ∈ looks ops i, ({ asg ops D' V' ai with defers := ds } : AAct).f s = ({ asg ops T V' ai with defers := ds } : AAct).f s := fun s hs => (hlD s hs).trans (hlT s hs).symm
        simp only [AGo, hn] at hg'
        have hgi := hg'.2 i hiR
        rw [ho] at hgi
        obtain ⟨b, hb, ht, hf⟩ := hgi
        have hbT : aWanted ops ({ asg ops T V' ai with defers := ds } : AAct) o = some b := by rw [← hb]; exact (wanted_congr ho hlDT).symm
        refine ⟨b, hbT, fun hb1 => ?_, fun hb1 => ?_⟩
        · refine AOp_congr (eval_congr ho hlDT) rfl (fun v ds2 H2 hk => ?_) (fun v H2 hx => up_sans hTl hx) (ht hb1)
          have e1 := put_asg (V := V') (v := v) (ai := ai) (ds := ds2) ho hiD
          have e2 := put_asg (V := V') (v := v) (ai := ai) (ds := ds2) ho h2
          simp only at e1 e2 hk ⊢
          rw [e1] at hk
          rw [e2]
          exact ih _ hl' hs' hun' (hI'.both hw hiD h1 h3 (.inr hk.1)) hk.2
        · have hk := hf hb1
          rw [put_asg ho hiD] at hk
          rw [put_asg ho h2]
          exact ih _ hl' hs' hun' (hI'.both (ds := ds) hw hiD h1 h3 (.inl rfl)) hk
theorem AWp_draw {id : Nat} (k : Nat) (hmix : P.follows .mixedOrders = true) (hw : wfDraw ops a.n = true) (h : AGo P ro ops Q (sans ops a) k [] a H) : AWp P ro (.region id ops true) Q a H := by
  intro B0 m w a' F hr ha hf n
  refine wpIn_mono (wpIn_region_draw (Q := LiftQ P B0 m H w (Up Q)) fun t => ?_) fun _ _ _ hl => LiftQ_up hl
  have hs : Region.schedule (P.follows .mixedOrders) ops t = Region.linearise.go .any ops ops.size t (Array.replicate ops.size false) [] := by
    simp only [Region.schedule, hmix, Bool.true_or, if_true]
    rfl
  rw [hs]
  have hI : Inv P ops a [] [] (fun _ => undef) H := ⟨fun _ h => h, fun _ h => (by cases h), fun _ h => (by cases h), fun _ h => (by cases h), trivial⟩
  have hops := go_sim (ro := ro) (Q := Q) hw ops.size (fuel := k) (listed := Array.replicate ops.size false) (T := []) (ds := a.defers) t (fun j => by rw [Array.getD_eq_getD_getElem?, Array.getElem?_replicate]; split <;> simp) (by simp) (Nat.le_trans (List.length_filter_le _ _) (by simp)) hI h
  have hr' : Rel P B0 m H { w with drawn := w.drawn + 1 } := hr.of_heap rfl
  have hB : Keep B0 w { w with drawn := w.drawn + 1 } := Keep.drew (Keep.refl _ _)
  exact AOps_sound (n := n) _ (Ext.refl m _) hB hf hr' ha hops
end
end Go.Ab
/- ABSTRACT MEMORY, 20: the walk. -/
namespace Go.Ab
open Go Go.RowKit
variable [TT]
def look1 : List (Nat × Value) → Nat → Option Value
  | [], _ => none
  | (s, v) :: l, t => cond (Nat.beq t s) (some v) (look1 l t)
theorem look1_cons {s t : Nat} {v : Value} {l : List (Nat × Value)} : look1 ((s, v) :: l) t = if t = s then some v else look1 l t := by
  have _ := TT.tt
  simp only [look1]
  by_cases h : t = s
  · subst h; simp
  · have : Nat.beq t s = false := by
      cases hb : Nat.beq t s with
      | false => rfl
      | true => exact absurd (Nat.eq_of_beq_eq_true hb) h
    rw [this, if_neg h]
    rfl
abbrev env (n : Nat) (l : List (Nat × Value)) (ds : List Deferred) : AAct := ⟨n, look1 l, ds⟩
section
variable {P : Program} {ro : Option Nat} {Q : AExit → AAct → AHeap → Prop} {a : AAct} {H : AHeap}
theorem put_env {n d : Nat} {l : List (Nat × Value)} {ds : List Deferred} {v : Value} (h : d < n) : (env n l ds).put (some d) v = env n ((d, v) :: l) ds := by
  simp only [AAct.put, env, if_pos h]
  congr 1
  funext t
  rw [look1_cons]
theorem put_env_none {n : Nat} {l : List (Nat × Value)} {ds : List Deferred} {v : Value} : (env n l ds).put none v = env n l ds := have _ := TT.tt; rfl
theorem eval_tmp {n t : Nat} {l : List (Nat × Value)} {ds : List Deferred} : (env n l ds).eval P (.tmp t) = look1 l t := have _ := TT.tt; rfl
theorem eval_func {f : FuncId} : a.eval P (.func f) = some (.func (.func f) #[] #[]) := have _ := TT.tt; rfl
theorem eval_const {v : Value} (h : flat v = true) : a.eval P (.const v) = some v := by have _ := TT.tt; simp [AAct.eval, h]
theorem look1_same {l : List (Nat × Value)} {t : Nat} {v : Value} : look1 ((t, v) :: l) t = some v := by simp [look1_cons]
theorem look1_other {l : List (Nat × Value)} {s t : Nat} {v : Value} (h : t ≠ s) : look1 ((s, v) :: l) t = look1 l t := by simp [look1_cons, h]
def AOpsL (P : Program) (ro : Option Nat) (ops : List Oper) (Q : AExit → AAct → AHeap → Prop) : List Oper → AAct → AHeap → Prop
  | [], a, H => Q .normal a H
  | o :: l, a, H => bindO (aWanted ⟨ops⟩ a o) fun b => (b = true → AOp P ro a H o.dst o.op (AOpsL P ro ops Q l) (fun v H' => Q (.panic v) a H')) ∧ (b = false → AOpsL P ro ops Q l (a.put o.dst undef) H)
theorem AOps_of_L {ops : List Oper} : ∀ (l : List Oper) (k : Nat), ops.drop k = l → ∀ {a H}, AOpsL P ro ops Q l a H → AOps P ro ⟨ops⟩ Q (List.range' k l.length) a H := by
  intro l
  induction l with
  | nil => exact fun k _ _ _ h => h
  | cons o l ih =>
    intro k hk a H hh
    have ho : (⟨ops⟩ : Array Oper)[k]? = some o := by
      rw [← Array.getElem?_toList, ← List.head?_drop, hk]
      rfl
    have hl : ops.drop (k + 1) = l := by rw [← List.drop_drop, hk]; rfl
    simp only [List.length_cons, List.range'_succ, AOps, ho]
    obtain ⟨b, hb, h1, h2⟩ := hh
    refine ⟨b, hb, fun e => ?_, fun e => ih (k + 1) hl (h2 e)⟩
    exact AOp_congr (fun _ _ => rfl) rfl (fun v ds H' hk => ih (k + 1) hl hk) (fun _ _ h => h) (h1 e)
theorem AWp_text {id : Nat} {l : List Oper} (h : AOpsL P ro l Q l a H) : AWp P ro (.region id ⟨l⟩ false) Q a H := by
  refine AWp_region ?_
  have := AOps_of_L (ops := l) l 0 rfl h
  rw [List.range_eq_range']
  exact this
theorem L_do {ops : List Oper} {o : Oper} {rest : List Oper} (hg : aWanted ⟨ops⟩ a o = some true) (h : AOp P ro a H o.dst o.op (AOpsL P ro ops Q rest) (fun v H' => Q (.panic v) a H')) : AOpsL P ro ops Q (o :: rest) a H :=
  ⟨true, hg, fun _ => h, fun h => (by cases h)⟩
theorem L_skip {ops : List Oper} {o : Oper} {rest : List Oper} {n d : Nat} {l : List (Nat × Value)} {ds : List Deferred} (hg : aWanted ⟨ops⟩ (env n l ds) o = some false) (hd : o.dst = some d) (h : AOpsL P ro ops Q rest (env n ((d, undef) :: l) ds) H) (hn : d < n := by decide) : AOpsL P ro ops Q (o :: rest) (env n l ds) H :=
  ⟨false, hg, fun h => (by cases h), fun _ => by rw [hd, put_env hn]; exact h⟩
theorem L_nil {ops : List Oper} (h : Q .normal a H) : AOpsL P ro ops Q [] a H := h
def idx (k : Nat) : List Value → List (Nat × Value)
  | [] => []
  | v :: vs => (k, v) :: idx (k + 1) vs
theorem look_idx {args : List Value} {k t : Nat} {v : Value} (h : look1 (idx k args) t = some v) : k ≤ t ∧ args[t - k]? = some v := by
  induction args generalizing k with
  | nil => cases h
  | cons x l ih =>
    simp only [idx, look1_cons] at h
    split at h
    · rename_i e; subst e; simpa using h
    · obtain ⟨h1, h2⟩ := ih h
      have e : t - k = (t - (k + 1)) + 1 := by omega
      exact ⟨by omega, by rw [e]; simpa using h2⟩
theorem AWp_entry {c : Code} {args : List Value} {m : Nat} (n : Nat) (l : List (Nat × Value)) (hn : args.length + (m - args.length) = n) (hl : idx 0 args = l) (h : AWp P ro c Q (env n l []) H) : AWp P ro c Q (aEntry args m) H := by
  subst hl
  refine AWp.forget h (by simp [aEntry, ← hn]) (fun t v ht => ?_) rfl (Sub.refl _)
  obtain ⟨_, h2⟩ := look_idx ht
  have hlt := (List.getElem?_eq_some_iff.1 h2).1
  simp only [aEntry]
  rw [if_pos (by omega)]
  exact h2
section
variable {n d : Nat} {l : List (Nat × Value)} {ds : List Deferred} {op : Op} {ty : TypeId} {pos : String} {aft : Array Edge} {gd : Option (Nat × Bool)} {rest : List Oper} {v : Value} {K : AAct → AHeap → Prop} {X : Value → AHeap → Prop}
theorem E_pure (hv : aPure P ((env n l ds).eval P) H op = some v) (h : K (env n ((d, v) :: l) ds) H) (hd : d < n := by decide) : AOp P ro (env n l ds) H (some d) op K X := by
  simp only [AOp, hv, put_env hd]
  exact h
theorem E_alloc {b : ABlk} {mk : Nat → Value} (ha : aAlloc P ((env n l ds).eval P) op = some (b, mk)) (h : pick H fun i => K (env n ((d, mk i) :: l) ds) (upd H i b)) (hp : aPure P ((env n l ds).eval P) H op = none := by rfl) (hd : d < n := by decide) :
    AOp P ro (env n l ds) H (some d) op K X := by
  simp only [AOp, hp, ha, put_env hd]
  exact h
theorem E_store {x y : Operand} {t : TypeId} {i o : Nat} {b : ABlk} (hx : (env n l ds).eval P x = some (.pointer (some ⟨i, o, none⟩))) (hy : (env n l ds).eval P y = some v) (hs : tSize P t = some v.cells.size) (hb : ((H i).bind fun b => storeB b o v.cells.toList) = some b)
    (h : K (env n l ds) (upd H i b)) : AOp P ro (env n l ds) H none (.store t x y) K X := by
  show AEff P ro (env n l ds) H none K X (.store t x y)
  exact ⟨_, hx, v, hy, hs, b, hb, h⟩
theorem E_call {f : Operand} {args : Array Operand} {ats : Array TypeId} {g : FuncId} {first cap vs : List Value} {R : ARes → AHeap → Prop} (hf : (env n l ds).eval P f = some (.func (.func g) ⟨first⟩ ⟨cap⟩)) (hv : evs ((env n l ds).eval P) args.toList = some vs) (hc : Callable P g)
    (hs : SCalls P g (first ++ vs ++ cap) H R) (hk : ∀ r H', R r H' → onRes (fun v H' => K (env n ((d, v) :: l) ds) H') X r H') (hd : d < n := by decide) :
    AOp P ro (env n l ds) H (some d) (.call ⟨.value f, args, ats⟩) K X := by
  show AEff P ro (env n l ds) H (some d) K X (.call ⟨.value f, args, ats⟩)
  refine ⟨_, hf, vs, hv, hc, hs.mono fun r H' h => ?_⟩
  have := hk r H' h
  cases r with
  | ret v =>
    simp only [onRes, put_env hd]
    exact this
  | pan v => exact this
theorem E_panic {x : Operand} {t : TypeId} (hx : (env n l ds).eval P x = some (.iface t v)) (h : X (.iface t v) H) : AOp P ro (env n l ds) H none (.panic x) K X := by
  show AEff P ro (env n l ds) H none K X (.panic x)
  exact ⟨_, hx, h⟩
theorem E_load {x : Operand} {t : TypeId} {i o : Nat} (hx : (env n l ds).eval P x = some (.pointer (some ⟨i, o, none⟩))) (hv : loadV P t H i o = some v) (h : K (env n ((d, v) :: l) ds) H) (hd : d < n := by decide) : AOp P ro (env n l ds) H (some d) (.load t x) K X :=
  E_pure (by simp only [aPure, hx]; exact hv) h hd
theorem loadV_one {t : TypeId} {i o : Nat} {cs : List Value} {e : TypeId} {k : BKind} (hi : H i = some (.cells cs e k)) (ht : tAgg P t = some false) (hv : cs[o]? = some v) : loadV P t H i o = some v := by
  have _ := TT.tt
  simp only [loadV, hi, ht]
  exact hv
theorem loadV_many {t : TypeId} {i o s : Nat} {cs cs' : List Value} {e : TypeId} {k : BKind} (hi : H i = some (.cells cs e k)) (ht : tAgg P t = some true) (hs : tSize P t = some s) (hl : o + s ≤ cs.length) (hc : (cs.drop o).take s = cs') : loadV P t H i o = some (.agg ⟨cs'⟩) := by
  have _ := TT.tt
  simp only [loadV, hi, ht, hs, Option.bind_some, if_pos hl, hc]
section
variable {ops : Array Oper} {a0 : AAct} {fuel i j : Nat} {D : List Nat}
theorem G_float (hf : (readyL ops D).find? (floatAt ops) = some i) (ho : ops[i]? = some ⟨some d, op, ty, pos, aft, none⟩) (hv : aPure P ((env n l ds).eval P) H op = some v) (h : AGo P ro ops Q a0 fuel (i :: D) (env n ((d, v) :: l) ds) H) (hd : d < n := by decide) :
    AGo P ro ops Q a0 (fuel + 1) D (env n l ds) H := by
  simp only [AGo, hf, ho]
  refine ⟨true, rfl, fun _ => ⟨v, hv, ?_⟩, fun h => (by cases h)⟩
  show AGo P ro ops Q a0 fuel (i :: D) ((env n l ds).put (some d) v) H
  rw [put_env hd]
  exact h
theorem G_end (hr : readyL ops D = []) (h : Q .normal a H) : AGo P ro ops Q a0 (fuel + 1) D a H := by
  simp only [AGo, hr, List.find?_nil]
  exact ⟨fun _ => h, fun i hi => (by cases hi)⟩
def GEff (P : Program) (ro : Option Nat) (ops : Array Oper) (Q : AExit → AAct → AHeap → Prop) (a0 : AAct) (fuel : Nat) (D : List Nat) (a : AAct) (H : AHeap) (i : Nat) : Prop :=
  match ops[i]? with
  | none => False
  | some o => bindO (aWanted ops a o) fun b =>
      (b = true → AOp P ro a H o.dst o.op (fun a1 H1 => Again P ops i a1 H1 D ∧ AGo P ro ops Q a0 fuel (i :: D) a1 H1) (fun v H1 => Q (.panic v) { a0 with defers := a.defers } H1)) ∧
      (b = false → AGo P ro ops Q a0 fuel (i :: D) (a.put o.dst undef) H)
theorem G_one (hf : (readyL ops D).find? (floatAt ops) = none) (hr : readyL ops D = [i]) (h : GEff P ro ops Q a0 fuel D a H i) : AGo P ro ops Q a0 (fuel + 1) D a H := by
  simp only [AGo, hf]
  refine ⟨fun e => ?_, fun k hk => ?_⟩
  · rw [hr] at e; cases e
  · rw [hr] at hk
    simp only [List.mem_singleton] at hk
    subst hk
    exact h
theorem G_two (hf : (readyL ops D).find? (floatAt ops) = none) (hr : readyL ops D = [i, j]) (hi : GEff P ro ops Q a0 fuel D a H i) (hj : GEff P ro ops Q a0 fuel D a H j) : AGo P ro ops Q a0 (fuel + 1) D a H := by
  simp only [AGo, hf]
  refine ⟨fun e => ?_, fun k hk => ?_⟩
  · rw [hr] at e; cases e
  · rw [hr] at hk
    simp only [List.mem_cons, List.not_mem_nil, or_false] at hk
    rcases hk with rfl | rfl
    · exact hi
    · exact hj
theorem G_eff {dst : Option Tmp} (ho : ops[i]? = some ⟨dst, op, ty, pos, aft, none⟩) (h : AOp P ro a H dst op (fun a1 H1 => Again P ops i a1 H1 D ∧ AGo P ro ops Q a0 fuel (i :: D) a1 H1) (fun v H1 => Q (.panic v) { a0 with defers := a.defers } H1)) : GEff P ro ops Q a0 fuel D a H i := by
  simp only [GEff, ho]
  exact ⟨true, rfl, fun _ => h, fun h => (by cases h)⟩
end
theorem AWp_mid {x y : Code} (M : AAct → AHeap → Prop) (h : AWp P ro x (AThen M Q) a H) (hk : ∀ a H, M a H → AWp P ro y Q a H) : AWp P ro (.seq x y) Q a H :=
  AWp_seq (h.mono fun e a H he => by
    cases e with
    | normal => exact hk a H he
    | _ => exact he)
section
variable {ρ : Operand → Option Value} {x ix : Operand} {t e ft : TypeId} {i o off s : Nat} {k : IntKind} {j : Int} {cs cs' : List Value} {c : Nat}
theorem V_load (hx : ρ x = some (.pointer (some ⟨i, o, none⟩))) (hv : loadV P t H i o = some v) : aPure P ρ H (.load t x) = some v := by have _ := TT.tt; simp only [aPure, hx]; exact hv
theorem V_fieldAddr {f : Nat} (hf : fOff P t f = some (off, ft)) (hx : ρ x = some (.pointer (some ⟨i, o, none⟩))) : aPure P ρ H (.fieldAddr t x f) = some (.pointer (some ⟨i, o + off, none⟩)) := by have _ := TT.tt; simp only [aPure, hx, hf]
theorem partV_one (ht : tAgg P t = some false) (hv : cs[o]? = some v) : partV P t cs o = some v := by have _ := TT.tt; simp only [partV, ht]; exact hv
theorem partV_many (ht : tAgg P t = some true) (hs : tSize P t = some s) (hl : o + s ≤ cs.length) (hc : (cs.drop o).take s = cs') : partV P t cs o = some (.agg ⟨cs'⟩) := by have _ := TT.tt; simp only [partV, ht, hs, Option.bind_some, if_pos hl, hc]
theorem V_field {f : Nat} (hf : fOff P t f = some (off, ft)) (hx : ρ x = some (.agg ⟨cs⟩)) (hp : partV P ft cs off = some v) : aPure P ρ H (.field t x f) = some v := by have _ := TT.tt; simp only [aPure, hx, hf]; exact hp
theorem V_indexS (hx : ρ x = some (.slice (some ⟨i, o, none⟩) n c)) (hi : ρ ix = some (.int k j)) (ht : tSlice P t = some e) (hs : tSize P e = some s) (hj : 0 ≤ j ∧ j < n) : aPure P ρ H (.indexAddr t x ix) = some (.pointer (some ⟨i, o + j.toNat * s, none⟩)) := by
  have _ := TT.tt
  simp only [aPure, hx, hi, ht, hs, Option.bind_some, if_pos hj]
theorem V_indexA (hx : ρ x = some (.pointer (some ⟨i, o, none⟩))) (hi : ρ ix = some (.int k j)) (ht : tArr P t = some (n, e)) (hs : tSize P e = some s) (hj : 0 ≤ j ∧ j < n) : aPure P ρ H (.indexAddr t x ix) = some (.pointer (some ⟨i, o + j.toNat * s, none⟩)) := by
  have _ := TT.tt
  simp only [aPure, hx, hi, ht, hs, Option.bind_some, if_pos hj]
theorem V_lenS {ad : Option Addr} (hx : ρ x = some (.slice ad n c)) (ht : tSlice P t = some e) : aPure P ρ H (.call ⟨.builtin .len, #[x], #[t]⟩) = some (.int .i64 n) := by have _ := TT.tt; simp [aPure, hx, ht]
theorem V_iface (ht : tIface P t = some false) (hx : ρ x = some v) : aPure P ρ H (.makeInterface t x) = some (.iface t v) := by have _ := TT.tt; simp only [aPure, ht, if_true, hx, Option.map_some]
end
end
end
def Kept (H H' : AHeap) : Prop := ∀ i b, H i = some b → H' i = some b
theorem Kept.refl (H : AHeap) : Kept H H := have _ := TT.tt; fun _ _ h => h
theorem Kept.trans {H H' H'' : AHeap} (h : Kept H H') (k : Kept H' H'') : Kept H H'' := have _ := TT.tt; fun i b e => k i b (h i b e)
theorem Kept.new {H H' : AHeap} (h : Kept H H') {i : Nat} {b : ABlk} (hi : H' i = none) : Kept H (upd H' i b) := have _ := TT.tt; fun j c e => by
  have hne : j ≠ i := by rintro rfl; rw [h _ _ e] at hi; cases hi
  rw [upd_other _ _ _ _ hne]
  exact h j c e
theorem SCalls.keeps {P : Program} {f : FuncId} {args : List Value} {H : AHeap} {R : ARes → Prop} (ht : TT.tt = false) (h : SCalls P f args H (fun r H' => R r ∧ Kept H H')) : SCalls P f args H (fun r H' => R r ∧ H' = H) :=
  h.weaken (Sub.refl _) fun _ _ hr => ⟨H, .of_le ht hr.2, hr.1, rfl⟩
end Go.Ab
/- ABSTRACT MEMORY, 20b: regions that draw their order, where names are free: what computes, and what makes a block, is done as soon as it can be. -/
namespace Go.Ab
open Go Go.RowKit
variable [TT]
def isMk : Op → Bool
  | .alloc _ | .box _ _ | .buildSlice _ _ _ | .makeSlice _ _ _ => true
  | .makeMap _ r => r.isNone
  | _ => false
def mkAt (ops : Array Oper) (i : Nat) : Bool := match ops[i]? with | some o => isMk o.op | none => false
def againAt (ops : Array Oper) (i : Nat) : Bool := readsAt ops i || mkAt ops i
def wfT (ops : Array Oper) (n : Nat) : Bool :=
  (List.range ops.size).all fun i => (match dstOf ops i with
    | none => !againAt ops i
    | some d => decide (d < n) && !(looks ops i).contains d && (List.range ops.size).all fun j =>
        i == j || (dstOf ops j != some d && (!(looks ops j).contains d || (depsOf ops j).contains i || ((depsOf ops i).contains j && !againAt ops j))))
def nameOf : Value → Option Nat
  | .pointer (some ⟨z, 0, none⟩) => some z
  | .slice (some ⟨z, 0, none⟩) _ _ => some z
  | .map (some z) => some z
  | _ => none
def AgainT (P : Program) (ops : Array Oper) (y : Nat) (a : AAct) (H : AHeap) : List Nat → Prop
  | [] => True
  | i :: D => (againAt ops i = true → (ancOf ops ops.size (depsOf ops y)).contains i = false →
      match ops[i]? with
      | some o => match o.dst with
        | some d => aWanted ops a o = some true → (isFloat o.op = true → aPure P (a.eval P) H o.op = a.f d) ∧ (isMk o.op = true → ∃ b mk z, aAlloc P (a.eval P) o.op = some (b, mk) ∧ a.f d = some (mk z) ∧ H z = some b)
        | none => False
      | none => False) ∧ AgainT P ops y a H D
def BGo (P : Program) (ro : Option Nat) (ops : Array Oper) (Q : AExit → AAct → AHeap → Prop) (a0 : AAct) : Nat → List Nat → AAct → AHeap → Prop
  | 0, _, _, _ => False
  | fuel + 1, D, a, H =>
    match (readyL ops D).find? (floatAt ops) with
    | some i => match ops[i]? with
      | none => False
      | some o => bindO (aWanted ops a o) fun b => (b = true → bindO (aPure P (a.eval P) H o.op) fun v => BGo P ro ops Q a0 fuel (i :: D) (a.put o.dst v) H) ∧ (b = false → BGo P ro ops Q a0 fuel (i :: D) (a.put o.dst undef) H)
    | none => match (readyL ops D).find? (mkAt ops) with
      | some i => match ops[i]? with
        | none => False
        | some o => bindO (aWanted ops a o) fun b => (b = true → bindO (aAlloc P (a.eval P) o.op) fun bm => ∃ z, H z = none ∧ BGo P ro ops Q a0 fuel (i :: D) (a.put o.dst (bm.2 z)) (upd H z bm.1)) ∧ (b = false → BGo P ro ops Q a0 fuel (i :: D) (a.put o.dst undef) H)
      | none => (readyL ops D = [] → Q .normal a H) ∧ ∀ i ∈ readyL ops D, match ops[i]? with
        | none => False
        | some o => bindO (aWanted ops a o) fun b =>
            (b = true → AOp P ro a H o.dst o.op (fun a1 H1 => AgainT P ops i a1 H1 D ∧ BGo P ro ops Q a0 fuel (i :: D) a1 H1) (fun v H1 => Q (.panic v) { a0 with defers := a.defers } H1)) ∧
            (b = false → BGo P ro ops Q a0 fuel (i :: D) (a.put o.dst undef) H)
section
variable {P : Program} {ro : Option Nat} {ops : Array Oper} {Q : AExit → AAct → AHeap → Prop} {ai : AAct} {ds : List Deferred} {D T : List Nat} {V : Nat → Value} {H : AHeap}
theorem loadV_up {H' : AHeap} (hH : ∀ i b, H i = some b → H' i = some b) {t : TypeId} {i o : Nat} {v : Value} (h : loadV P t H i o = some v) : loadV P t H' i o = some v := by
  have _ := TT.tt
  unfold loadV at h ⊢
  cases hi : H i with
  | none => rw [hi] at h; cases h
  | some b => rw [hi] at h; rw [hH i b hi]; exact h
theorem aPure_up {H' : AHeap} (hH : ∀ i b, H i = some b → H' i = some b) {ρ : Operand → Option Value} {op : Op} {v : Value} (h : aPure P ρ H op = some v) : aPure P ρ H' op = some v := by
  cases hr : reads op with
  | false => rw [← aPure_noread hr (H := H)]; exact h
  | true =>
    cases op with
    | load t x =>
      simp only [aPure] at h ⊢
      split at h
      · rename_i hx; exact loadV_up hH h
      · cases h
    | lookup t x k ok =>
      simp only [aPure] at h ⊢
      obtain ⟨u, hu, h1⟩ := option_bind_some h
      clear h
      obtain ⟨y, hy, h2⟩ := option_bind_some h1
      clear h1
      rw [hu, hy]
      simp only [Option.bind_some]
      unfold lookupV at h2 ⊢
      obtain ⟨ke, ht, h3⟩ := option_bind_some h2
      clear h2
      obtain ⟨z, hz, h⟩ := option_bind_some h3
      clear h3
      rw [ht]
      simp only [Option.bind_some]
      rw [hz]
      simp only [Option.bind_some]
      split at h
      · rename_i hc
        rw [if_pos hc]
        split at h
        · exact h
        · rename_i i
          cases hi : H i with
          | none => rw [hi] at h; cases h
          | some b => rw [hi] at h; rw [hH i b hi]; exact h
        · cases h
      · cases h
    | slice t x lo hi mx =>
      cases mx with
      | some m => cases hi with
        | none => simp [aPure] at h
        | some _ => exact h
      | none =>
        simp only [aPure] at h ⊢
        obtain ⟨u, hu, h1⟩ := option_bind_some h
        clear h
        obtain ⟨l, hl, h2⟩ := option_bind_some h1
        clear h1
        obtain ⟨q, hq, h⟩ := option_bind_some h2
        clear h2
        rw [hu, hl, hq]
        simp only [Option.bind_some]
        unfold slicePart at h ⊢
        split at h
        · rename_i i o
          cases hi : H i with
          | none => rw [hi] at h; cases h
          | some b => rw [hi] at h; rw [hH i b hi]; exact h
        · exact h
        · exact h
    | call c =>
      obtain ⟨callee, args, ats⟩ := c
      cases callee with
      | builtin b =>
        cases b <;> first
          | (simp [aPure] at h; done)
          | exact h
          | (simp only [aPure] at h ⊢
             split at h
             · rename_i x t
               split at h
               · rename_i hx; exact h
               · rename_i hx; exact h
               · rename_i hx; exact h
               · rename_i i hx
                 split at h
                 · rename_i hs
                   rw [if_pos hs]
                   cases hi : H i with
                   | none => rw [hi] at h; cases h
                   | some b => rw [hi] at h; rw [hH i b hi]; exact h
                 · cases h
               · rename_i hx; exact h
               · cases h
             · cases h)
      | _ => simp [aPure] at h
    | _ => simp [reads] at hr
theorem nameOf_mk {o : Op} {ρ : Operand → Option Value} {b : ABlk} {mk : Nat → Value} (h : aAlloc P ρ o = some (b, mk)) (z : Nat) : nameOf (mk z) = some z := by
  have _ := TT.tt
  cases o with
  | alloc t =>
    simp only [aAlloc] at h
    obtain ⟨x, _, h⟩ := option_bind_some h
    split at h
    · cases h; rfl
    · cases h
  | box t x =>
    simp only [aAlloc] at h
    cases hx : ρ x with
    | none => rw [hx] at h; cases h
    | some v => rw [hx] at h; cases h; rfl
  | buildSlice t n ps =>
    simp only [aAlloc] at h
    obtain ⟨e, _, h⟩ := option_bind_some h
    obtain ⟨s, _, h⟩ := option_bind_some h
    obtain ⟨x, _, h⟩ := option_bind_some h
    obtain ⟨y, _, h⟩ := option_bind_some h
    split at h
    · cases hf : fillV (fun i => some (i * s, s)) (zCells x.cells.toList (n * s)) y with
      | none => rw [hf] at h; cases h
      | some cs => rw [hf] at h; cases h; rfl
    · cases h
  | makeSlice t l c =>
    simp only [aAlloc] at h
    obtain ⟨e, _, h⟩ := option_bind_some h
    obtain ⟨s, _, h⟩ := option_bind_some h
    obtain ⟨x, _, h⟩ := option_bind_some h
    obtain ⟨y, _, h⟩ := option_bind_some h
    split at h
    · split at h
      · cases h; rfl
      · cases h
    · cases h
  | makeMap t r =>
    cases r with
    | some _ =>
      simp only [aAlloc] at h
      split at h
      · split at h
        · cases h; rfl
        · cases h
      · cases h
    | none =>
      simp only [aAlloc] at h
      split at h
      · cases h; rfl
      · cases h
  | _ => simp [aAlloc] at h
def LagT (P : Program) (ops : Array Oper) (ai : AAct) (V : Nat → Value) (H : AHeap) (i : Nat) (o : Oper) : Prop :=
  (isFloat o.op = true ∧ ((aWanted ops (asg ops (depsOf ops i) V ai) o = some true ∧ aPure P ((asg ops (depsOf ops i) V ai).eval P) H o.op = some (V i)) ∨ (aWanted ops (asg ops (depsOf ops i) V ai) o = some false ∧ V i = undef))) ∨
  (isMk o.op = true ∧ ((aWanted ops (asg ops (depsOf ops i) V ai) o = some true ∧ ∃ b mk z, aAlloc P ((asg ops (depsOf ops i) V ai).eval P) o.op = some (b, mk) ∧ V i = mk z ∧ H z = some b) ∨ (aWanted ops (asg ops (depsOf ops i) V ai) o = some false ∧ V i = undef)))
structure InvT (P : Program) (ops : Array Oper) (ai : AAct) (D T : List Nat) (V : Nat → Value) (H : AHeap) : Prop where
  sub : ∀ i ∈ T, i ∈ D
  dcl : ∀ i ∈ D, i < ops.size ∧ ∀ j ∈ depsOf ops i, j ∈ D
  tcl : ∀ i ∈ T, ∀ j ∈ depsOf ops i, j ∈ T
  lag : ∀ i ∈ D, i ∉ T → ∃ o, ops[i]? = some o ∧ LagT P ops ai V H i o
  ord : OrdD ops D
  dist : ∀ i ∈ D, i ∉ T → ∀ j ∈ D, j ∉ T → i ≠ j → mkAt ops i = true → mkAt ops j = true → ∀ z, nameOf (V i) = some z → nameOf (V j) ≠ some z
def Blank (ops : Array Oper) (D T : List Nat) (V : Nat → Value) (m : NMap) (H0 : AHeap) : Prop := ∀ i ∈ D, i ∉ T → mkAt ops i = true → ∀ z, nameOf (V i) = some z → m z = none ∧ H0 z = none
theorem float_mk {op : Op} (h : isFloat op = true) : isMk op = false := by
  have _ := TT.tt
  cases op <;> first | rfl | (simp [isFloat] at h)
theorem wfT_at (hw : wfT ops ai.n = true) {i : Nat} (hi : i < ops.size) : (match dstOf ops i with
    | none => !againAt ops i
    | some d => decide (d < ai.n) && !(looks ops i).contains d && (List.range ops.size).all fun j =>
        i == j || (dstOf ops j != some d && (!(looks ops j).contains d || (depsOf ops j).contains i || ((depsOf ops i).contains j && !againAt ops j)))) = true := have _ := TT.tt;
  (List.all_eq_true.1 hw) i (by simpa using hi)
theorem wfT_dst (hw : wfT ops ai.n = true) {i j : Nat} (hi : i < ops.size) (hj : j < ops.size) {d : Tmp} (h1 : dstOf ops i = some d) (h2 : dstOf ops j = some d) : i = j := by
  have h := wfT_at hw hi
  rw [h1] at h
  simp only [Bool.and_eq_true, List.all_eq_true] at h
  have := h.2 j (by simpa using hj)
  rw [h2] at this
  simpa using this
theorem wfT_looks (hw : wfT ops ai.n = true) {i j : Nat} (hi : i < ops.size) (hj : j < ops.size) {d : Tmp} (h1 : dstOf ops i = some d) (h2 : d ∈ looks ops j) : i ≠ j ∧ (i ∈ depsOf ops j ∨ (j ∈ depsOf ops i ∧ againAt ops j = false)) := by
  have h := wfT_at hw hi
  rw [h1] at h
  simp only [Bool.and_eq_true, List.all_eq_true] at h
  have hne : i ≠ j := by
    rintro rfl
    have := h.1.2
    simp [h2] at this
  have := h.2 j (by simpa using hj)
  simp only [Bool.or_eq_true, Bool.and_eq_true, beq_iff_eq, hne, false_or, bne_iff_ne, Bool.not_eq_true', List.contains_eq_mem, decide_eq_true_eq, decide_eq_false_iff_not, h2, not_true_eq_false] at this
  exact ⟨hne, this.2⟩
theorem wfT_lt (hw : wfT ops ai.n = true) {i : Nat} (hi : i < ops.size) {d : Tmp} (h1 : dstOf ops i = some d) : d < ai.n := by
  have h := wfT_at hw hi
  rw [h1] at h
  simp only [Bool.and_eq_true, decide_eq_true_eq] at h
  exact h.1.1
theorem lookT (hw : wfT ops ai.n = true) {i : Nat} (hi : i < ops.size) (hTs : ∀ z ∈ T, z < ops.size) (hdeps : ∀ j ∈ depsOf ops i, j ∈ T) (h : againAt ops i = true ∨ (i ∉ T ∧ ∀ z ∈ T, ∀ j ∈ depsOf ops z, j ∈ T)) {t : Tmp} (ht : t ∈ looks ops i) :
    (asg ops T V ai).f t = (asg ops (depsOf ops i) V ai).f t := by
  simp only [asg]
  have key : ∀ z ∈ T, dstOf ops z = some t → z ∈ depsOf ops i := by
    intro z hz hd
    obtain ⟨_, h1 | h1⟩ := wfT_looks hw (hTs z hz) hi hd ht
    · exact h1
    · rcases h with h | h
      · rw [h] at h1; exact absurd h1.2 (by simp)
      · exact absurd (h.2 z hz i h1.1) h.1
  cases hf : T.find? (fun z => dstOf ops z == some t) with
  | some z =>
    have hz := List.mem_of_find?_eq_some hf
    have hd : dstOf ops z = some t := by simpa using List.find?_some hf
    cases hg : (depsOf ops i).find? (fun z => dstOf ops z == some t) with
    | some z' =>
      have hz' := List.mem_of_find?_eq_some hg
      have hd' : dstOf ops z' = some t := by simpa using List.find?_some hg
      rw [wfT_dst hw (hTs z hz) (hTs z' (hdeps z' hz')) hd hd']
    | none =>
      have := List.find?_eq_none.1 hg z (key z hz hd)
      simp [hd] at this
  | none =>
    cases hg : (depsOf ops i).find? (fun z => dstOf ops z == some t) with
    | some z' =>
      have hz' := List.mem_of_find?_eq_some hg
      have hd' : dstOf ops z' = some t := by simpa using List.find?_some hg
      have := List.find?_eq_none.1 hf z' (hdeps z' hz')
      simp [hd'] at this
    | none => rfl
theorem LagT.congr {V' : Nat → Value} {H' : AHeap} {i : Nat} {o : Oper} (h : LagT P ops ai V H i o) (hV : asg ops (depsOf ops i) V' ai = asg ops (depsOf ops i) V ai) (hi : V' i = V i) (hH : ∀ i b, H i = some b → H' i = some b) : LagT P ops ai V' H' i o := by
  unfold LagT at h ⊢
  rw [hV, hi]
  rcases h with ⟨h1, h2⟩ | ⟨h1, h2⟩
  · refine .inl ⟨h1, ?_⟩
    rcases h2 with ⟨h2, h3⟩ | h2
    · exact .inl ⟨h2, aPure_up hH h3⟩
    · exact .inr h2
  · refine .inr ⟨h1, ?_⟩
    rcases h2 with ⟨h2, b, mk, z, h3, h4, h5⟩ | h2
    · exact .inl ⟨h2, b, mk, z, h3, h4, hH z b h5⟩
    · exact .inr h2
theorem LagT.inH {i : Nat} {o : Oper} (ho : ops[i]? = some o) (h : LagT P ops ai V H i o) (hm : mkAt ops i = true) {z : Nat} (hz : nameOf (V i) = some z) : H z ≠ none := by
  have hmk : isMk o.op = true := by simpa [mkAt, ho] using hm
  rcases h with ⟨h1, _⟩ | ⟨_, ⟨_, b, mk, z', h3, h4, h5⟩ | ⟨_, h4⟩⟩
  · rw [float_mk h1] at hmk; cases hmk
  · rw [h4, nameOf_mk h3] at hz
    cases hz
    rw [h5]; simp
  · rw [h4] at hz; cases hz
theorem InvT.plan (_hw : wfT ops ai.n = true) (h : InvT P ops ai D T V H) {i : Nat} (hi : i ∈ readyL ops D) {o : Oper} (ho : ops[i]? = some o) {v : Value} {H' : AHeap} (hH : ∀ i b, H i = some b → H' i = some b)
    (hl : LagT P ops ai (vset V i v) H' i o) (hd : mkAt ops i = true → ∀ z, nameOf v = some z → H z = none) : InvT P ops ai (i :: D) T (vset V i v) H' := by
  obtain ⟨h1, h2, h3⟩ := ready_mem.1 hi
  have hVd : ∀ k ∈ D, asg ops (depsOf ops k) (vset V i v) ai = asg ops (depsOf ops k) V ai := fun k hk => asg_V fun j hj => by
    have : j ≠ i := by rintro rfl; exact h2 ((h.dcl k hk).2 j hj)
    simp [vset, this]
  have hne : ∀ k ∈ D, vset V i v k = V k := fun k hk => by
    have : k ≠ i := by rintro rfl; exact h2 hk
    simp [vset, this]
  have hself : vset V i v i = v := by simp [vset]
  refine ⟨fun k hk => List.mem_cons_of_mem _ (h.sub k hk), fun k hk => ?_, h.tcl, fun k hk hkT => ?_, ⟨h3, h.ord⟩, ?_⟩
  · rcases List.mem_cons.1 hk with rfl | hk
    · exact ⟨h1, fun j hj => List.mem_cons_of_mem _ (h3 j hj)⟩
    · exact ⟨(h.dcl k hk).1, fun j hj => List.mem_cons_of_mem _ ((h.dcl k hk).2 j hj)⟩
  · by_cases e : k = i
    · subst e
      exact ⟨o, ho, hl⟩
    · have hkD : k ∈ D := by simpa [e] using hk
      obtain ⟨o', ho', hx⟩ := h.lag k hkD hkT
      exact ⟨o', ho', hx.congr (hVd k hkD) (hne k hkD) hH⟩
  · intro k hk hkT j hj hjT hkj mk mj z hz
    by_cases e1 : k = i
    · by_cases e2 : j = i
      · exact absurd (e1.trans e2.symm) hkj
      · have hjD : j ∈ D := by simpa [e2] using hj
        rw [e1, hself] at hz
        rw [hne j hjD]
        intro hz'
        obtain ⟨o', ho', hx⟩ := h.lag j hjD hjT
        exact hx.inH ho' mj hz' (hd (e1 ▸ mk) z hz)
    · have hkD : k ∈ D := by simpa [e1] using hk
      rw [hne k hkD] at hz
      by_cases e2 : j = i
      · rw [e2, hself]
        intro hz'
        obtain ⟨o', ho', hx⟩ := h.lag k hkD hkT
        exact hx.inH ho' mk hz (hd (e2 ▸ mj) z hz')
      · have hjD : j ∈ D := by simpa [e2] using hj
        rw [hne j hjD]
        exact h.dist k hkD hkT j hjD hjT hkj mk mj z hz
theorem Blank.plan {i : Nat} {m : NMap} {H0 : AHeap} (hb : Blank ops D T V m H0) (h2 : i ∉ D) {v : Value} (hd : mkAt ops i = true → ∀ z, nameOf v = some z → m z = none ∧ H0 z = none) : Blank ops (i :: D) T (vset V i v) m H0 := by
  have _ := TT.tt
  intro k hk hkT mk z hz
  by_cases e : k = i
  · subst e
    exact hd mk z (by simpa [vset] using hz)
  · have hkD : k ∈ D := by simpa [e] using hk
    exact hb k hkD hkT mk z (by simpa [vset, e] using hz)
end
end Go.Ab
/- ABSTRACT MEMORY, 20c: regions that draw their order, where names are free: the rule. -/
namespace Go.Ab
open Go Go.RowKit
variable [TT]
section
variable {P : Program} {B0 : Prot} {m : NMap} {w : World} {ro : Option Nat} {ops : Array Oper} {Q : AExit → AAct → AHeap → Prop} {ai : AAct} {ds : List Deferred} {D T : List Nat} {V : Nat → Value} {H : AHeap} {a : AAct}
theorem Rel.phantom (h : Rel P B0 m H w) {z : Nat} (hm : m z = none) (b : ABlk) : Rel P B0 m (upd H z b) w where
  blocks i c f hi hg := by
    have e : i ≠ z := by rintro rfl; rw [hm] at hg; cases hg
    rw [upd_other _ _ _ _ e] at hi
    exact h.blocks i c f hi hg
  inj i k c d g g' hik hi hk hci hck hgi hgk := by
    have e : i ≠ z := by rintro rfl; rw [hm] at hgi; cases hgi
    have e' : k ≠ z := by rintro rfl; rw [hm] at hgk; cases hgk
    rw [upd_other _ _ _ _ e] at hi
    rw [upd_other _ _ _ _ e'] at hk
    exact h.inj i k c d g g' hik hi hk hci hck hgi hgk
  fin := by
    obtain ⟨N, hN⟩ := h.fin
    refine ⟨max N (z + 1), fun i hi => ?_⟩
    have h1 : i ≠ z := by omega
    exact ⟨(hN i (by omega)).1, by rw [upd_other _ _ _ _ h1]; exact (hN i (by omega)).2⟩
  base := h.base
  glob := h.glob
  tot ht i hi := by
    by_cases e : i = z
    · subst e; exact hm
    · rw [upd_other _ _ _ _ e] at hi; exact h.tot ht i hi
theorem Rel.without (h : Rel P B0 m H w) {z : Nat} (hm : m z = none) : Rel P B0 m (fun j => if j = z then none else H j) w where
  blocks i c f hi hg := by
    have e : i ≠ z := by rintro rfl; rw [hm] at hg; cases hg
    simp only [e, if_false] at hi
    exact h.blocks i c f hi hg
  inj i k c d g g' hik hi hk hci hck hgi hgk := by
    have e : i ≠ z := by rintro rfl; rw [hm] at hgi; cases hgi
    have e' : k ≠ z := by rintro rfl; rw [hm] at hgk; cases hgk
    simp only [e, if_false] at hi
    simp only [e', if_false] at hk
    exact h.inj i k c d g g' hik hi hk hci hck hgi hgk
  fin := by
    obtain ⟨N, hN⟩ := h.fin
    refine ⟨N, fun i hi => ⟨(hN i hi).1, ?_⟩⟩
    split
    · rfl
    · exact (hN i hi).2
  base := h.base
  glob := h.glob
  tot ht i hi := by
    by_cases e : i = z
    · subst e; exact hm
    · simp only [e, if_false] at hi; exact h.tot ht i hi
theorem goT_norm (htt : TT.tt = true) (hw : wfT ops ai.n = true) {a0 : AAct} {m0 : NMap} {H0 : AHeap} (fuel : Nat) : ∀ {D : List Nat} {V : Nat → Value} {H : AHeap}, InvT P ops ai D T V H → Blank ops D T V m H0 → Ext m0 H0 m H → Rel P B0 m H w →
    BGo P ro ops Q a0 fuel D { asg ops D V ai with defers := ds } H →
    ∃ fuel' D' V' H', InvT P ops ai D' T V' H' ∧ Blank ops D' T V' m H0 ∧ Ext m0 H0 m H' ∧ Rel P B0 m H' w ∧ (∀ i ∈ T, V' i = V i) ∧ (readyL ops D').find? (floatAt ops) = none ∧ (readyL ops D').find? (mkAt ops) = none ∧
      BGo P ro ops Q a0 (fuel' + 1) D' { asg ops D' V' ai with defers := ds } H' := by
  induction fuel with
  | zero => exact fun _ _ _ _ h => h.elim
  | succ fuel ih =>
    intro D V H hI hB hE hr h
    have fin : ∀ {i : Nat} (v : Value) (H2 : AHeap), i ∉ D → InvT P ops ai (i :: D) T (vset V i v) H2 → Blank ops (i :: D) T (vset V i v) m H0 → Ext m0 H0 m H2 → Rel P B0 m H2 w →
        BGo P ro ops Q a0 fuel (i :: D) { asg ops (i :: D) (vset V i v) ai with defers := ds } H2 →
        ∃ fuel' D' V' H', InvT P ops ai D' T V' H' ∧ Blank ops D' T V' m H0 ∧ Ext m0 H0 m H' ∧ Rel P B0 m H' w ∧ (∀ i ∈ T, V' i = V i) ∧ (readyL ops D').find? (floatAt ops) = none ∧ (readyL ops D').find? (mkAt ops) = none ∧
          BGo P ro ops Q a0 (fuel' + 1) D' { asg ops D' V' ai with defers := ds } H' := by
      intro i v H2 h2 g1 g2 g3 g4 g5
      obtain ⟨fuel', D', V', H', p1, p2, p3, p4, p5, p6, p7, p8⟩ := ih g1 g2 g3 g4 g5
      refine ⟨fuel', D', V', H', p1, p2, p3, p4, fun k hk => ?_, p6, p7, p8⟩
      rw [p5 k hk]
      have : k ≠ i := by rintro rfl; exact h2 (hI.sub k hk)
      simp [vset, this]
    have hlook : ∀ {i : Nat} {o : Oper} {v : Value}, i ∈ readyL ops D → ops[i]? = some o → (∀ s ∈ looks ops i, (asg ops D V ai).f s = (asg ops (depsOf ops i) (vset V i v) ai).f s) := by
      intro i o v hi ho s hs
      obtain ⟨h1, h2, h3⟩ := ready_mem.1 hi
      have hVi : asg ops (depsOf ops i) (vset V i v) ai = asg ops (depsOf ops i) V ai := asg_V fun j hj => by
        have : j ≠ i := by rintro rfl; exact h2 (h3 j hj)
        simp [vset, this]
      rw [hVi]
      exact lookT hw h1 (fun z hz => (hI.dcl z hz).1) h3 (.inr ⟨h2, fun z hz => (hI.dcl z hz).2⟩) hs
    cases hf : (readyL ops D).find? (floatAt ops) with
    | some i =>
      have hi := List.mem_of_find?_eq_some hf
      have hfl := List.find?_some hf
      obtain ⟨h1, h2, h3⟩ := ready_mem.1 hi
      obtain ⟨o, ho⟩ := get_of_lt h1
      have hfl' : isFloat o.op = true := by simpa [floatAt, ho] using hfl
      have hnm : mkAt ops i = false := by simp [mkAt, ho, float_mk hfl']
      simp only [BGo, hf, ho] at h
      obtain ⟨b, hb, ht, hfa⟩ := h
      have hb' : aWanted ops (asg ops D V ai) o = some b := hb
      cases b with
      | true =>
        obtain ⟨v, hv, hg⟩ := ht rfl
        rw [put_asg ho h2] at hg
        have hl := hlook (v := v) hi ho
        refine fin v H h2 (hI.plan hw hi ho (fun _ _ h => h) (.inl ⟨hfl', .inl ⟨?_, ?_⟩⟩) (by rw [hnm]; exact fun h => (by cases h))) (hB.plan h2 (by rw [hnm]; exact fun h => (by cases h))) hE hr hg
        · rw [← wanted_congr ho hl]; exact hb'
        · rw [← aPure_congr (eval_congr ho hl), show vset V i v i = v by simp [vset]]
          exact hv
      | false =>
        have hg := hfa rfl
        rw [put_asg ho h2] at hg
        have hl := hlook (v := undef) hi ho
        refine fin undef H h2 (hI.plan hw hi ho (fun _ _ h => h) (.inl ⟨hfl', .inr ⟨?_, by simp [vset]⟩⟩) (by rw [hnm]; exact fun h => (by cases h))) (hB.plan h2 (by rw [hnm]; exact fun h => (by cases h))) hE hr hg
        rw [← wanted_congr ho hl]; exact hb'
    | none =>
      cases hk : (readyL ops D).find? (mkAt ops) with
      | none => exact ⟨fuel, D, V, H, hI, hB, hE, hr, fun _ _ => rfl, hf, hk, h⟩
      | some i =>
        have hi := List.mem_of_find?_eq_some hk
        have hmk := List.find?_some hk
        obtain ⟨h1, h2, h3⟩ := ready_mem.1 hi
        obtain ⟨o, ho⟩ := get_of_lt h1
        have hmk' : isMk o.op = true := by simpa [mkAt, ho] using hmk
        simp only [BGo, hf, hk, ho] at h
        obtain ⟨b, hb, ht, hfa⟩ := h
        have hb' : aWanted ops (asg ops D V ai) o = some b := hb
        cases b with
        | true =>
          obtain ⟨bm, hbm, z, hz, hg⟩ := ht rfl
          obtain ⟨b, mk⟩ := bm
          rw [put_asg ho h2] at hg
          have hl := hlook (v := mk z) hi ho
          have hmz := hr.tot htt z hz
          have hup : ∀ i b', H i = some b' → upd H z b i = some b' := fun i b' hi => by
            have : i ≠ z := by rintro rfl; rw [hz] at hi; cases hi
            rw [upd_other _ _ _ _ this]; exact hi
          have hH0 : H0 z = none := by
            cases h0 : H0 z with
            | none => rfl
            | some x => exact absurd hz (hE.same htt z (by rw [h0]; simp)).2
          have hnz : ∀ z', nameOf (mk z) = some z' → z' = z := fun z' h' => by rw [nameOf_mk hbm] at h'; cases h'; rfl
          refine fin (mk z) (upd H z b) h2 (hI.plan hw hi ho hup (.inr ⟨hmk', .inl ⟨?_, b, mk, z, ?_, by simp [vset], by simp⟩⟩) fun _ z' h' => by rw [hnz z' h']; exact hz) (hB.plan h2 fun _ z' h' => by rw [hnz z' h']; exact ⟨hmz, hH0⟩)
            (hE.trans (Ext.upd _ _ _ _)) (hr.phantom hmz b) hg
          · rw [← wanted_congr ho hl]; exact hb'
          · rw [← aAlloc_congr (eval_congr ho hl)]
            exact hbm
        | false =>
          have hg := hfa rfl
          rw [put_asg ho h2] at hg
          have hl := hlook (v := undef) hi ho
          refine fin undef H h2 (hI.plan hw hi ho (fun _ _ h => h) (.inr ⟨hmk', .inr ⟨?_, by simp [vset]⟩⟩) fun _ z' h' => (by cases h')) (hB.plan h2 fun _ z' h' => (by cases h')) hE hr hg
          rw [← wanted_congr ho hl]; exact hb'
theorem InvT.step (h : InvT P ops ai D T V H) {i : Nat} (hi : i ∈ D) (hd : ∀ j ∈ depsOf ops i, j ∈ T) : InvT P ops ai D (i :: T) V H := by
  have _ := TT.tt
  refine ⟨fun k hk => ?_, h.dcl, fun k hk j hj => ?_, fun k hk hkT => h.lag k hk fun hc => hkT (List.mem_cons_of_mem _ hc), h.ord, fun k hk hkT j hj hjT => h.dist k hk (fun hc => hkT (List.mem_cons_of_mem _ hc)) j hj fun hc => hjT (List.mem_cons_of_mem _ hc)⟩
  · rcases List.mem_cons.1 hk with rfl | hk
    · exact hi
    · exact h.sub k hk
  · rcases List.mem_cons.1 hk with rfl | hk
    · exact List.mem_cons_of_mem _ (hd j hj)
    · exact List.mem_cons_of_mem _ (h.tcl k hk j hj)
theorem againT_at {y : Nat} (h : AgainT P ops y a H D) {i : Nat} (hi : i ∈ D) : againAt ops i = true → (ancOf ops ops.size (depsOf ops y)).contains i = false →
    match ops[i]? with
      | some o => match o.dst with
        | some d => aWanted ops a o = some true → (isFloat o.op = true → aPure P (a.eval P) H o.op = a.f d) ∧ (isMk o.op = true → ∃ b mk z, aAlloc P (a.eval P) o.op = some (b, mk) ∧ a.f d = some (mk z) ∧ H z = some b)
        | none => False
      | none => False := by
  have _ := TT.tt
  induction D with
  | nil => cases hi
  | cons x D ih =>
    rcases List.mem_cons.1 hi with rfl | hi
    · exact h.1
    · exact ih h.2 hi
theorem InvT.both (hw : wfT ops ai.n = true) (h : InvT P ops ai D T V H) {i : Nat} (hiD : i ∉ D) (hi : i < ops.size) (hd : ∀ j ∈ depsOf ops i, j ∈ T) {v : Value} {H1 : AHeap} (hag : H1 = H ∨ AgainT P ops i { asg ops (i :: D) (vset V i v) ai with defers := ds } H1 D) :
    InvT P ops ai (i :: D) (i :: T) (vset V i v) H1 := by
  have hVd : ∀ k ∈ D, asg ops (depsOf ops k) (vset V i v) ai = asg ops (depsOf ops k) V ai := fun k hk => asg_V fun j hj => by
    have : j ≠ i := by rintro rfl; exact hiD ((h.dcl k hk).2 j hj)
    simp [vset, this]
  have hD3 : ∀ j ∈ depsOf ops i, j ∈ D := fun j hj => h.sub j (hd j hj)
  have hdcl : ∀ k ∈ i :: D, k < ops.size ∧ ∀ j ∈ depsOf ops k, j ∈ i :: D := fun k hk => by
    rcases List.mem_cons.1 hk with rfl | hk
    · exact ⟨hi, fun j hj => List.mem_cons_of_mem _ (hD3 j hj)⟩
    · exact ⟨(h.dcl k hk).1, fun j hj => List.mem_cons_of_mem _ ((h.dcl k hk).2 j hj)⟩
  have hne : ∀ k ∈ D, vset V i v k = V k := fun k hk => by
    have : k ≠ i := by rintro rfl; exact hiD hk
    simp [vset, this]
  have lagD : ∀ k, k ∈ i :: D → k ∉ i :: T → k ∈ D ∧ k ∉ T := fun k hk hkT => by
    have hki : k ≠ i := by rintro rfl; exact hkT List.mem_cons_self
    exact ⟨by simpa [hki] using hk, fun hc => hkT (List.mem_cons_of_mem _ hc)⟩
  refine ⟨fun k hk => ?_, hdcl, fun k hk j hj => ?_, fun k hk hkT => ?_, ⟨hD3, h.ord⟩, ?_⟩
  · rcases List.mem_cons.1 hk with rfl | hk
    · exact List.mem_cons_self
    · exact List.mem_cons_of_mem _ (h.sub k hk)
  · rcases List.mem_cons.1 hk with rfl | hk
    · exact List.mem_cons_of_mem _ (hd j hj)
    · exact List.mem_cons_of_mem _ (h.tcl k hk j hj)
  · obtain ⟨hkD, hkT'⟩ := lagD k hk hkT
    obtain ⟨o, ho, hx⟩ := h.lag k hkD hkT'
    refine ⟨o, ho, ?_⟩
    have hvk := hne k hkD
    rcases hag with rfl | hag
    · exact hx.congr (hVd k hkD) hvk fun _ _ h => h
    · have hanc : (ancOf ops ops.size (depsOf ops i)).contains k = false := by
        cases hc : (ancOf ops ops.size (depsOf ops i)).contains k with
        | false => rfl
        | true => exact absurd (anc_sub h.tcl _ hd k (by simpa using hc)) hkT'
      have hself : ∀ {d : Tmp}, o.dst = some d → (asg ops (i :: D) (vset V i v) ai).f d = some (V k) := by
        intro d hdst
        have hdk : dstOf ops k = some d := by simp [dstOf, ho, hdst]
        have hdn : d < ai.n := wfT_lt hw (h.dcl k hkD).1 hdk
        simp only [asg]
        cases hf : (i :: D).find? (fun z => dstOf ops z == some d) with
        | none =>
          have := List.find?_eq_none.1 hf k hk
          simp [hdk] at this
        | some z =>
          have hz := List.mem_of_find?_eq_some hf
          have hdz : dstOf ops z = some d := by simpa using List.find?_some hf
          have := wfT_dst hw (hdcl z hz).1 (h.dcl k hkD).1 hdz hdk
          subst this
          simp [hdn, hvk]
      have hlk : againAt ops k = true → ∀ t ∈ looks ops k, ({ asg ops (i :: D) (vset V i v) ai with defers := ds } : AAct).f t = (asg ops (depsOf ops k) V ai).f t := fun hA t ht => by
        rw [← hVd k hkD]
        exact lookT hw (h.dcl k hkD).1 (fun z hz => (hdcl z hz).1) (fun j hj => (hdcl k hk).2 j hj) (.inl hA) ht
      unfold LagT at hx ⊢
      rw [hVd k hkD, hvk]
      rcases hx with ⟨hfl, ⟨h1, h2⟩ | h2⟩ | ⟨hmk, ⟨h1, b, mk, z, h2, h3, h4⟩ | h2⟩
      · refine .inl ⟨hfl, .inl ⟨h1, ?_⟩⟩
        cases hrd : reads o.op with
        | false => rw [← h2]; exact aPure_noread hrd
        | true =>
          have hrA : againAt ops k = true := by simp [againAt, readsAt, ho, hfl, hrd]
          have hA := againT_at hag hkD hrA hanc
          rw [ho] at hA
          simp only at hA
          have hl' := hlk hrA
          split at hA
          · rename_i d hdst
            have h3 := (hA (by rw [wanted_congr ho hl']; exact h1)).1 hfl
            rw [aPure_congr (eval_congr ho hl')] at h3
            rw [h3]
            exact hself hdst
          · exact hA.elim
      · exact .inl ⟨hfl, .inr h2⟩
      · refine .inr ⟨hmk, .inl ⟨h1, ?_⟩⟩
        have hrA : againAt ops k = true := by simp [againAt, mkAt, ho, hmk]
        have hA := againT_at hag hkD hrA hanc
        rw [ho] at hA
        simp only at hA
        have hl' := hlk hrA
        split at hA
        · rename_i d hdst
          obtain ⟨b', mk', z', q1, q2, q3⟩ := (hA (by rw [wanted_congr ho hl']; exact h1)).2 hmk
          rw [aAlloc_congr (eval_congr ho hl')] at q1
          rw [show ({ asg ops (i :: D) (vset V i v) ai with defers := ds } : AAct).f d = some (V k) from hself hdst] at q2
          exact ⟨b', mk', z', q1, Option.some.inj q2, q3⟩
        · exact hA.elim
      · exact .inr ⟨hmk, .inr h2⟩
  · intro k hk hkT j hj hjT hkj mk mj z hz
    obtain ⟨hkD, hkT'⟩ := lagD k hk hkT
    obtain ⟨hjD, hjT'⟩ := lagD j hj hjT
    rw [hne k hkD] at hz
    rw [hne j hjD]
    exact h.dist k hkD hkT' j hjD hjT' hkj mk mj z hz
end
end Go.Ab
/- ABSTRACT MEMORY, 20d: regions that draw their order, where names are free: every order. -/
namespace Go.Ab
open Go Go.RowKit
variable [TT]
section
variable {P : Program} {B0 : Prot} {m : NMap} {w : World} {ro : Option Nat} {ops : Array Oper} {Q : AExit → AAct → AHeap → Prop} {ai : AAct} {ds : List Deferred} {D T : List Nat} {V : Nat → Value} {H : AHeap} {a : AAct}
theorem simT (htt : TT.tt = true) (hw : wfT ops ai.n = true) {F : Fence} {n : Nat} {m0 : NMap} {H0 : AHeap} {w0 : World} (fuelσ : Nat) : ∀ {fuel : Nat} {listed : Array Bool} {D T : List Nat} {V : Nat → Value} {H : AHeap} {ds : List Deferred} {m : NMap} {w : World} {a' : Act} (t : Nat),
    (∀ j, listed.getD j false = true ↔ j ∈ T) → listed.size = ops.size → unlisted ops T ≤ fuelσ → InvT P ops ai D T V H → Blank ops D T V m H0 → Ext m0 H0 m H → Keep B0 w0 w → FRel m ro F → Rel P B0 m H w → ARel m { asg ops T V ai with defers := ds } a' →
    BGo P ro ops Q (sans ops ai) fuel D { asg ops D V ai with defers := ds } H → wpOpsIn F n P ops (LiftQ P B0 m0 H0 w0 (Up Q)) (Region.linearise.go .any ops fuelσ t listed []) a' w := by
  have hready : ∀ {listed : Array Bool} {T : List Nat}, (∀ j, listed.getD j false = true ↔ j ∈ T) → listed.size = ops.size → ∀ i, i ∈ Region.ready .any ops listed ↔ i < ops.size ∧ i ∉ T ∧ ∀ j ∈ depsOf ops i, j ∈ T := by
    intro listed T hl hs i
    simp only [Region.ready, List.mem_filter, List.mem_range, Bool.and_eq_true, Bool.not_eq_true']
    constructor
    · rintro ⟨h1, h2, h3⟩
      obtain ⟨o, ho⟩ := get_of_lt h1
      refine ⟨h1, fun hc => ?_, fun j hj => ?_⟩
      · have := (hl i).2 hc
        have hlt : i < listed.size := by rw [hs]; exact h1
        simp [Array.getD, hlt] at this h2
        rw [this] at h2
        cases h2
      · simp only [depsOf, ho, List.mem_map, List.mem_filter] at hj
        obtain ⟨e, ⟨he, hb⟩, rfl⟩ := hj
        simp only [ho, Option.map_some, Option.getD_some, Array.all_eq_true'] at h3
        have := h3 e (by simpa using he)
        rw [hb] at this
        exact (hl e.on).1 (by simpa using this)
    · rintro ⟨h1, h2, h3⟩
      obtain ⟨o, ho⟩ := get_of_lt h1
      refine ⟨h1, ?_, ?_⟩
      · have hlt : i < listed.size := by rw [hs]; exact h1
        have hn : ¬ listed.getD i false = true := fun hc => h2 ((hl i).1 hc)
        simp [Array.getD, hlt] at hn ⊢
        exact hn
      · simp only [ho, Option.map_some, Option.getD_some, Array.all_eq_true']
        intro e he
        cases hb : Region.binds .any e with
        | false => rfl
        | true =>
          have := (hl e.on).2 (h3 e.on (by simp only [depsOf, ho, List.mem_map, List.mem_filter]; exact ⟨e, ⟨by simpa using he, hb⟩, rfl⟩))
          simpa using this
  /- nothing is left -/
  have hend : ∀ {fuel : Nat} {D T : List Nat} {V : Nat → Value} {H : AHeap} {ds : List Deferred} {m : NMap} {w : World} {a' : Act}, (∀ i, i < ops.size → i ∉ T → ¬ ∀ j ∈ depsOf ops i, j ∈ T) → InvT P ops ai D T V H → Ext m0 H0 m H → Keep B0 w0 w → Rel P B0 m H w →
      ARel m { asg ops T V ai with defers := ds } a' → BGo P ro ops Q (sans ops ai) fuel D { asg ops D V ai with defers := ds } H → LiftQ P B0 m0 H0 w0 (Up Q) .normal a' w := by
    intro fuel D T V H ds m w a' hno hI hE hB hr ha hg
    have hDT : ∀ i ∈ D, i ∈ T := fun i hi => Classical.byContradiction fun hc => by
      obtain ⟨k, hk, hkT, hd⟩ := hI.ord.first ⟨i, hi, hc⟩
      exact hno k (hI.dcl k hk).1 hkT hd
    have hnil : readyL ops D = [] := List.eq_nil_iff_forall_not_mem.2 fun i hi => by
      obtain ⟨h1, h2, h3⟩ := ready_mem.1 hi
      exact hno i h1 (fun hc => h2 (hI.sub i hc)) fun j hj => hDT j (h3 j hj)
    cases fuel with
    | zero => exact hg.elim
    | succ fuel =>
      simp only [BGo, hnil, List.find?_nil] at hg
      have hq := hg.1 trivial
      have e : asg ops D V ai = asg ops T V ai := by
        unfold asg
        congr 1
        funext t
        cases hf : D.find? (fun z => dstOf ops z == some t) with
        | none =>
          cases hg' : T.find? (fun z => dstOf ops z == some t) with
          | none => rfl
          | some z =>
            have := List.find?_eq_none.1 hf z (hI.sub z (List.mem_of_find?_eq_some hg'))
            have h2 := List.find?_some hg'
            exact absurd h2 this
        | some z =>
          have hz := List.mem_of_find?_eq_some hf
          have hd := List.find?_some hf
          cases hg' : T.find? (fun z => dstOf ops z == some t) with
          | none => exact absurd hd (List.find?_eq_none.1 hg' z (hDT z hz))
          | some z' =>
            have hz' := List.mem_of_find?_eq_some hg'
            have hd' := List.find?_some hg'
            have := wfT_dst hw (hI.dcl z hz).1 (hI.dcl z' (hI.sub z' hz')).1 (d := t) (by simpa using hd) (by simpa using hd')
            subst this
            rfl
      rw [e] at hq
      exact ⟨.normal, _, _, _, up_self hq, hE, hr, ha, hB, rfl⟩
  induction fuelσ with
  | zero =>
    intro fuel listed D T V H ds m w a' t hl hs hun hI hBl hE hB hf hr ha hg
    simp only [Region.linearise.go, List.reverse_nil, wpOpsIn]
    refine hend (fun i hi hiT _ => ?_) hI hE hB hr ha hg
    have := unlisted_cons hi hiT
    omega
  | succ fuelσ ih =>
    intro fuel listed D T V H ds m w a' t hl hs hun hI hBl hE hB hf hr ha hg
    simp only [Region.linearise.go]
    change wpOpsIn F n P ops _ (match (Region.ready .any ops listed)[t % (Region.ready .any ops listed).length]? with
      | some i => Region.linearise.go .any ops fuelσ (t / (Region.ready .any ops listed).length) (listed.setIfInBounds i true) [i]
      | none => [].reverse) a' w
    cases hi : (Region.ready .any ops listed)[t % (Region.ready .any ops listed).length]? with
    | none =>
      have hnil : Region.ready .any ops listed = [] := by
        cases hr : Region.ready .any ops listed with
        | nil => rfl
        | cons x xs =>
          rw [hr] at hi
          have hlt : t % (x :: xs).length < (x :: xs).length := Nat.mod_lt _ (by simp)
          simp at hi
          simp at hlt
          omega
      simp only [List.reverse_nil, wpOpsIn]
      refine hend (fun i hi hiT hd => ?_) hI hE hB hr ha hg
      have := (hready hl hs i).2 ⟨hi, hiT, hd⟩
      rw [hnil] at this
      cases this
    | some i =>
      simp only []
      rw [linearise_go_acc, List.reverse_singleton, List.singleton_append]
      obtain ⟨h1, h2, h3⟩ := (hready hl hs i).1 (List.mem_of_getElem? hi)
      obtain ⟨o, ho⟩ := get_of_lt h1
      have hl' : ∀ j, (listed.setIfInBounds i true).getD j false = true ↔ j ∈ i :: T := by
        intro j
        have hlt : i < listed.size := by rw [hs]; exact h1
        simp only [Array.getD_eq_getD_getElem?, List.mem_cons]
        by_cases e : j = i
        · subst e; simp [hlt]
        · rw [Array.getElem?_setIfInBounds_ne (Ne.symm e), ← Array.getD_eq_getD_getElem?, hl j]
          simp [e]
      have hs' : (listed.setIfInBounds i true).size = ops.size := by simpa using hs
      have hun' : unlisted ops (i :: T) ≤ fuelσ := by have := unlisted_cons h1 h2; omega
      obtain ⟨fuel', D', V', H', hI', hBl', hE', hr', hV', hn, hnm, hg'⟩ := goT_norm htt hw fuel hI hBl hE hr hg
      have haT : asg ops T V ai = asg ops T V' ai := (asg_V hV').symm
      rw [haT] at ha
      have hlook : ∀ {X : List Nat} {W : Nat → Value}, (∀ z ∈ X, z < ops.size) → (∀ z ∈ X, ∀ j ∈ depsOf ops z, j ∈ X) → (∀ j ∈ depsOf ops i, j ∈ X) → i ∉ X → ∀ s ∈ looks ops i, (asg ops X W ai).f s = (asg ops (depsOf ops i) W ai).f s :=
        fun hX hXc hXd hiX s hs => lookT hw h1 hX hXd (.inr ⟨hiX, hXc⟩) hs
      have hTl : ∀ z ∈ T, z < ops.size := fun z hz => (hI'.dcl z (hI'.sub z hz)).1
      have hlT := hlook (X := T) (W := V') hTl hI'.tcl h3 h2
      simp only [wpOpsIn, ho]
      by_cases hiD : i ∈ D'
      · -- the plan has done it
        obtain ⟨o', ho', hx⟩ := hI'.lag i hiD h2
        rw [ho] at ho'
        cases ho'
        have hI2 := hI'.step hiD h3
        have hVV : vset V' i (V' i) = V' := by funext j; simp only [vset]; split <;> simp_all
        have hBl2 : Blank ops D' (i :: T) V' m H0 := fun k hk hkT => hBl' k hk fun hc => hkT (List.mem_cons_of_mem _ hc)
        have off : aWanted ops (asg ops (depsOf ops i) V' ai) o = some false → V' i = undef → Region.wanted o (yielded ops a'.tmps) = false ∧ wpOpsIn F n P ops (LiftQ P B0 m0 H0 w0 (Up Q)) (Region.linearise.go .any ops fuelσ (t / (Region.ready .any ops listed).length) (listed.setIfInBounds i true) []) (a'.put o.dst undef) w := by
          intro hw1 hu
          have hwT : aWanted ops ({ asg ops T V' ai with defers := ds } : AAct) o = some false := by rw [← hw1]; exact wanted_congr ho hlT
          refine ⟨aWanted_sound ha hwT, ?_⟩
          have hput := put_sound (dst := o.dst) ha (v := undef) (v' := undef) (.tuple .nil .nil)
          rw [← hu, put_asg ho h2, hVV] at hput
          rw [hu] at hput
          exact ih _ hl' hs' hun' hI2 hBl2 hE' hB hf hr' hput hg'
        rcases hx with ⟨hfl, ⟨hw1, hp⟩ | ⟨hw1, hu⟩⟩ | ⟨hmk, ⟨hw1, b, mk, z, hal, hVz, hHz⟩ | ⟨hw1, hu⟩⟩
        · -- it computes
          have hwT : aWanted ops ({ asg ops T V' ai with defers := ds } : AAct) o = some true := by rw [← hw1]; exact wanted_congr ho hlT
          have hpT : aPure P (({ asg ops T V' ai with defers := ds } : AAct).eval P) H' o.op = some (V' i) := by rw [← hp]; exact aPure_congr (eval_congr ho hlT)
          rw [aWanted_sound ha hwT]
          simp only [if_true]
          refine ⟨fun f _ => hf.fn f, ?_⟩
          obtain ⟨v', q1, q2⟩ := aPure_sound hr' ha hpT
          rw [semAt_exec (by rintro c hc; rw [hc] at hpT; simp [aPure] at hpT), q1]
          have hput := put_sound (dst := o.dst) ha q2
          rw [put_asg ho h2, hVV] at hput
          exact ih _ hl' hs' hun' hI2 hBl2 hE' hB hf hr' hput hg'
        · obtain ⟨e1, e2⟩ := off hw1 hu
          rw [e1]
          simp only [Bool.false_eq_true, if_false]
          exact ⟨fun f _ => hf.fn f, e2⟩
        · -- it makes the block that memory is said to have
          have hmkA : mkAt ops i = true := by simp [mkAt, ho, hmk]
          have hnz : nameOf (V' i) = some z := by rw [hVz]; exact nameOf_mk hal z
          obtain ⟨hmz, hH0z⟩ := hBl' i hiD h2 hmkA z hnz
          have hwT : aWanted ops ({ asg ops T V' ai with defers := ds } : AAct) o = some true := by rw [← hw1]; exact wanted_congr ho hlT
          have halT : aAlloc P (({ asg ops T V' ai with defers := ds } : AAct).eval P) o.op = some (b, mk) := by rw [← hal]; exact aAlloc_congr (eval_congr ho hlT)
          rw [aWanted_sound ha hwT]
          simp only [if_true]
          refine ⟨fun f _ => hf.fn f, ?_⟩
          have hH2 : upd (fun j => if j = z then none else H' j) z b = H' := by
            funext j
            simp only [upd]
            split
            · rename_i e; rw [e, hHz]
            · rfl
          obtain ⟨v', ob, fz, q1, q2, q3⟩ := aAlloc_sound (hr'.without hmz) ha halT (i := z) hmz (by simp)
          rw [hH2] at q2
          rw [semAt_exec (by rintro c hc; rw [hc] at halT; simp [aAlloc] at halT), q1]
          have hput := put_sound (dst := o.dst) (ha.mono (nset_le hmz)) q3
          rw [← hVz, put_asg ho h2, hVV] at hput
          refine ih _ hl' hs' hun' hI2 (fun k hk hkT mk' z' hz' => ?_) ⟨NMap.le_trans hE'.le (nset_le hmz), fun ht j hj => ?_⟩ (hB.trans ((Keep.refl B0 w).alloc hr'.base _)) (hf.mono (nset_le hmz)) q2 hput hg'
          · have hkT' : k ∉ T := fun hc => hkT (List.mem_cons_of_mem _ hc)
            have hki : k ≠ i := by rintro rfl; exact hkT List.mem_cons_self
            have hne : z' ≠ z := by
              rintro rfl
              exact hI'.dist k hk hkT' i hiD h2 hki mk' hmkA z' hz' hnz
            obtain ⟨g1, g2⟩ := hBl' k hk hkT' mk' z' hz'
            exact ⟨by simp [nset, hne, g1], g2⟩
          · have hne : j ≠ z := by rintro rfl; exact hj hH0z
            obtain ⟨g1, g2⟩ := hE'.same ht j hj
            exact ⟨by simp [nset, hne, g1], g2⟩
        · obtain ⟨e1, e2⟩ := off hw1 hu
          rw [e1]
          simp only [Bool.false_eq_true, if_false]
          exact ⟨fun f _ => hf.fn f, e2⟩
      · -- the plan does it now
        have hiR : i ∈ readyL ops D' := ready_mem.2 ⟨h1, hiD, fun j hj => hI'.sub j (h3 j hj)⟩
        have hlD := hlook (X := D') (W := V') (fun z hz => (hI'.dcl z hz).1) (fun z hz => (hI'.dcl z hz).2) (fun j hj => hI'.sub j (h3 j hj)) hiD
        have hlDT : ∀ s ∈ looks ops i, ({ asg ops D' V' ai with defers := ds } : AAct).f s = ({ asg ops T V' ai with defers := ds } : AAct).f s := fun s hs => (hlD s hs).trans (hlT s hs).symm
        simp only [BGo, hn, hnm] at hg'
        have hgi := hg'.2 i hiR
        rw [ho] at hgi
        obtain ⟨b, hb, ht, hfa⟩ := hgi
        have hbT : aWanted ops ({ asg ops T V' ai with defers := ds } : AAct) o = some b := by rw [← hb]; exact (wanted_congr ho hlDT).symm
        rw [aWanted_sound ha hbT]
        have blank : ∀ {v : Value} {H1 : AHeap} {m1 : NMap}, Ext m H' m1 H1 → Blank ops (i :: D') (i :: T) (vset V' i v) m1 H0 := by
          intro v H1 m1 hE1 k hk hkT mk' z' hz'
          have hki : k ≠ i := by rintro rfl; exact hkT List.mem_cons_self
          have hkD : k ∈ D' := by simpa [hki] using hk
          have hkT' : k ∉ T := fun hc => hkT (List.mem_cons_of_mem _ hc)
          have hz2 : nameOf (V' k) = some z' := by simpa [vset, hki] using hz'
          obtain ⟨g1, g2⟩ := hBl' k hkD hkT' mk' z' hz2
          obtain ⟨o', ho', hx⟩ := hI'.lag k hkD hkT'
          exact ⟨by rw [(hE1.same htt z' (hx.inH ho' mk' hz2)).1]; exact g1, g2⟩
        cases b with
        | true =>
          simp only [if_true]
          have hop : AOp P ro { asg ops T V' ai with defers := ds } H' o.dst o.op (fun a1 H1 => ∃ v ds2, a1 = { asg ops (i :: T) (vset V' i v) ai with defers := ds2 } ∧ AgainT P ops i { asg ops (i :: D') (vset V' i v) ai with defers := ds2 } H1 D' ∧
              BGo P ro ops Q (sans ops ai) fuel' (i :: D') { asg ops (i :: D') (vset V' i v) ai with defers := ds2 } H1) (fun v H1 => Up Q (.panic v) { asg ops T V' ai with defers := ds } H1) := by
            refine AOp_congr (eval_congr ho hlDT) rfl (fun v ds2 H2 hk => ?_) (fun v H2 hx => up_sans hTl hx) (ht rfl)
            have e1 := put_asg (V := V') (v := v) (ai := ai) (ds := ds2) ho hiD
            have e2 := put_asg (V := V') (v := v) (ai := ai) (ds := ds2) ho h2
            simp only at e1 e2 hk ⊢
            rw [e1] at hk
            exact ⟨v, ds2, e2, hk.1, hk.2⟩
          refine AOp_sound hf hr' ha ?_ ?_ hop
          · rintro a1 w1 ⟨a2, H1, m1, ⟨v, ds2, rfl, hk1, hk2⟩, hE1, hr1, ha1, hB1⟩
            exact ih _ hl' hs' hun' (hI'.both hw hiD h1 h3 (.inr hk1)) (blank hE1) (hE'.trans hE1) (hB.trans hB1) (hf.mono hE1.le) hr1 ha1 hk2
          · intro v v' H1 m1 w1 hx hE1 hr1 hB1 hv
            exact ⟨.panic v, _, H1, m1, hx, hE'.trans hE1, hr1, ha.mono hE1.le, hB.trans hB1, v', rfl, hv⟩
        | false =>
          simp only [Bool.false_eq_true, if_false]
          refine ⟨fun f _ => hf.fn f, ?_⟩
          have hk := hfa rfl
          rw [put_asg ho hiD] at hk
          have hput := put_sound (dst := o.dst) ha (v := undef) (v' := undef) (.tuple .nil .nil)
          rw [put_asg ho h2] at hput
          exact ih _ hl' hs' hun' (hI'.both (ds := ds) hw hiD h1 h3 (.inl rfl)) (blank (Ext.refl m H')) hE' hB hf hr' hput hk
theorem AWp_drawT {id : Nat} (k : Nat) (htt : TT.tt = true) (hmix : P.follows .mixedOrders = true) (hw : wfT ops a.n = true) (h : BGo P ro ops Q (sans ops a) k [] a H) : AWp P ro (.region id ops true) Q a H := by
  intro B0 m w a' F hr ha hf n
  refine wpIn_mono (wpIn_region_draw (Q := LiftQ P B0 m H w (Up Q)) fun t => ?_) fun _ _ _ hl => LiftQ_up hl
  have hs : Region.schedule (P.follows .mixedOrders) ops t = Region.linearise.go .any ops ops.size t (Array.replicate ops.size false) [] := by
    simp only [Region.schedule, hmix, Bool.true_or, if_true]
    rfl
  rw [hs]
  have hI : InvT P ops a [] [] (fun _ => undef) H := ⟨fun _ h => h, fun _ h => (by cases h), fun _ h => (by cases h), fun _ h => (by cases h), trivial, fun _ h => (by cases h)⟩
  have hr' : Rel P B0 m H { w with drawn := w.drawn + 1 } := hr.of_heap rfl
  have hB : Keep B0 w { w with drawn := w.drawn + 1 } := Keep.drew (Keep.refl _ _)
  exact simT htt hw ops.size (fuel := k) (listed := Array.replicate ops.size false) (T := []) (ds := a.defers) t (fun j => by rw [Array.getD_eq_getD_getElem?, Array.getElem?_replicate]; split <;> simp) (by simp) (Nat.le_trans (List.length_filter_le _ _) (by simp)) hI (fun _ h => (by cases h)) (Ext.refl _ _) hB hf hr' ha h
end
end Go.Ab
