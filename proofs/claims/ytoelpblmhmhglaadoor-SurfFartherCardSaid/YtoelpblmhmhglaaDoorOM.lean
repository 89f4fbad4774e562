/- ABSTRACT MEMORY, 44: what a run comes to: calls, rounds, code: it is so. -/
import Derived.Test.YtoelpblmhmhglaaDoorOL
namespace Go.Ab
open Go Go.RowKit
variable [TT] [PR]
section
variable {P : Program} {N : Nat} {X : Vx} {ro : Option Nat} {s : St} {dst : Option Tmp} {hs : HS}
theorem vBody_sound (hX : VSound P N X) {fn : Func} {K : ARes → Mem → HS → Prop} {e : AExit} {a : AAct} {H : AHeap} (h : QQ (vBody X P fn K) e a H) : ABody P fn (RR K) e a H := by
 obtain ⟨s, hs, h, rfl, rfl⟩ := h
 unfold vBody at h
 split at h
 · exact vLeave_sound hX _ rfl h
 · exact vLeave_sound hX _ rfl h
 · exact vLeave_sound hX _ rfl h
 · exact h.elim
theorem vCallF_sound (htt : TT.tt = true) (hX : VSound P N X) (hP : P = PR.prog) (hc : ∀ f fn c, P.funcs[f]? = some fn → fn.body = some c → Callable P f) {f : FuncId} {args : List Value} {K : ARes → Mem → HS → Prop} {m : Mem} (h : vCallF X P f args K m hs) :
    Callable P f ∧ SCalls P f args m.H (RR K) := by
 unfold vCallF at h
 split at h
 · rename_i fn hfn
   split at h
   · rename_i c hb
     refine ⟨hc f fn c hfn hb, ?_⟩
     split at h
     · rename_i r m' hs' _
       exact h.1.weaken (Sub.refl _) fun r' H' hr => ⟨m'.H, hr.2, m', hs', by rw [hr.1]; exact h.2, rfl⟩
     · rename_i C hs' _
       obtain ⟨hC, h⟩ := h
       split at h
       · rename_i x hx
         exact (hC.use hx h.1).mono fun r' H' hr => ⟨m, hs', by rw [hr.1]; exact h.2, hr.2⟩
       · exact h.elim
     · rename_i C hs' _
       obtain ⟨hC, h⟩ := h
       split at h
       · rename_i x hx
         exact (hC.use htt hx h.1).mono fun r' H' hr => ⟨_, hs', by rw [hr.1]; exact h.2, hr.2⟩
       · exact h.elim
     · rename_i C hs' _
       obtain ⟨hC, h⟩ := h
       split at h
       · rename_i x hx
         obtain ⟨hp, h⟩ := h
         obtain ⟨hc', h⟩ := cond_false' h
         simp only [Bool.and_eq_true] at hc'
         exact (hC.use htt hx hp hc'.1 hc'.2.1 (Nat.le_of_ble_eq_true hc'.2.2)).mono fun r' H' hr => ⟨_, hs', by rw [hr.1]; exact h, hr.2⟩
       · exact h.elim
     · obtain ⟨hl, h⟩ := cond_false' h
       refine SCalls_of_AWp hfn hb ?_
       have hcode := hX.code h
       rw [show (entrySt args fn.ntmps m).a = aEntry args fn.ntmps from entry_eq hl, top_body hP hfn hb] at hcode
       exact AWp.mono hcode fun e a H hq => vBody_sound hX hq
   · exact h.elim
 · exact h.elim
theorem vBodyS_sound {fn : Func} {K : Value → AMode → Mem → HS → Prop} {e : AExit} {u : AMode} {a : AAct} {H : AHeap} (h : QS (vBodyS P fn K) e u a H) : ABodyS P fn (DD K) e u a H := by
 have _ := TT.tt
 obtain ⟨s, hs, h, rfl, rfl⟩ := h
 unfold vBodyS at h
 split at h
 · rename_i hd
   split at h
   · rename_i v hv
     exact ⟨hd, v, hv, _, _, h, rfl⟩
   · exact h.elim
 · rename_i hd
   split at h
   · rename_i v hv
     exact ⟨hd, v, hv, _, _, h, rfl⟩
   · exact h.elim
 · exact h.elim
theorem vDCallF_sound (hX : VSound P N X) (hP : P = PR.prog) (hc : ∀ f fn c, P.funcs[f]? = some fn → fn.body = some c → Callable P f) {f : FuncId} {args : List Value} {K : Value → AMode → Mem → HS → Prop} {u : AMode} {m : Mem} (h : vDCallF X P f args K u m hs) :
    Callable P f ∧ SDCalls P f args u m.H (DD K) := by
 unfold vDCallF at h
 split at h
 · rename_i fn hfn
   split at h
   · rename_i c hb
     obtain ⟨hl, h⟩ := cond_false' h
     refine ⟨hc f fn c hfn hb, SDCalls_of_AWpS hfn hb ?_⟩
     have hcode := hX.codeS h
     rw [show (entrySt args fn.ntmps m).a = aEntry args fn.ntmps from entry_eq hl, top_body hP hfn hb] at hcode
     exact AWpS.mono hcode fun e u a H hq => vBodyS_sound hq
   · exact h.elim
 · exact h.elim
theorem vEndRound_sound {l : Nat} {jump : Option Code} {K : ARes → Mem → HS → Prop} {m : Mem} (hl : Nat.ble l 1000000000 = true) (h : vEndRound l jump K m hs) : endRound l jump m.H (RR K) := by
 unfold vEndRound at h
 split at h
 · rename_i L hL
   have hH : m.H l = some (.loop L.a) := Mem.get_H hL
   refine ⟨L.a, by simp [loopAt, hH], _, hs, h, ?_⟩
   rw [Mem.put_H hl]
   rfl
 · exact h.elim
theorem vRoundEnd_sound {l : Nat} {K : ARes → Mem → HS → Prop} {e : AExit} {a : AAct} {H : AHeap} (hl : Nat.ble l 1000000000 = true) (h : QQ (vRoundEnd l K) e a H) : ARoundEnd l (RR K) e a H := by
 obtain ⟨s, hs, h, rfl, rfl⟩ := h
 unfold vRoundEnd at h
 split at h
 · exact vEndRound_sound hl h
 · exact vEndRound_sound hl h
 · exact vEndRound_sound hl h
 · exact h.elim
theorem vRoundMid_sound (hX : VSound P N X) {l : Nat} {p : Loc} {K : ARes → Mem → HS → Prop} {e : AExit} {a : AAct} {H : AHeap} (hl : Nat.ble l 1000000000 = true) (h : QQ (vRoundMid X l p K) e a H) : ARoundMid P l (codeGet (.r p)) (RR K) e a H := by
 obtain ⟨s, hs, h, rfl, rfl⟩ := h
 unfold vRoundMid at h
 split at h
 · split at h
   · rename_i L2 hL2
     split at h
     · rename_i hst
       have hH2 : s.H l = some (.loop L2.a) := Mem.get_H hL2
       refine ⟨L2.a, by simp [loopAt, hH2], hst, ?_⟩
       have hbody := hX.code h
       have e3 : ({ s with m := s.m.put l (.loop { L2 with state := .busy }) } : St).H = upd s.H l (.loop { L2.a with state := .busy }) := by
        rw [St.mem_H, Mem.put_H hl]; rfl
       rw [e3] at hbody
       exact AWp.mono hbody fun e a H hq => vRoundEnd_sound hl hq
     · exact h.elim
   · exact h.elim
 · exact h.elim
theorem vRoundF_sound (hX : VSound P N X) {l : Nat} {args : List Value} {K : ARes → Mem → HS → Prop} {m : Mem} (h : vRoundF X l args K m hs) : SRound P l args m.H (RR K) := by
 unfold vRoundF at h
 obtain ⟨hl, h⟩ := cond_false' h
 split at h
 · rename_i L hL
   obtain ⟨hc, h⟩ := cond_false' h
   simp only [Bool.and_eq_true] at hc
   have hlen := Nat.eq_of_beq_eq_true hc.1
   have hH : m.H l = some (.loop L.a) := Mem.get_H hL
   refine SRound_of_AWp (L := L.a) hH hlen ?_
   have hps : ((L.params.toList.zip args).map (·.1)) = L.params.toList := List.map_fst_zip (by simp [hlen])
   have hset := xSetPs_eq L.n (L.params.toList.zip args) (t := L.t) (by rw [hps]; exact hc.2)
   have hcode := hX.code h
   have e1 : (⟨L.n, xSetPs L.n L.t (L.params.toList.zip args), [], m⟩ : St).a = ⟨L.a.tmps.n, (setPs L.a.tmps (L.a.params.toList.zip args)).f, []⟩ := by
    show (⟨L.n, tF (xSetPs L.n L.t (L.params.toList.zip args)), []⟩ : AAct) = ⟨L.n, (setPs ⟨L.n, tF L.t⟩ (L.params.toList.zip args)).f, []⟩
    rw [hset]
   rw [e1] at hcode
   exact AWp.mono hcode fun e a H hq => vRoundMid_sound hX hl hq
 · exact h.elim
theorem vRangeEnd_sound {l : Nat} {K : AExit → St → HS → Prop} (hl : Nat.ble l 1000000000 = true) : ∀ r' H', RR (vRangeEnd l s K) r' H' → ARangeEnd l (QQ K) s.a r' H' := by
 rintro r H' ⟨m, hs, h, rfl⟩
 unfold vRangeEnd at h
 cases r with
 | pan v => exact ⟨_, hs, h, rfl, rfl⟩
 | ret v =>
  simp only at h
  split at h
  · rename_i L hL
    have hH : m.H l = some (.loop L.a) := Mem.get_H hL
    have hdel : (m.put l .dead).H = del m.H l := by rw [Mem.put_H hl]; rfl
    have hbusy : ∀ {o : Prop}, (match L.state with | .busy => False | _ => o) → L.state ≠ .busy ∧ o := by
     intro o ho
     cases hst : L.state <;> rw [hst] at ho <;> first | exact ⟨by simp, ho⟩ | exact ho.elim
    obtain ⟨hb, h⟩ := hbusy h
    refine ⟨L.a, by simp [loopAt, hH], hb, ?_⟩
    show match L.pending with
     | none => QQ K .normal s.a (del m.H l)
     | some .ret => QQ K .ret s.a (del m.H l)
     | some (.exit id) => QQ K (.exit id) s.a (del m.H l)
     | _ => False
    split at h
    · rename_i hp; rw [hp]; exact ⟨_, hs, h, rfl, by rw [St.mem_H, hdel]⟩
    · rename_i hp; rw [hp]; exact ⟨_, hs, h, rfl, by rw [St.mem_H, hdel]⟩
    · rename_i id hp; rw [hp]; exact ⟨_, hs, h, rfl, by rw [St.mem_H, hdel]⟩
    · exact h.elim
  · exact h.elim
theorem vFnVal_soundF (hX : VSound P N X) {fv : Value} {args : List Value} {K : ARes → Mem → HS → Prop} {m : Mem} (hy : isYield fv = false) (h : vFnVal X P fv args K m hs) : ACallF P fv args m.H (RR K) := by
 unfold vFnVal at h
 split at h
 · exact hX.call h
 · cases hy
 · unfold ACallF
   simp only
   split at h
   · rename_i x rest hx
     rw [hx]
     split at h
     · rename_i u hu
       exact ⟨u, hu, hX.call h⟩
     · exact h.elim
   · exact h.elim
 · exact h.elim
theorem cond_false2 {b : Bool} {p : Prop} (h : cond b False p) : b = false ∧ p := by
 have _ := TT.tt
 have _ := PR.prog
 cases b with
 | false => exact ⟨rfl, h⟩
 | true => exact h.elim
theorem vRange_sound (htt : TT.tt = true) (hX : VSound P N X) {g : Operand} {ps : Array Tmp} {p : Loc} {K : AExit → St → HS → Prop} (h : vRange X P ro g ps p K s hs) : AWp P ro (.rangeFunc g ps (codeGet (.l p)) (codeGet (.r p))) (QQ K) s.a s.H := by
 unfold vRange at h
 split at h
 · rename_i gv hgv
   obtain ⟨hy, h⟩ := cond_false2 h
   refine AWp_rangeFunc ⟨gv, hgv, ?_⟩
   cases ro with
   | none =>
    simp only at h
    obtain ⟨hf1, h⟩ := cond_false' h
    obtain ⟨hf2, h⟩ := cond_false' h
    obtain ⟨e1, e2⟩ := Mem.new_H (b := .defs) hf1
    obtain ⟨e3, e4⟩ := Mem.new_H (b := .loop ⟨.ready, none, s.n, s.t, ps, p⟩) hf2
    have hcall := vFnVal_soundF hX hy h
    rw [e3] at hcall
    rw [e1] at hcall e4
    refine .inl ⟨htt, s.m.nx, e2, .inl ⟨htt, (s.m.new .defs).nx, e4, ?_⟩⟩
    exact ACallF_mono (vRangeEnd_sound (s := { s with ds := ⟨.collected s.m.nx, #[]⟩ :: s.ds }) (free_le hf2)) hcall
   | some l0 =>
    simp only at h
    split at h
    · rename_i L0 hL0
      obtain ⟨hf1, h⟩ := cond_false' h
      obtain ⟨e1, e2⟩ := Mem.new_H (b := .loop ⟨.ready, none, s.n, s.t, ps, p⟩) hf1
      have hcall := vFnVal_soundF hX hy h
      rw [e1] at hcall
      exact ⟨L0.a, Mem.get_H hL0, .inl ⟨htt, s.m.nx, e2, ACallF_mono (vRangeEnd_sound (free_le hf1)) hcall⟩⟩
    · exact h.elim
 · exact h.elim
theorem AWp_less {c : Code} {a : AAct} {H : AHeap} {e : AExit} {s' : St} (h : AWp P ro c (fun x a H => x = e ∧ Fgt s' a H) a H) : AWp P ro c (fun x a H => x = e ∧ a = s'.a ∧ H = s'.H) a H := by
 intro B0 m w a' F hr ha hf n
 refine wpIn_mono (h B0 m w a' F hr ha hf n) ?_
 rintro x1 a1 w1 ⟨x, a2, H2, m2, ⟨rfl, hn, hd, hs, hH⟩, hm, hr2, ha2, hB, hx⟩
 exact ⟨x, s'.a, s'.H, m2, ⟨rfl, rfl, rfl⟩, hm.sub (Sub.refl _) hH, hr2.sub hH, ⟨⟨by rw [show s'.a.n = a2.n from hn]; exact ha2.1.1, fun t v ht => ha2.1.2 t v (hs t v ht)⟩, by rw [show s'.a.defers = a2.defers from hd]; exact ha2.2⟩, hB, hx⟩
theorem vThen_sound (hX : VSound P N X) {p : Loc} {K : AExit → St → HS → Prop} {e : AExit} {a : AAct} {H : AHeap} (h : QQ (vThen (X.code ro p K) K) e a H) : AThen (AWp P ro (codeGet p) (QQ K)) (QQ K) e a H := by
 obtain ⟨s, hs, h, rfl, rfl⟩ := h
 cases e with
 | normal => exact hX.code h
 | _ => exact ⟨s, hs, h, rfl, rfl⟩
theorem vCode_sound (htt : TT.tt = true) (hmix : P.follows .mixedOrders = true) (hX : VSound P N X) {p : Loc} {K : AExit → St → HS → Prop} (h : vCode X P ro p K s hs) : AWp P ro (codeGet p) (QQ K) s.a s.H := by
 unfold vCode at h
 have hl : codeGet (.l p) = kidL (codeGet p) := rfl
 have hr : codeGet (.r p) = kidR (codeGet p) := rfl
 generalize codeGet p = c at h hl hr
 cases c with
 | skip => exact AWp_skip ⟨s, hs, h, rfl, rfl⟩
 | label l => exact AWp_label ⟨s, hs, h, rfl, rfl⟩
 | exit id => exact AWp_exit ⟨s, hs, h, rfl, rfl⟩
 | ret => exact AWp_ret ⟨s, hs, h, rfl, rfl⟩
 | region id ops draw =>
  cases draw with
  | false =>
   obtain ⟨ops⟩ := ops
   exact AWp_text (vOps_sound htt hX ops h)
  | true =>
   simp only at h
   obtain ⟨hw, h⟩ := cond_false' h
   simp only [Bool.and_eq_true] at hw
   exact AWp_drawT _ htt hmix hw.1 (vGo_sound htt hX (sans_eq hw.2) _ rfl h)
 | seq x y =>
  simp only at h
  have hx := hX.code h
  rw [hl] at hx
  refine AWp_seq (hx.mono fun e a H hq => ?_)
  have := vThen_sound hX hq
  rw [hr] at this
  exact this
 | cond c x y =>
  simp only at h
  split at h
  · rename_i b hb
    split at h
    · rename_i h1 h2 _ _
      refine AWp_cond hb (fun hbt => ?_) fun hbf => ?_
      · have hx := hX.code (h.1 hbt)
        rw [hl] at hx
        exact hx
      · have hy := hX.code (h.2 hbf)
        rw [hr] at hy
        exact hy
    · refine AWp_cond hb (fun hbt => ?_) fun hbf => ?_
      · subst hbt
        have hx := hX.code h
        rw [hl] at hx
        exact hx
      · subst hbf
        have hy := hX.code h
        rw [hr] at hy
        exact hy
  · exact h.elim
 | block id c =>
  simp only at h
  have hx := hX.code h
  rw [hl] at hx
  refine AWp_block (hx.mono ?_)
  rintro x1 a H ⟨s1, hs1, hq, rfl, rfl⟩
  cases x1 with
  | exit id' =>
   simp only [vInBlock] at hq
   simp only [AInBlock]
   split
   · rename_i e; rw [if_pos e] at hq; exact ⟨s1, hs1, hq, rfl, rfl⟩
   · rename_i e; rw [if_neg e] at hq; exact ⟨s1, hs1, hq, rfl, rfl⟩
  | _ => exact ⟨s1, hs1, hq, rfl, rfl⟩
 | rangeFunc g ps assign body =>
  have hx := vRange_sound htt hX h
  rw [hl, hr] at hx
  exact hx
 | scope c =>
  simp only at h
  have hx := hX.code h
  rw [hl] at hx
  refine AWp_scope (hx.mono ?_)
  rintro x1 a H ⟨s1, hs1, hq, rfl, rfl⟩
  cases x1 with
  | goto l => exact hq.elim
  | _ => exact ⟨(by intro l hl; cases hl), s1, hs1, hq, rfl, rfl⟩
 | loop c =>
  simp only at h
  split at h
  · rename_i T e T' f hs' _
    obtain ⟨hc, h⟩ := cond_false' h
    simp only [Bool.and_eq_true] at hc
    obtain ⟨c1, c2, c3⟩ := hc
    have c3 := Nat.le_of_ble_eq_true c3
    split at h
    · rename_i x hx
      obtain ⟨hat, hlo, hk⟩ := h
      have hlo : AWp P ro (.loop (codeGet (.l p))) _ _ _ := hlo
      rw [hl] at hlo
      refine AWp_enter htt (k := T.k) (fun j hj => ?_) (Tm.ext_sound hx hat c3) (hlo.mono ?_)
      · have := keysLt_get (f := id) c1 j hj
        simp only [St.H, Mem.H, this]
      · rintro q a H ⟨rfl, rfl, rfl⟩
        exact ⟨_, hs', hk, rfl, rfl⟩
    · exact h.elim
  · rename_i T e T' f hs' _
    obtain ⟨hc, h⟩ := cond_false' h
    simp only [Bool.and_eq_true] at hc
    obtain ⟨c1, c2, c3⟩ := hc
    have c3 := Nat.le_of_ble_eq_true c3
    split at h
    · rename_i x hx
      obtain ⟨hat, hlo, hk⟩ := h
      have hlo : AWp P ro (.loop (codeGet (.l p))) _ _ _ := hlo
      rw [hl] at hlo
      refine AWp_enter htt (k := T.k) (fun j hj => ?_) (Tw.ext_sound hx hat c3) (hlo.mono ?_)
      · have := keysLt_get (f := id) c1 j hj
        simp only [St.H, Mem.H, this]
      · rintro q a H ⟨rfl, rfl, rfl⟩
        exact ⟨_, hs', hk, rfl, rfl⟩
    · exact h.elim
  · rename_i e s' hs' _
    have hx := AWp_less h.1
    rw [hl] at hx
    refine AWp.mono hx ?_
    rintro x a H ⟨rfl, rfl, rfl⟩
    exact ⟨s', hs', h.2, rfl, rfl⟩
  · intro B0 m w a' F hr0 ha hf n
    have hx := hX.loop h B0 m w a' F hr0 ha hf n
    rw [hl] at hx
    exact wpIn_loop_rounds N hx
 | _ => exact h.elim
theorem vLoop_sound (hX : VSound P N X) {p : Loc} {K : AExit → St → HS → Prop} (h : vLoop X ro p K s hs) (B0 : Prot) (m : NMap) (w : World) (a' : Act) (F : Fence) (hr : Rel P B0 m s.H w) (ha : ARel m s.a a') (hf : FRel m ro F) (n : Nat) :
    Code.roundsIn F n P (codeGet p) (LiftQ P B0 m s.H w (QQ K)) (N + 1) a' w := by
 unfold vLoop at h
 rw [roundsIn_succ]
 refine wpIn_mono (hX.code h B0 m w a' F hr ha hf n) ?_
 rintro e2 a2' w2 ⟨x, a2, H2, m2, ⟨s1, hs1, hq, rfl, rfl⟩, hm, hr2, ha2, hB2, hx⟩
 cases x with
 | normal =>
  cases hx
  exact roundsIn_lift hm hB2 (hX.loop hq B0 m2 w2 a2' F hr2 ha2 (hf.mono hm.le) n)
 | exit id => cases hx; exact ⟨.exit id, _, _, m2, ⟨s1, hs1, hq, rfl, rfl⟩, hm, hr2, ha2, hB2, rfl⟩
 | goto l => cases hx; exact ⟨.goto l, _, _, m2, ⟨s1, hs1, hq, rfl, rfl⟩, hm, hr2, ha2, hB2, rfl⟩
 | ret => cases hx; exact ⟨.ret, _, _, m2, ⟨s1, hs1, hq, rfl, rfl⟩, hm, hr2, ha2, hB2, rfl⟩
 | panic v =>
  obtain ⟨v', rfl, hv⟩ := hx
  exact ⟨.panic v, _, _, m2, ⟨s1, hs1, hq, rfl, rfl⟩, hm, hr2, ha2, hB2, v', rfl, hv⟩
theorem vCodeS_sound (hX : VSound P N X) {p : Loc} {K : AExit → AMode → St → HS → Prop} {u : AMode} (h : vCodeS X P p K u s hs) : AWpS P (codeGet p) (QS K) u s.a s.H := by
 have other : X.code none p (fun e s hs => K e u s hs) s hs → AWpS P (codeGet p) (QS K) u s.a s.H := by
  intro h
  refine AWpS_of ((hX.code h).mono ?_)
  rintro x a H ⟨s1, hs1, hq, rfl, rfl⟩
  exact ⟨s1, hs1, hq, rfl, rfl⟩
 unfold vCodeS at h
 have hl : codeGet (.l p) = kidL (codeGet p) := rfl
 have hr : codeGet (.r p) = kidR (codeGet p) := rfl
 generalize codeGet p = c at h hl hr other
 cases c with
 | seq x y =>
  simp only at h
  have hx := hX.codeS h
  rw [hl] at hx
  refine AWpS_seq (hx.mono ?_)
  rintro x1 v a H ⟨s1, hs1, hq, rfl, rfl⟩
  cases x1 with
  | normal =>
   have hy := hX.codeS hq
   rw [hr] at hy
   exact hy
  | _ => exact ⟨s1, hs1, hq, rfl, rfl⟩
 | cond c x y =>
  simp only at h
  split at h
  · rename_i b hb
    refine AWpS_cond hb (fun hbt => ?_) fun hbf => ?_
    · subst hbt
      have hx := hX.codeS h
      rw [hl] at hx
      exact hx
    · subst hbf
      have hy := hX.codeS h
      rw [hr] at hy
      exact hy
  · exact h.elim
 | region id ops draw =>
  cases draw with
  | true => exact other h
  | false =>
   simp only at h
   cases hrc : ops.toList.any (fun o => isRecover o.op) with
   | false => rw [hrc] at h; exact other h
   | true =>
    rw [hrc] at h
    simp only [cond_true] at h
    split at h
    · rename_i e u' s' hx
      refine (AWpS_region (xSOps_sound (e := e) (u' := u') (s' := s') _ (by simp) ?_)).mono ?_
      · have e1 : (List.range ops.size).filterMap (ops[·]?) = ops.toList := by
         have := range_filterMap ops.toList
         simpa using this
        rw [e1]
        exact hx
      · rintro x v a H ⟨rfl, rfl, rfl, rfl⟩
        exact ⟨s', hs, h, rfl, rfl⟩
    · exact h.elim
 | _ => exact other h
theorem vex_sound (htt : TT.tt = true) (hP : P = PR.prog) (hmix : P.follows .mixedOrders = true) (hc : ∀ f fn c, P.funcs[f]? = some fn → fn.body = some c → Callable P f) (n : Nat) : VSound P n (vex P n) := by
 induction n with
 | zero => exact ⟨fun h => h.elim, fun h => h.elim, fun h => h.elim, fun h => h.elim, fun h => h.elim, fun h => h.elim⟩
 | succ n ih =>
  exact ⟨fun h => vCode_sound htt hmix ih h, fun h => vLoop_sound ih h, fun h => vCodeS_sound ih h, fun h => vCallF_sound htt ih hP hc h, fun h => vDCallF_sound ih hP hc h, fun h => vRoundF_sound ih h⟩
end
end Go.Ab
