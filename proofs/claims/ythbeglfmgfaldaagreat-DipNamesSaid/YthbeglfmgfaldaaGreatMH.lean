/- ABSTRACT MEMORY, 25: closed runs, reckoned: the reckoner is right. -/
import Derived.Test.YthbeglfmgfaldaaGreatMG
namespace Go.Ab
open Go Go.RowKit
variable [TT] [PR]
section
variable {P : Program} {N : Nat} {X : Ex} {ro : Option Nat} {s s' : St} {dst : Option Tmp}

theorem roundsIn_lift {F : Fence} {n : Nat} {c : Code} {B0 : Prot} {m0 m : NMap} {H0 H : AHeap} {w0 w1 : World} {Q : AExit → AAct → AHeap → Prop} (hm : Ext m0 H0 m H) (hB : Keep B0 w0 w1) {k : Nat} : ∀ {a : Act} {w : World}, Code.roundsIn F n P c (LiftQ P B0 m H w1 Q) k a w → Code.roundsIn F n P c (LiftQ P B0 m0 H0 w0 Q) k a w := by
  have _ := PR.prog
  induction k with
  | zero => intro a w h; exact h.elim
  | succ k ih =>
    intro a w h
    rw [roundsIn_succ] at h ⊢
    refine wpIn_mono h fun e a1 w1 he => ?_
    cases e <;> first | exact ih he | exact LiftQ.trans hm hB he
theorem xCode_sound (htt : TT.tt = true) (hmix : P.follows .mixedOrders = true) (hX : Sound P N X) {p : Loc} {e : AExit} (h : xCode X P ro p s = some (e, s')) : AWp P ro (codeGet p) (Ends e s') s.a s.H := by
  unfold xCode at h
  have hl : codeGet (.l p) = kidL (codeGet p) := rfl
  have hr : codeGet (.r p) = kidR (codeGet p) := rfl
  generalize codeGet p = c at h hl hr
  cases c with
  | skip => cases h; exact AWp_skip ⟨rfl, rfl, rfl⟩
  | label l => cases h; exact AWp_label ⟨rfl, rfl, rfl⟩
  | exit id => cases h; exact AWp_exit ⟨rfl, rfl, rfl⟩
  | ret => cases h; exact AWp_ret ⟨rfl, rfl, rfl⟩
  | region id ops draw =>
    cases draw with
    | false =>
      obtain ⟨ops⟩ := ops
      exact AWp_text (xOps_sound htt hX ops h)
    | true =>
      simp only at h
      obtain ⟨hw, h⟩ := cond_none h
      simp only [Bool.and_eq_true] at hw
      exact AWp_drawT _ htt hmix hw.1 (xGo_sound htt hX (sans_eq hw.2) _ rfl h)
  | seq x y =>
    simp only at h
    obtain ⟨q, hq, h⟩ := bind_some_iff h
    obtain ⟨e1, s1⟩ := q
    have hx := hX.code hq
    rw [hl] at hx
    refine AWp_seq (hx.mono ?_)
    rintro x1 a H ⟨rfl, rfl, rfl⟩
    cases x1 with
    | normal =>
      have hy := hX.code h
      rw [hr] at hy
      exact hy
    | _ => cases h; exact ⟨rfl, rfl, rfl⟩
  | cond c x y =>
    simp only at h
    split at h
    · rename_i b hb
      refine AWp_cond hb (fun hbt => ?_) fun hbf => ?_
      · subst hbt
        have hx := hX.code (show X.code ro (.l p) s = some (e, s') from h)
        rw [hl] at hx
        exact hx
      · subst hbf
        have hy := hX.code (show X.code ro (.r p) s = some (e, s') from h)
        rw [hr] at hy
        exact hy
    · cases h
  | block id c =>
    simp only at h
    obtain ⟨q, hq, h⟩ := bind_some_iff h
    obtain ⟨e1, s1⟩ := q
    have hx := hX.code hq
    rw [hl] at hx
    refine AWp_block (hx.mono ?_)
    rintro x1 a H ⟨rfl, rfl, rfl⟩
    cases x1 with
    | exit id' =>
      simp only at h
      cases h
      simp only [AInBlock]
      split
      · rename_i e; exact ⟨rfl, rfl, rfl⟩
      · exact ⟨rfl, rfl, rfl⟩
    | _ => cases h; exact ⟨rfl, rfl, rfl⟩
  | rangeFunc g ps assign body =>
    have hx := xRange_sound htt hX h
    rw [hl, hr] at hx
    exact hx
  | scope c =>
    simp only at h
    obtain ⟨q, hq, h⟩ := bind_some_iff h
    obtain ⟨e1, s1⟩ := q
    have hx := hX.code hq
    rw [hl] at hx
    refine AWp_scope (hx.mono ?_)
    rintro x1 a H ⟨rfl, rfl, rfl⟩
    cases x1 with
    | goto l => cases h
    | _ => cases h; exact ⟨(by intro l hl; cases hl), rfl, rfl, rfl⟩
  | loop c =>
    intro B0 m w a' F hr0 ha hf n
    have hx := hX.loop h B0 m w a' F hr0 ha hf n
    rw [hl] at hx
    exact wpIn_loop_rounds N hx
  | _ => cases h

theorem xLoop_sound (hX : Sound P N X) {p : Loc} {e : AExit} (h : xLoop X ro p s = some (e, s')) (B0 : Prot) (m : NMap) (w : World) (a' : Act) (F : Fence) (hr : Rel P B0 m s.H w) (ha : ARel m s.a a') (hf : FRel m ro F) (n : Nat) :
    Code.roundsIn F n P (codeGet p) (LiftQ P B0 m s.H w (Ends e s')) (N + 1) a' w := by
  unfold xLoop at h
  obtain ⟨q, hq, h⟩ := bind_some_iff h
  obtain ⟨e1, s1⟩ := q
  rw [roundsIn_succ]
  refine wpIn_mono (hX.code hq B0 m w a' F hr ha hf n) ?_
  rintro e2 a2' w2 ⟨x, a2, H2, m2, ⟨rfl, rfl, rfl⟩, hm, hr2, ha2, hB2, hx⟩
  cases x with
  | normal =>
    cases hx
    exact roundsIn_lift hm hB2 (hX.loop h B0 m2 w2 a2' F hr2 ha2 (hf.mono hm.le) n)
  | exit id => cases hx; cases h; exact ⟨.exit id, _, _, m2, ⟨rfl, rfl, rfl⟩, hm, hr2, ha2, hB2, rfl⟩
  | goto l => cases hx; cases h; exact ⟨.goto l, _, _, m2, ⟨rfl, rfl, rfl⟩, hm, hr2, ha2, hB2, rfl⟩
  | ret => cases hx; cases h; exact ⟨.ret, _, _, m2, ⟨rfl, rfl, rfl⟩, hm, hr2, ha2, hB2, rfl⟩
  | panic v =>
    cases h
    obtain ⟨v', rfl, hv⟩ := hx
    exact ⟨.panic v, _, _, m2, ⟨rfl, rfl, rfl⟩, hm, hr2, ha2, hB2, v', rfl, hv⟩

theorem xSOps_sound {e : AExit} {u' : AMode} {ops : Array Oper} : ∀ (l : List Nat) {u : AMode} {s : St}, (∀ i ∈ l, i < ops.size) → xSOps P (l.filterMap (ops[·]?)) u s = some (e, u', s') → ASOps P ops (fun x v a H => x = e ∧ v = u' ∧ a = s'.a ∧ H = s'.H) l u s.a s.H := by
  intro l
  induction l with
  | nil => intro u s _ h; cases h; exact ⟨rfl, rfl, rfl, rfl⟩
  | cons i l ih =>
    intro u s hlt h
    have hi := hlt i (by simp)
    have ho : ops[i]? = some ops[i] := by simp [hi]
    rw [List.filterMap_cons, ho] at h
    simp only [xSOps] at h
    simp only [ASOps, ho]
    split at h
    · rename_i hg
      obtain ⟨hd, h⟩ := cond_none h
      refine ⟨hg, ?_⟩
      have ih' := fun {u : AMode} {s : St} => ih (u := u) (s := s) fun j hj => hlt j (by simp [hj])
      split
      · rename_i args ats hop
        rw [hop] at h
        simp only [isRecover, cond_true] at h
        cases u with
        | pan v =>
          show ASOps P ops (fun x v a H => x = e ∧ v = u' ∧ a = s'.a ∧ H = s'.H) l .caught (s.a.put ops[i].dst v) s.H
          rw [← St.put_a hd, ← St.put_H (s := s) (dst := ops[i].dst) (v := v)]
          exact ih' h
        | ret =>
          show ASOps P ops (fun x v a H => x = e ∧ v = u' ∧ a = s'.a ∧ H = s'.H) l .ret (s.a.put ops[i].dst .nilIface) s.H
          rw [← St.put_a hd, ← St.put_H (s := s) (dst := ops[i].dst) (v := .nilIface)]
          exact ih' h
        | caught =>
          show ASOps P ops (fun x v a H => x = e ∧ v = u' ∧ a = s'.a ∧ H = s'.H) l .caught (s.a.put ops[i].dst .nilIface) s.H
          rw [← St.put_a hd, ← St.put_H (s := s) (dst := ops[i].dst) (v := .nilIface)]
          exact ih' h
      · rename_i hop
        have hnr : isRecover ops[i].op = false := by
          cases hc : isRecover ops[i].op with
          | false => rfl
          | true =>
            unfold isRecover at hc
            split at hc
            · rename_i e1; exact absurd e1 (hop _ _)
            · cases hc
        rw [hnr] at h
        obtain ⟨v, hv, h⟩ := bind_some_iff (show (aPure P (s.a.eval P) s.H ops[i].op).bind _ = some (e, u', s') from h)
        refine ⟨v, hv, ?_⟩
        show ASOps P ops (fun x v a H => x = e ∧ v = u' ∧ a = s'.a ∧ H = s'.H) l u (s.a.put ops[i].dst v) s.H
        rw [← St.put_a hd, ← St.put_H (s := s) (dst := ops[i].dst) (v := v)]
        exact ih' h
    · cases h
theorem range_filterMap {α : Type} (l : List α) : (List.range l.length).filterMap (l[·]?) = l := by
  have _ := TT.tt
  have _ := PR.prog
  induction l with
  | nil => rfl
  | cons x l ih =>
    rw [List.length_cons, List.range_succ_eq_map, List.filterMap_cons]
    simp only [List.getElem?_cons_zero, List.filterMap_map]
    congr 1
theorem xCodeS_sound (hX : Sound P N X) {p : Loc} {u u' : AMode} {e : AExit} (h : xCodeS X P p u s = some (e, u', s')) : AWpS P (codeGet p) (fun x v a H => x = e ∧ v = u' ∧ a = s'.a ∧ H = s'.H) u s.a s.H := by
  have other : (X.code none p s).map (fun r => (r.1, u, r.2)) = some (e, u', s') → AWpS P (codeGet p) (fun x v a H => x = e ∧ v = u' ∧ a = s'.a ∧ H = s'.H) u s.a s.H := by
    intro h
    obtain ⟨q, hq, h⟩ := map_some_iff h
    obtain ⟨e1, s1⟩ := q
    cases h
    refine AWpS_of ((hX.code hq).mono ?_)
    rintro x a H ⟨rfl, rfl, rfl⟩
    exact ⟨rfl, rfl, rfl, rfl⟩
  unfold xCodeS at h
  have hl : codeGet (.l p) = kidL (codeGet p) := rfl
  have hr : codeGet (.r p) = kidR (codeGet p) := rfl
  generalize codeGet p = c at h hl hr other
  cases c with
  | seq x y =>
    simp only at h
    obtain ⟨q, hq, h⟩ := bind_some_iff h
    obtain ⟨e1, u1, s1⟩ := q
    have hx := hX.codeS hq
    rw [hl] at hx
    refine AWpS_seq (hx.mono ?_)
    rintro x1 v a H ⟨rfl, rfl, rfl, rfl⟩
    cases x1 with
    | normal =>
      have hy := hX.codeS h
      rw [hr] at hy
      exact hy
    | _ => cases h; exact ⟨rfl, rfl, rfl, rfl⟩
  | cond c x y =>
    simp only at h
    split at h
    · rename_i b hb
      refine AWpS_cond hb (fun hbt => ?_) fun hbf => ?_
      · subst hbt
        have hx := hX.codeS (show X.codeS (.l p) u s = some (e, u', s') from h)
        rw [hl] at hx
        exact hx
      · subst hbf
        have hy := hX.codeS (show X.codeS (.r p) u s = some (e, u', s') from h)
        rw [hr] at hy
        exact hy
    · cases h
  | region id ops draw =>
    cases draw with
    | true => exact other h
    | false =>
      simp only at h
      cases hrc : ops.toList.any (fun o => isRecover o.op) with
      | false => rw [hrc] at h; exact other h
      | true =>
        rw [hrc] at h
        simp only [cond_true] at h
        refine AWpS_region (xSOps_sound _ (by simp) ?_)
        have e1 : (List.range ops.size).filterMap (ops[·]?) = ops.toList := by
          have := range_filterMap ops.toList
          simpa using this
        rw [e1]
        exact h
  | _ => exact other h

/-- The reckoner is right. -/
theorem ex_sound (htt : TT.tt = true) (hP : P = PR.prog) (hmix : P.follows .mixedOrders = true) (hc : ∀ f fn c, P.funcs[f]? = some fn → fn.body = some c → Callable P f) (n : Nat) : Sound P n (ex P n) := by
  induction n with
  | zero => exact ⟨fun h => (by cases h), fun h => (by cases h), fun h => (by cases h), fun h => (by cases h), fun h => (by cases h), fun h => (by cases h)⟩
  | succ n ih =>
    exact ⟨fun h => xCode_sound htt hmix ih h, fun h => xLoop_sound ih h, fun h => xCodeS_sound ih h, fun h => xCallF_sound ih hP hc h, fun h => xDCallF_sound ih hP hc h, fun h => xRoundF_sound ih h⟩
end
end Go.Ab

