/- ABSTRACT MEMORY, 24: closed runs, reckoned: code, calls, rounds; the reckoner is right. -/
import Derived.Test.YthbeglfmgfaldaaGreatMF
namespace Go.Ab
open Go Go.RowKit
variable [TT] [PR]
section
variable {P : Program} {N : Nat} {X : Ex} {ro : Option Nat} {s s' : St} {dst : Option Tmp}

theorem xFill_get (l : List Value) : ∀ {k : Nat} {t : Tr (Option Value)}, k + l.length ≤ 1000000000 → ∀ x, tF (xFill l k t) x = if k ≤ x ∧ x < k + l.length then l[x - k]? else tF t x := by
  have _ := TT.tt
  induction l with
  | nil =>
    intro k t _ x
    simp only [xFill, List.length_nil, Nat.add_zero]
    rw [if_neg (by omega)]
  | cons v l ih =>
    intro k t h x
    simp only [List.length_cons] at h ⊢
    simp only [xFill]
    rw [ih (by omega)]
    have hb : Nat.ble k 1000000000 = true := Nat.ble_eq_true_of_le (by omega)
    by_cases h1 : Nat.succ k ≤ x ∧ x < Nat.succ k + l.length
    · rw [if_pos h1, if_pos (by omega)]
      have e : x - k = (x - Nat.succ k) + 1 := by omega
      rw [e, List.getElem?_cons_succ]
    · rw [if_neg h1, tF_set hb]
      simp only
      by_cases e : x = k
      · subst e
        rw [if_pos rfl, if_pos (by omega)]
        simp
      · rw [if_neg e, if_neg (by omega)]
theorem entry_eq {args : List Value} {n : Nat} {m : Mem} (h : Nat.ble args.length 1000000 = true) : (⟨args.length + (n - args.length), xFill args 0 .nil, [], m⟩ : St).a = aEntry args n := by
  have hl := Nat.le_of_ble_eq_true h
  unfold aEntry St.a
  simp only
  congr 1
  funext x
  rw [xFill_get args (by omega)]
  by_cases hx : x < args.length
  · rw [if_pos (by omega), if_pos hx]; rfl
  · rw [if_neg (by omega), if_neg hx]; rfl

theorem top_body (hP : P = PR.prog) {f : FuncId} {fn : Func} {c : Code} (hf : P.funcs[f]? = some fn) (hb : fn.body = some c) : codeGet (.top f) = c := by
  have _ := TT.tt
  subst hP
  show bodyOf PR.prog f = c
  simp [bodyOf, hf, hb]
theorem xCallF_sound (hX : Sound P N X) (hP : P = PR.prog) (hc : ∀ f fn c, P.funcs[f]? = some fn → fn.body = some c → Callable P f) {f : FuncId} {args : List Value} {m m' : Mem} {r : ARes} (h : xCallF X P f args m = some (r, m')) :
    Callable P f ∧ SCalls P f args m.H fun r' H' => r' = r ∧ H' = m'.H := by
  unfold xCallF at h
  obtain ⟨fn, hfn, h⟩ := bind_some_iff h
  obtain ⟨c, hb, h⟩ := bind_some_iff h
  obtain ⟨hl, h⟩ := cond_none h
  obtain ⟨q, hq, h⟩ := bind_some_iff h
  obtain ⟨e, s1⟩ := q
  refine ⟨hc f fn c hfn hb, SCalls_of_AWp hfn hb ?_⟩
  have hcode := hX.code hq
  rw [entry_eq hl, top_body hP hfn hb] at hcode
  refine AWp.mono hcode ?_
  rintro x a H ⟨rfl, rfl, rfl⟩
  cases x with
  | normal => exact xLeave_sound hX _ rfl rfl h
  | ret => exact xLeave_sound hX _ rfl rfl h
  | panic v => exact xLeave_sound hX _ rfl rfl h
  | exit id => cases h
  | goto l => cases h
theorem xDCallF_sound (hX : Sound P N X) (hP : P = PR.prog) (hc : ∀ f fn c, P.funcs[f]? = some fn → fn.body = some c → Callable P f) {f : FuncId} {args : List Value} {u u' : AMode} {m m' : Mem} {v : Value} (h : xDCallF X P f args u m = some (v, u', m')) :
    Callable P f ∧ SDCalls P f args u m.H fun v' w H' => v' = v ∧ w = u' ∧ H' = m'.H := by
  unfold xDCallF at h
  obtain ⟨fn, hfn, h⟩ := bind_some_iff h
  obtain ⟨c, hb, h⟩ := bind_some_iff h
  obtain ⟨hl, h⟩ := cond_none h
  obtain ⟨q, hq, h⟩ := bind_some_iff h
  obtain ⟨e, u1, s1⟩ := q
  refine ⟨hc f fn c hfn hb, SDCalls_of_AWpS hfn hb ?_⟩
  have hcode := hX.codeS hq
  rw [entry_eq hl, top_body hP hfn hb] at hcode
  refine AWpS.mono hcode ?_
  rintro x w a H ⟨rfl, rfl, rfl, rfl⟩
  simp only at h
  split at h
  · rename_i hd
    obtain ⟨v1, hv, h⟩ := map_some_iff h
    cases h
    exact ⟨hd, _, hv, rfl, rfl, rfl⟩
  · rename_i hd
    obtain ⟨v1, hv, h⟩ := map_some_iff h
    cases h
    exact ⟨hd, _, hv, rfl, rfl, rfl⟩
  · cases h

theorem xSetPs_eq (n : Nat) (l : List (Tmp × Value)) : ∀ {t : Tr (Option Value)}, ((l.map (·.1)).all fun d => Nat.ble d 1000000000) = true → setPs ⟨n, tF t⟩ l = ⟨n, tF (xSetPs n t l)⟩ := by
  have _ := TT.tt
  induction l with
  | nil => intro t _; rfl
  | cons x l ih =>
    intro t h
    obtain ⟨d, v⟩ := x
    simp only [List.map_cons, List.all_cons, Bool.and_eq_true] at h
    simp only [setPs, xSetPs]
    rw [← ih h.2, tF_set h.1, ble_cond]
theorem xEndRound_sound {l : Nat} {jump : Option Code} {m m' : Mem} {r : ARes} (hl : Nat.ble l 1000000000 = true) (h : xEndRound l jump m = some (r, m')) : endRound l jump m.H fun r' H' => r' = r ∧ H' = m'.H := by
  unfold xEndRound at h
  split at h
  · rename_i L hL
    cases h
    have hH : m.H l = some (.loop L.a) := Mem.get_H hL
    refine ⟨L.a, by simp [loopAt, hH], rfl, ?_⟩
    rw [Mem.put_H hl]
    rfl
  · cases h
theorem xRoundF_sound (hX : Sound P N X) {l : Nat} {args : List Value} {m m' : Mem} {r : ARes} (h : xRoundF X l args m = some (r, m')) : SRound P l args m.H fun r' H' => r' = r ∧ H' = m'.H := by
  unfold xRoundF at h
  obtain ⟨hl, h⟩ := cond_none h
  split at h
  · rename_i L hL
    obtain ⟨hc, h⟩ := cond_none h
    simp only [Bool.and_eq_true] at hc
    have hlen := Nat.eq_of_beq_eq_true hc.1
    have hH : m.H l = some (.loop L.a) := Mem.get_H hL
    obtain ⟨q, hq, h⟩ := bind_some_iff h
    obtain ⟨e, s1⟩ := q
    refine SRound_of_AWp (L := L.a) hH hlen ?_
    have hps : ((L.params.toList.zip args).map (·.1)) = L.params.toList := List.map_fst_zip (by simp [hlen])
    have hset := xSetPs_eq L.n (L.params.toList.zip args) (t := L.t) (by rw [hps]; exact hc.2)
    have hcode := hX.code hq
    have e1 : (⟨L.n, xSetPs L.n L.t (L.params.toList.zip args), [], m⟩ : St).a = ⟨L.a.tmps.n, (setPs L.a.tmps (L.a.params.toList.zip args)).f, []⟩ := by
      show (⟨L.n, tF (xSetPs L.n L.t (L.params.toList.zip args)), []⟩ : AAct) = ⟨L.n, (setPs ⟨L.n, tF L.t⟩ (L.params.toList.zip args)).f, []⟩
      rw [hset]
    rw [e1] at hcode
    refine AWp.mono hcode ?_
    rintro x a H ⟨rfl, rfl, rfl⟩
    cases x with
    | normal =>
      simp only at h
      split at h
      · rename_i L2 hL2
        split at h
        · rename_i hst
          obtain ⟨q2, hq2, h⟩ := bind_some_iff h
          obtain ⟨e2, s2⟩ := q2
          have hH2 : s1.H l = some (.loop L2.a) := Mem.get_H hL2
          refine ⟨L2.a, by simp [loopAt, hH2], hst, ?_⟩
          have hbody := hX.code hq2
          have e3 : ({ s1 with m := s1.m.put l (.loop { L2 with state := .busy }) } : St).H = upd s1.H l (.loop { L2.a with state := .busy }) := by
            rw [St.mem_H, Mem.put_H hl]; rfl
          rw [e3] at hbody
          refine AWp.mono hbody ?_
          rintro x2 a2 H2 ⟨rfl, rfl, rfl⟩
          cases x2 with
          | normal => exact xEndRound_sound hl h
          | ret => exact xEndRound_sound hl h
          | exit id => exact xEndRound_sound hl h
          | goto t => cases h
          | panic v => cases h
        · cases h
      · cases h
    | _ => cases h
  · cases h

theorem xRangeEnd_sound {l : Nat} {q : ARes × Mem} {e : AExit} (hl : Nat.ble l 1000000000 = true) (h : xRangeEnd l s q = some (e, s')) : ∀ r' H', (r' = q.1 ∧ H' = q.2.H) → ARangeEnd l (Ends e s') s.a r' H' := by
  rintro r' H' ⟨rfl, rfl⟩
  unfold xRangeEnd at h
  obtain ⟨r, m⟩ := q
  cases r with
  | pan v => cases h; exact ⟨rfl, rfl, rfl⟩
  | ret v =>
    simp only at h
    split at h
    · rename_i L hL
      have hH : m.H l = some (.loop L.a) := Mem.get_H hL
      have hdel : (m.put l .dead).H = del m.H l := by rw [Mem.put_H hl]; rfl
      have hbusy : ∀ {o : Option (AExit × St)}, (match L.state with | .busy => none | _ => o) = some (e, s') → L.state ≠ .busy ∧ o = some (e, s') := by
        intro o ho
        cases hst : L.state <;> rw [hst] at ho <;> first | exact ⟨by simp, ho⟩ | cases ho
      obtain ⟨hb, h⟩ := hbusy h
      refine ⟨L.a, by simp [loopAt, hH], hb, ?_⟩
      show match L.pending with
        | none => Ends e s' .normal s.a (del m.H l)
        | some .ret => Ends e s' .ret s.a (del m.H l)
        | some (.exit id) => Ends e s' (.exit id) s.a (del m.H l)
        | _ => False
      split at h
      · rename_i hp; rw [hp]; cases h; exact ⟨rfl, rfl, by rw [St.mem_H, hdel]⟩
      · rename_i hp; rw [hp]; cases h; exact ⟨rfl, rfl, by rw [St.mem_H, hdel]⟩
      · rename_i id hp; rw [hp]; cases h; exact ⟨rfl, rfl, by rw [St.mem_H, hdel]⟩
      · cases h
    · cases h
theorem ACallF_mono {fv : Value} {vs : List Value} {H : AHeap} {R R' : ARes → AHeap → Prop} (hr : ∀ r H', R r H' → R' r H') (h : ACallF P fv vs H R) : ACallF P fv vs H R' := by
  have _ := PR.prog
  unfold ACallF at h
  split at h
  · exact ⟨h.1, h.2.mono hr⟩
  · split at h
    · rename_i e
      simp only [ACallF, e]
      obtain ⟨u, h1, h2, h3⟩ := h
      exact ⟨u, h1, h2, h3.mono hr⟩
    · exact h.elim
  · exact h.elim
theorem cond_none' {α : Type} {b : Bool} {x : Option α} {y : α} (h : cond b none x = some y) : b = false ∧ x = some y := by
  have _ := TT.tt
  have _ := PR.prog
  cases b with
  | false => exact ⟨rfl, h⟩
  | true => cases h
theorem free_le {m : Mem} (h : m.free = true) : Nat.ble m.nx 1000000000 = true := by
  have _ := TT.tt
  have _ := PR.prog
  unfold Mem.free at h
  cases hg : m.h.get m.nx with
  | some x => rw [hg] at h; cases h
  | none => rw [hg] at h; exact h
theorem xRange_sound (htt : TT.tt = true) (hX : Sound P N X) {g : Operand} {ps : Array Tmp} {p : Loc} {e : AExit} (h : xRange X P ro g ps p s = some (e, s')) : AWp P ro (.rangeFunc g ps (codeGet (.l p)) (codeGet (.r p))) (Ends e s') s.a s.H := by
  unfold xRange at h
  obtain ⟨gv, hgv, h⟩ := bind_some_iff h
  obtain ⟨hy, h⟩ := cond_none' h
  refine AWp_rangeFunc ⟨gv, hgv, ?_⟩
  cases ro with
  | none =>
    simp only at h
    obtain ⟨hf1, h⟩ := cond_none h
    obtain ⟨hf2, h⟩ := cond_none h
    obtain ⟨q, hq, h⟩ := bind_some_iff h
    obtain ⟨r, m2⟩ := q
    obtain ⟨e1, e2⟩ := Mem.new_H (b := .defs) hf1
    obtain ⟨e3, e4⟩ := Mem.new_H (b := .loop ⟨.ready, none, s.n, s.t, ps, p⟩) hf2
    have hcall := xFnVal_soundF hX hy hq
    rw [e3] at hcall
    rw [e1] at hcall e4
    refine .inl ⟨htt, s.m.nx, e2, .inl ⟨htt, (s.m.new .defs).nx, e4, ?_⟩⟩
    exact ACallF_mono (xRangeEnd_sound (s := { s with ds := ⟨.collected s.m.nx, #[]⟩ :: s.ds }) (free_le hf2) h) hcall
  | some l0 =>
    simp only at h
    split at h
    · rename_i L0 hL0
      obtain ⟨hf1, h⟩ := cond_none h
      obtain ⟨q, hq, h⟩ := bind_some_iff h
      obtain ⟨r, m2⟩ := q
      obtain ⟨e1, e2⟩ := Mem.new_H (b := .loop ⟨.ready, none, s.n, s.t, ps, p⟩) hf1
      have hcall := xFnVal_soundF hX hy hq
      rw [e1] at hcall
      exact ⟨L0.a, Mem.get_H hL0, .inl ⟨htt, s.m.nx, e2, ACallF_mono (xRangeEnd_sound (free_le hf1) h) hcall⟩⟩
    · cases h

theorem array_eta {α : Type} (a : Array α) : a = ⟨a.toList⟩ := have _ := TT.tt; have _ := PR.prog; rfl
end
end Go.Ab

