/- ABSTRACT MEMORY, 23: closed runs, reckoned: regions that draw; how functions are left; rounds. -/
import Derived.Test.YthbeglfmgfaldaaGreatME
namespace Go.Ab
open Go Go.RowKit
variable [TT] [PR]
section
variable {P : Program} {N : Nat} {X : Ex} {ro : Option Nat} {s s' : St} {dst : Option Tmp}

theorem beqB_eq {b b' : ABlk} (h : beqB b b' = true) : b = b' := by
  have _ := TT.tt
  have _ := PR.prog
  unfold beqB at h
  split at h
  · simp only [Bool.and_eq_true] at h
    rw [(veqN_eq 1000).2 _ _ h.1.1, Nat.eq_of_beq_eq_true h.1.2]
    have := h.2
    unfold kEq at this
    split at this <;> first | rfl | cases this
  · rfl
  · cases h
theorem againT_of {ops : Array Oper} {y : Nat} {a : AAct} {H : AHeap} {D : List Nat} (h : ∀ i ∈ againLT ops y D, match ops[i]? with
      | some o => match o.dst with
        | some d => aWanted ops a o = some true → (isFloat o.op = true → aPure P (a.eval P) H o.op = a.f d) ∧ (isMk o.op = true → ∃ b mk z, aAlloc P (a.eval P) o.op = some (b, mk) ∧ a.f d = some (mk z) ∧ H z = some b)
        | none => False
      | none => False) : AgainT P ops y a H D := by
  have _ := TT.tt
  have _ := PR.prog
  induction D with
  | nil => trivial
  | cons x D ih =>
    refine ⟨fun h1 h2 => h x ?_, ih fun i hi => h i ?_⟩
    · simp only [againLT, List.mem_filter, List.mem_cons, true_or, true_and, h1, h2, Bool.not_false, Bool.and_self]
    · simp only [againLT, List.mem_filter, List.mem_cons] at hi ⊢
      exact ⟨.inr hi.1, hi.2⟩
theorem xAgain_sound {ops : Array Oper} {y : Nat} {D : List Nat} (h : xAgain P ops y D s = true) : AgainT P ops y s.a s.H D := by
  refine againT_of fun i hi => ?_
  have h1 := (List.all_eq_true.1 h) i hi
  split at h1
  · rename_i o ho
    split at h1
    · rename_i d hd
      rw [ho]
      simp only [hd]
      intro hw
      rw [hw] at h1
      simp only at h1
      unfold xAgain1 at h1
      refine ⟨fun hf => ?_, fun hm => ?_⟩
      · rw [hf] at h1
        simp only [cond_true] at h1
        split at h1
        · rename_i u v hu hv
          rw [hu, hv, veq_eq h1]
        · cases h1
      · have hf : isFloat o.op = false := by
          cases hfl : isFloat o.op with
          | false => rfl
          | true => rw [float_mk hfl] at hm; cases hm
        rw [hf] at h1
        simp only [cond_false] at h1
        split at h1
        · rename_i b mk v ha hv
          split at h1
          · rename_i z hz
            simp only [Bool.and_eq_true] at h1
            obtain ⟨h2, h3⟩ := h1
            split at h3
            · rename_i b' hb'
              exact ⟨b, mk, z, ha, by rw [hv, veq_eq h2], by rw [hb', beqB_eq h3]⟩
            · cases h3
          · cases h1
        · cases h1
    · cases h1
  · cases h1

theorem tF_sans (l : List Oper) : ∀ {t : Tr (Option Value)}, (l.all fun o => slotOK o.dst) = true → tF (xSans l t) = fun x => if l.any (fun o => o.dst == some x) then none else tF t x := by
  have _ := TT.tt
  induction l with
  | nil => intro t _; funext x; simp [xSans]
  | cons o l ih =>
    intro t h
    simp only [List.all_cons, Bool.and_eq_true] at h
    simp only [xSans]
    cases hd : o.dst with
    | none =>
      simp only
      rw [ih h.2]
      funext x
      simp [hd]
    | some d =>
      simp only
      rw [hd] at h
      rw [ih h.2]
      funext x
      rw [tF_set (show Nat.ble d 1000000000 = true from h.1)]
      simp only [List.any_cons, hd]
      by_cases e : x = d
      · subst e; simp
      · have e' : (some d == some x) = false := by simp; exact Ne.symm e
        simp [e, e']
theorem sans_eq {ops : Array Oper} (h : (ops.toList.all fun o => slotOK o.dst) = true) : (sans ops s.a).f = tF (xSans ops.toList s.t) := by
  rw [tF_sans _ h]
  funext x
  simp only [sans]
  have e : ((List.range ops.size).any fun i => dstOf ops i == some x) = ops.toList.any fun o => o.dst == some x := by
    rw [Bool.eq_iff_iff, List.any_eq_true, List.any_eq_true]
    constructor
    · rintro ⟨i, hi, h⟩
      have hi' : i < ops.size := by simpa using hi
      refine ⟨ops[i], by simp, ?_⟩
      simpa [dstOf, hi'] using h
    · rintro ⟨o, ho, h⟩
      obtain ⟨i, hi, e⟩ := List.getElem_of_mem ho
      refine ⟨i, by simpa using hi, ?_⟩
      have hi' : i < ops.size := by simpa using hi
      have : ops[i]? = some o := by rw [← e]; simp
      simpa [dstOf, this] using h
  rw [e]
  rfl

theorem xGo_sound (htt : TT.tt = true) (hX : Sound P N X) {ops : Array Oper} {t0 : Tr (Option Value)} {a0 : AAct} {e : AExit} (h0 : a0.f = tF t0) (k : Nat) : ∀ {D : List Nat} {s : St}, a0.n = s.n → xGo X P ro ops t0 k D s = some (e, s') → BGo P ro ops (Ends e s') a0 k D s.a s.H := by
  have hput : ∀ {s : St} {d : Option Tmp} {v : Value}, (s.put d v).n = s.n := by intro s d v; cases d <;> rfl
  induction k with
  | zero => intro D s _ h; cases h
  | succ k ih =>
    intro D s hn h
    simp only [xGo] at h
    simp only [BGo]
    split at h
    · rename_i i hf
      rw [hf]
      simp only
      split at h
      · cases h
      · rename_i o ho
        rw [ho]
        simp only
        obtain ⟨hd, h⟩ := cond_none h
        obtain ⟨b, hb, h⟩ := bind_some_iff h
        refine ⟨b, hb, fun hbt => ?_, fun hbf => ?_⟩
        · subst hbt
          obtain ⟨v, hv, h⟩ := bind_some_iff (show (aPure P (s.a.eval P) s.H o.op).bind _ = some (e, s') from h)
          refine ⟨v, hv, ?_⟩
          show BGo P ro ops (Ends e s') a0 k (i :: D) (s.a.put o.dst v) s.H
          rw [← St.put_a hd, ← St.put_H (s := s) (dst := o.dst) (v := v)]
          exact ih (by rw [hput]; exact hn) h
        · subst hbf
          rw [← St.put_a hd, ← St.put_H (s := s) (dst := o.dst) (v := undef)]
          exact ih (by rw [hput]; exact hn) h
    · rename_i hf
      rw [hf]
      simp only
      split at h
      · rename_i i hm
        rw [hm]
        simp only
        split at h
        · cases h
        · rename_i o ho
          rw [ho]
          simp only
          obtain ⟨hd, h⟩ := cond_none h
          obtain ⟨b, hb, h⟩ := bind_some_iff h
          refine ⟨b, hb, fun hbt => ?_, fun hbf => ?_⟩
          · subst hbt
            obtain ⟨bm, hbm, h⟩ := bind_some_iff (show (aAlloc P (s.a.eval P) o.op).bind _ = some (e, s') from h)
            obtain ⟨x, hx, h⟩ := bind_some_iff h
            obtain ⟨hfr, h⟩ := cond_none h
            obtain ⟨e1, e2⟩ := Mem.new_H (b := x) hfr
            refine ⟨bm, hbm, s.m.nx, e2, ?_⟩
            have q1 : (({ s with m := s.m.new x } : St).put o.dst (bm.2 s.m.nx)).a = s.a.put o.dst (bm.2 s.m.nx) := St.putm_a hd
            have q2 : (({ s with m := s.m.new x } : St).put o.dst (bm.2 s.m.nx)).H = upd s.H s.m.nx bm.1 := by rw [St.putm_H, e1, XB.of_a hx]; rfl
            rw [← q1, ← q2]
            exact ih (by rw [hput]; exact hn) h
          · subst hbf
            rw [← St.put_a hd, ← St.put_H (s := s) (dst := o.dst) (v := undef)]
            exact ih (by rw [hput]; exact hn) h
      · rename_i hm
        rw [hm]
        simp only
        split at h
        · rename_i hr
          rw [hr]
          cases h
          exact ⟨fun _ => ⟨rfl, rfl, rfl⟩, fun i hi => (by cases hi)⟩
        · rename_i i hr
          rw [hr]
          refine ⟨fun hc => (by cases hc), fun j hj => ?_⟩
          simp only [List.mem_singleton] at hj
          subst hj
          split at h
          · cases h
          · rename_i o ho
            rw [ho]
            simp only
            obtain ⟨b, hb, h⟩ := bind_some_iff h
            refine ⟨b, hb, fun hbt => ?_, fun hbf => ?_⟩
            · subst hbt
              obtain ⟨r, hr, h⟩ := bind_some_iff (show (xOp X P ro s o.dst o.op).bind _ = some (e, s') from h)
              have hop := xOp_sound htt hX hr
              have hnn : ∀ s1, r = .ok s1 → s1.n = s.n := fun s1 e1 => by
                subst e1
                exact xOp_n hr
              refine AOp_congr (fun _ _ => rfl) rfl (fun v ds H' hk => ?_) (fun v H' hx => ?_) hop
              · obtain ⟨s1, rfl, e1, e2⟩ := hk
                obtain ⟨hag, h⟩ := cond_none (show cond (xAgain P ops j D s1) _ none = some (e, s') from h)
                rw [e1, e2]
                exact ⟨xAgain_sound hag, ih (by rw [hnn s1 rfl]; exact hn) h⟩
              · obtain ⟨m, rfl, rfl⟩ := hx
                cases h
                refine ⟨rfl, ?_, rfl⟩
                show (⟨a0.n, a0.f, s.ds⟩ : AAct) = ⟨s.n, tF t0, s.ds⟩
                rw [hn, h0]
            · subst hbf
              obtain ⟨hd, h⟩ := cond_none (show cond (slotOK o.dst) _ none = some (e, s') from h)
              rw [← St.put_a hd, ← St.put_H (s := s) (dst := o.dst) (v := undef)]
              exact ih (by rw [hput]; exact hn) h
        · cases h

theorem xLeave_sound (hX : Sound P N X) {fn : Func} {r : ARes} {m' : Mem} (ds : List Deferred) : ∀ {u : AMode} {s : St} {a : AAct}, a.n = s.n → a.f = s.a.f → xLeave X P fn ds u s = some (r, m') → ALeave P fn (fun r' H' => r' = r ∧ H' = m'.H) ds u a s.H := by
  have hres : ∀ {s : St} {a : AAct}, a.f = s.a.f → aResults P fn a s.H = aResults P fn s.a s.H := by
    intro s a ha
    have h1 : ∀ x, aResult P a s.H x = aResult P s.a s.H x := fun x => by cases x <;> simp only [aResult, ha]
    have h2 : ∀ l, aResList P a s.H l = aResList P s.a s.H l := fun l => by
      induction l with
      | nil => rfl
      | cons x l ih => simp only [aResList, h1, ih]
    simp only [aResults, h2]
  induction ds with
  | nil =>
    intro u s a hn ha h
    cases u with
    | ret =>
      simp only [xLeave] at h
      obtain ⟨v, hv, h⟩ := map_some_iff h
      cases h
      simp only [ALeave]
      exact ⟨v, by rw [hres ha]; exact hv, rfl, rfl⟩
    | pan v => cases h; exact ⟨rfl, rfl⟩
    | caught => cases h
  | cons d ds ih =>
    intro u s a hn ha h
    obtain ⟨tg, args⟩ := d
    cases tg with
    | collected q =>
      simp only [xLeave] at h
      split at h
      · rename_i hg
        obtain ⟨hi, h⟩ := cond_none h
        have := ih (u := u) (s := { s with m := s.m.put q .dead }) (a := a) hn ha h
        simp only [ALeave]
        refine ⟨Mem.get_H hg, ?_⟩
        rw [show ({ s with m := s.m.put q .dead } : St).H = del s.H q by rw [St.mem_H, Mem.put_H hi]; rfl] at this
        exact this
      · cases h
    | fn f cap =>
      cases f with
      | func f =>
        simp only [xLeave] at h
        obtain ⟨q, hq, h⟩ := bind_some_iff h
        obtain ⟨v, u', m1⟩ := q
        obtain ⟨h1, h2⟩ := hX.dcall hq
        simp only [ALeave]
        refine ⟨h1, fun B0 m w args' u'' hr hv hu n => ?_⟩
        have h3 := h2 B0 m w args' u'' hr hv hu n
        refine ⟨h3.1, fun c cs hmode hroom => ?_⟩
        obtain ⟨e, u2, w2, fr, ⟨v1, v', U, H', mm, ⟨rfl, rfl, rfl⟩, rest⟩, more⟩ := h3.2 c cs hmode hroom
        exact ⟨e, u2, w2, fr, ⟨v1, v', U, _, mm, ih (u := aSettle U) (s := { s with m := m1 }) hn ha h, rest⟩, more⟩
      | _ => cases h
    | _ => cases h
end
end Go.Ab

