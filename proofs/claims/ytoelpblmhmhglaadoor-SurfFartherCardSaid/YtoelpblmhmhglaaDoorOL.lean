/- ABSTRACT MEMORY, 43: what a run comes to: it is so. -/
import Derived.Test.YtoelpblmhmhglaaDoorOK
namespace Go.Ab
open Go Go.RowKit
variable [TT] [PR]
section
variable {P : Program} {N : Nat} {X : Vx} {ro : Option Nat} {s : St} {dst : Option Tmp} {hs : HS}
theorem vOps_sound (htt : TT.tt = true) (hX : VSound P N X) {ops : List Oper} {K : AExit → St → HS → Prop} : ∀ (l : List Oper) {s : St} {hs : HS}, vOps X P ro ops K l s hs → AOpsL P ro ops (QQ K) l s.a s.H := by
 intro l
 induction l with
 | nil => intro s hs h; exact ⟨s, hs, h, rfl, rfl⟩
 | cons o l ih =>
  intro s hs h
  simp only [vOps] at h
  simp only [AOpsL]
  split at h
  · rename_i hw
    refine ⟨true, hw, fun _ => ?_, fun hc => by cases hc⟩
    refine AOp_congr (fun _ _ => rfl) rfl (fun v ds H' hk => ?_) (fun v H' hx => ?_) (vOp_sound htt hX h)
    · obtain ⟨s1, hs1, hk, e1, e2⟩ := hk
      rw [e1, e2]
      exact ih hk
    · obtain ⟨m, hs1, hk, rfl⟩ := hx
      exact ⟨_, hs1, hk, rfl, rfl⟩
  · rename_i hw
    obtain ⟨hd, h⟩ := cond_false' h
    refine ⟨false, hw, fun hc => (by cases hc), fun _ => ?_⟩
    rw [← St.put_a hd, ← St.put_H (s := s) (dst := o.dst) (v := undef)]
    exact ih h
  · exact h.elim
theorem againP_at {ops : Array Oper} (l : List Nat) (h : againP P ops s l) {i : Nat} (hi : i ∈ l) : match ops[i]? with
      | some o => match o.dst with
       | some d => aWanted ops s.a o = some true → (isFloat o.op = true → aPure P (s.a.eval P) s.H o.op = s.a.f d) ∧ (isMk o.op = true → ∃ b mk z, aAlloc P (s.a.eval P) o.op = some (b, mk) ∧ s.a.f d = some (mk z) ∧ s.H z = some b)
       | none => False
      | none => False := by
 induction l with
 | nil => cases hi
 | cons x l ih =>
  rcases List.mem_cons.1 hi with rfl | hi
  · have h1 := h.1
    split at h1
    · rename_i o ho
      split at h1
      · rename_i d hd
        rw [ho]
        simp only [hd]
        intro hw
        rw [hw] at h1
        simp only at h1
        refine ⟨fun hf => ?_, fun hm => ?_⟩
        · rw [hf] at h1
          simp only [cond_true] at h1
          split at h1
          · rename_i v hv
            rw [cAs_sound h1, hv]
          · exact h1.elim
        · have hf : isFloat o.op = false := by
           cases hfl : isFloat o.op with
           | false => rfl
           | true => rw [float_mk hfl] at hm; cases hm
          rw [hf] at h1
          simp only [cond_false] at h1
          split at h1
          · rename_i bm v ha hv
            split at h1
            · rename_i z hz
              exact ⟨bm.1, bm.2, z, ha, by rw [hv, h1.1], h1.2⟩
            · exact h1.elim
          · exact h1.elim
      · exact h1.elim
    · exact h1.elim
  · exact ih h.2 hi
theorem vAgain_sound {ops : Array Oper} {i : Nat} {D : List Nat} {C : HS → Prop} (h : vAgain P ops i D s C hs) : AgainT P ops i s.a s.H D ∧ ∃ hs', C hs' := by
 unfold vAgain at h
 split at h
 · rename_i hl
   exact ⟨againT_of fun j hj => (by rw [hl] at hj; cases hj), hs, h⟩
 · rename_i x l hl
   split at h
   · rename_i hs' _
     exact ⟨againT_of fun j hj => againP_at (x :: l) h.1 (by rw [← hl]; exact hj), hs', h.2⟩
   · rename_i hs' _ _
     obtain ⟨h1, h2⟩ := cond_false' h
     exact ⟨xAgain_sound h1, _, h2⟩
theorem vPure_sound {op : Op} {C : Value → HS → Prop} (h : vPure P s op C hs) : ∃ v, aPure P (s.a.eval P) s.H op = some v ∧ ∃ hs', C v hs' := by
 have _ := TT.tt
 unfold vPure at h
 split at h
 · rename_i v hs' _
   exact ⟨v, cAs_sound h.1, hs', h.2⟩
 · rename_i h1 h2 _ _
   split at h
   · rename_i b hv
     cases b with
     | true => exact ⟨_, hv, h1, h.1 rfl⟩
     | false => exact ⟨_, hv, h2, h.2 rfl⟩
   · exact h.elim
 · rename_i hs' _ _ _
   split at h
   · rename_i v hv
     exact ⟨v, hv, _, h⟩
   · exact h.elim
theorem vMake_sound {o : Oper} {C : St → HS → Prop} (hd : slotOK o.dst = true) (h : vMake P s o C hs) : ∃ bm, aAlloc P (s.a.eval P) o.op = some bm ∧ s.H s.m.nx = none ∧ ∃ s' hs', C s' hs' ∧ s'.n = s.n ∧ s'.a = s.a.put o.dst (bm.2 s.m.nx) ∧ s'.H = upd s.H s.m.nx bm.1 := by
 unfold vMake at h
 split at h
 · rename_i n cs hs'
   split at h
   · rename_i pr hpr
     obtain ⟨h1, h⟩ := h
     obtain ⟨hfr, h⟩ := cond_false' h
     obtain ⟨e1, e2⟩ := Mem.new_H (b := .cells cs pr.2 .row) hfr
     refine ⟨_, vMk_sound hpr h1, e2, _, hs', h, ?_, St.putm_a hd, ?_⟩
     · cases o.dst <;> rfl
     · rw [St.putm_H, e1]; rfl
   · exact h.elim
 · split at h
   · rename_i bm hbm
     split at h
     · rename_i x hx
       obtain ⟨hfr, h⟩ := cond_false' h
       obtain ⟨e1, e2⟩ := Mem.new_H (b := x) hfr
       refine ⟨bm, hbm, e2, _, _, h, ?_, St.putm_a hd, ?_⟩
       · cases o.dst <;> rfl
       · rw [St.putm_H, e1, XB.of_a hx]; rfl
     · exact h.elim
   · exact h.elim
theorem vGo_sound (htt : TT.tt = true) (hX : VSound P N X) {ops : Array Oper} {t0 : Tr (Option Value)} {a0 : AAct} {K : AExit → St → HS → Prop} (h0 : a0.f = tF t0) (k : Nat) : ∀ {D : List Nat} {s : St} {hs : HS}, a0.n = s.n → vGo X P ro ops K t0 k D s hs → BGo P ro ops (QQ K) a0 k D s.a s.H := by
 have hput : ∀ {s : St} {d : Option Tmp} {v : Value}, (s.put d v).n = s.n := by intro s d v; cases d <;> rfl
 induction k with
 | zero => intro D s hs _ h; exact h.elim
 | succ k ih =>
  intro D s hs hn h
  simp only [vGo] at h
  simp only [BGo]
  split at h
  · rename_i i hf
    rw [hf]
    simp only
    split at h
    · exact h.elim
    · rename_i o ho
      rw [ho]
      simp only
      obtain ⟨hd, h⟩ := cond_false' h
      split at h
      · rename_i hw
        obtain ⟨v, hv, hs', h⟩ := vPure_sound h
        refine ⟨true, hw, fun _ => ⟨v, hv, ?_⟩, fun hc => (by cases hc)⟩
        show BGo P ro ops (QQ K) a0 k (i :: D) (s.a.put o.dst v) s.H
        rw [← St.put_a hd, ← St.put_H (s := s) (dst := o.dst) (v := v)]
        exact ih (by rw [hput]; exact hn) h
      · rename_i hw
        refine ⟨false, hw, fun hc => (by cases hc), fun _ => ?_⟩
        rw [← St.put_a hd, ← St.put_H (s := s) (dst := o.dst) (v := undef)]
        exact ih (by rw [hput]; exact hn) h
      · exact h.elim
  · rename_i hf
    rw [hf]
    simp only
    split at h
    · rename_i i hm
      rw [hm]
      simp only
      split at h
      · exact h.elim
      · rename_i o ho
        rw [ho]
        simp only
        obtain ⟨hd, h⟩ := cond_false' h
        split at h
        · rename_i hw
          obtain ⟨bm, hbm, e2, s', hs', h, hn', q1, q2⟩ := vMake_sound hd h
          refine ⟨true, hw, fun _ => ⟨bm, hbm, s.m.nx, e2, ?_⟩, fun hc => (by cases hc)⟩
          rw [← q1, ← q2]
          exact ih (by rw [hn']; exact hn) h
        · rename_i hw
          refine ⟨false, hw, fun hc => (by cases hc), fun _ => ?_⟩
          rw [← St.put_a hd, ← St.put_H (s := s) (dst := o.dst) (v := undef)]
          exact ih (by rw [hput]; exact hn) h
        · exact h.elim
    · rename_i hm
      rw [hm]
      simp only
      split at h
      · rename_i hr
        rw [hr]
        exact ⟨fun _ => ⟨s, hs, h, rfl, rfl⟩, fun i hi => (by cases hi)⟩
      · rename_i i hr
        rw [hr]
        refine ⟨fun hc => (by cases hc), fun j hj => ?_⟩
        simp only [List.mem_singleton] at hj
        subst hj
        split at h
        · exact h.elim
        · rename_i o ho
          rw [ho]
          simp only
          split at h
          · rename_i hw
            refine ⟨true, hw, fun _ => ?_, fun hc => (by cases hc)⟩
            refine AOp_congr (fun _ _ => rfl) rfl (fun v ds H' hk => ?_) (fun v H' hx => ?_) (vOp_sound htt hX h)
            · obtain ⟨s1, hs1, hk, e1, e2⟩ := hk
              obtain ⟨hnn, hk⟩ := cond_false' hk
              obtain ⟨hag, hs2, hk⟩ := vAgain_sound hk
              rw [e1, e2]
              exact ⟨hag, ih (by rw [Nat.eq_of_beq_eq_true hnn]; exact hn) hk⟩
            · obtain ⟨m, hs1, hk, rfl⟩ := hx
              refine ⟨_, hs1, hk, ?_, rfl⟩
              show (⟨a0.n, a0.f, s.ds⟩ : AAct) = ⟨s.n, tF t0, s.ds⟩
              rw [hn, h0]
          · rename_i hw
            obtain ⟨hd, h⟩ := cond_false' h
            refine ⟨false, hw, fun hc => (by cases hc), fun _ => ?_⟩
            rw [← St.put_a hd, ← St.put_H (s := s) (dst := o.dst) (v := undef)]
            exact ih (by rw [hput]; exact hn) h
          · exact h.elim
      · exact h.elim
theorem vLeave_sound (hX : VSound P N X) {fn : Func} {K : ARes → Mem → HS → Prop} (ds : List Deferred) : ∀ {u : AMode} {s : St} {a : AAct} {hs : HS}, a.f = s.a.f → vLeave X P fn K ds u s hs → ALeave P fn (RR K) ds u a s.H := by
 have hres : ∀ {s : St} {a : AAct}, a.f = s.a.f → aResults P fn a s.H = aResults P fn s.a s.H := by
  intro s a ha
  have h1 : ∀ x, aResult P a s.H x = aResult P s.a s.H x := fun x => by cases x <;> simp only [aResult, ha]
  have h2 : ∀ l, aResList P a s.H l = aResList P s.a s.H l := fun l => by
   induction l with
   | nil => rfl
   | cons x l ih => simp only [aResList, h1, ih]
  simp only [aResults, h2]
 induction ds with
 | nil =>
  intro u s a hs ha h
  cases u with
  | ret =>
   simp only [vLeave] at h
   split at h
   · rename_i v hv
     simp only [ALeave]
     exact ⟨v, by rw [hres ha]; exact hv, s.m, hs, h, rfl⟩
   · exact h.elim
  | pan v => exact ⟨s.m, hs, h, rfl⟩
  | caught => exact h.elim
 | cons d ds ih =>
  intro u s a hs ha h
  obtain ⟨tg, args⟩ := d
  cases tg with
  | collected q =>
   simp only [vLeave] at h
   split at h
   · rename_i hg
     obtain ⟨hi, h⟩ := cond_false' h
     have := ih (u := u) (s := { s with m := s.m.put q .dead }) (a := a) ha h
     simp only [ALeave]
     refine ⟨Mem.get_H hg, ?_⟩
     rw [show ({ s with m := s.m.put q .dead } : St).H = del s.H q by rw [St.mem_H, Mem.put_H hi]; rfl] at this
     exact this
   · exact h.elim
  | fn f cap =>
   cases f with
   | func f =>
    simp only [vLeave] at h
    obtain ⟨h1, h2⟩ := hX.dcall h
    simp only [ALeave]
    refine ⟨h1, fun B0 m w args' u'' hr hv hu n => ?_⟩
    have h3 := h2 B0 m w args' u'' hr hv hu n
    refine ⟨h3.1, fun c cs hmode hroom => ?_⟩
    obtain ⟨e, u2, w2, fr, ⟨v1, v', U, H', mm, ⟨m1, hs1, hk, rfl⟩, rest⟩, more⟩ := h3.2 c cs hmode hroom
    exact ⟨e, u2, w2, fr, ⟨v1, v', U, _, mm, ih (u := aSettle U) (s := { s with m := m1 }) ha hk, rest⟩, more⟩
   | _ => exact h.elim
  | _ => exact h.elim
end
end Go.Ab
