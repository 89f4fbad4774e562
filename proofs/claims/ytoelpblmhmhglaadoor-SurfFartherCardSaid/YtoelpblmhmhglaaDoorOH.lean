/- ABSTRACT MEMORY, 25: closed runs, reckoned: the reckoner is right. -/
import Derived.Test.YtoelpblmhmhglaaDoorOG
namespace Go.Ab
open Go Go.RowKit
variable [TT] [PR]
section
variable {P : Program} {N : Nat} {X : Ex} {ro : Option Nat} {s s' : St} {dst : Option Tmp}
theorem roundsIn_lift {F : Fence} {n : Nat} {c : Code} {B0 : Prot} {m0 m : NMap} {H0 H : AHeap} {w0 w1 : World} {Q : AExit → AAct → AHeap → Prop} (hm : Ext m0 H0 m H) (hB : Keep B0 w0 w1) {k : Nat} : ∀ {a : Act} {w : World}, Code.roundsIn F n P c (LiftQ P B0 m H w1 Q) k a w → Code.roundsIn F n P c (LiftQ P B0 m0 H0 w0 Q) k a w := by
 have _ := PR.prog
 induction k with
 | zero => intro a w h; exact h.elim
 | succ k ih =>
  intro a w h
  rw [roundsIn_succ] at h ⊢
  refine wpIn_mono h fun e a1 w1 he => ?_
  cases e <;> first | exact ih he | exact LiftQ.trans hm hB he
theorem xSOps_sound {e : AExit} {u' : AMode} {ops : Array Oper} : ∀ (l : List Nat) {u : AMode} {s : St}, (∀ i ∈ l, i < ops.size) → xSOps P (l.filterMap (ops[·]?)) u s = some (e, u', s') → ASOps P ops (fun x v a H => x = e ∧ v = u' ∧ a = s'.a ∧ H = s'.H) l u s.a s.H := by
 intro l
 induction l with
 | nil => intro u s _ h; cases h; exact ⟨rfl, rfl, rfl, rfl⟩
 | cons i l ih =>
  intro u s hlt h
  have hi := hlt i (by simp)
  have ho : ops[i]? = some ops[i] := by simp [hi]
  rw [List.filterMap_cons, ho] at h
  simp only [xSOps] at h
  simp only [ASOps, ho]
  split at h
  · rename_i hg
    obtain ⟨hd, h⟩ := cond_none h
    refine ⟨hg, ?_⟩
    have ih' := fun {u : AMode} {s : St} => ih (u := u) (s := s) fun j hj => hlt j (by simp [hj])
    split
    · rename_i args ats hop
      rw [hop] at h
      simp only [isRecover, cond_true] at h
      cases u with
      | pan v =>
       show ASOps P ops (fun x v a H => x = e ∧ v = u' ∧ a = s'.a ∧ H = s'.H) l .caught (s.a.put ops[i].dst v) s.H
       rw [← St.put_a hd, ← St.put_H (s := s) (dst := ops[i].dst) (v := v)]
       exact ih' h
      | ret =>
       show ASOps P ops (fun x v a H => x = e ∧ v = u' ∧ a = s'.a ∧ H = s'.H) l .ret (s.a.put ops[i].dst .nilIface) s.H
       rw [← St.put_a hd, ← St.put_H (s := s) (dst := ops[i].dst) (v := .nilIface)]
       exact ih' h
      | caught =>
       show ASOps P ops (fun x v a H => x = e ∧ v = u' ∧ a = s'.a ∧ H = s'.H) l .caught (s.a.put ops[i].dst .nilIface) s.H
       rw [← St.put_a hd, ← St.put_H (s := s) (dst := ops[i].dst) (v := .nilIface)]
       exact ih' h
    · rename_i hop
      have hnr : isRecover ops[i].op = false := by
       cases hc : isRecover ops[i].op with
       | false => rfl
       | true =>
        unfold isRecover at hc
        split at hc
        · rename_i e1; exact absurd e1 (hop _ _)
        · cases hc
      rw [hnr] at h
      obtain ⟨v, hv, h⟩ := bind_some_iff (show (aPure P (s.a.eval P) s.H ops[i].op).bind _ = some (e, u', s') from h)
      refine ⟨v, hv, ?_⟩
      show ASOps P ops (fun x v a H => x = e ∧ v = u' ∧ a = s'.a ∧ H = s'.H) l u (s.a.put ops[i].dst v) s.H
      rw [← St.put_a hd, ← St.put_H (s := s) (dst := ops[i].dst) (v := v)]
      exact ih' h
  · cases h
theorem range_filterMap {α : Type} (l : List α) : (List.range l.length).filterMap (l[·]?) = l := by
 have _ := TT.tt
 have _ := PR.prog
 induction l with
 | nil => rfl
 | cons x l ih =>
  rw [List.length_cons, List.range_succ_eq_map, List.filterMap_cons]
  simp only [List.getElem?_cons_zero, List.filterMap_map]
  congr 1
end
end Go.Ab
