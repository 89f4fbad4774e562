/- ABSTRACT MEMORY, 23: closed runs, reckoned: regions that draw; how functions are left; rounds. -/
import Derived.Test.YtoelpblmhmhglaaDoorOE
namespace Go.Ab
open Go Go.RowKit
variable [TT] [PR]
section
variable {P : Program} {N : Nat} {X : Ex} {ro : Option Nat} {s s' : St} {dst : Option Tmp}
theorem beqB_eq {b b' : ABlk} (h : beqB b b' = true) : b = b' := by
 have _ := TT.tt
 have _ := PR.prog
 unfold beqB at h
 split at h
 · simp only [Bool.and_eq_true] at h
   rw [(veqN_eq 1000).2 _ _ h.1.1, Nat.eq_of_beq_eq_true h.1.2]
   have := h.2
   unfold kEq at this
   split at this <;> first | rfl | cases this
 · rfl
 · cases h
theorem againT_of {ops : Array Oper} {y : Nat} {a : AAct} {H : AHeap} {D : List Nat} (h : ∀ i ∈ againLT ops y D, match ops[i]? with
      | some o => match o.dst with
       | some d => aWanted ops a o = some true → (isFloat o.op = true → aPure P (a.eval P) H o.op = a.f d) ∧ (isMk o.op = true → ∃ b mk z, aAlloc P (a.eval P) o.op = some (b, mk) ∧ a.f d = some (mk z) ∧ H z = some b)
       | none => False
      | none => False) : AgainT P ops y a H D := by
 have _ := TT.tt
 have _ := PR.prog
 induction D with
 | nil => trivial
 | cons x D ih =>
  refine ⟨fun h1 h2 => h x ?_, ih fun i hi => h i ?_⟩
  · simp only [againLT, List.mem_filter, List.mem_cons, true_or, true_and, h1, h2, Bool.not_false, Bool.and_self]
  · simp only [againLT, List.mem_filter, List.mem_cons] at hi ⊢
    exact ⟨.inr hi.1, hi.2⟩
theorem xAgain_sound {ops : Array Oper} {y : Nat} {D : List Nat} (h : xAgain P ops y D s = true) : AgainT P ops y s.a s.H D := by
 refine againT_of fun i hi => ?_
 have h1 := (List.all_eq_true.1 h) i hi
 split at h1
 · rename_i o ho
   split at h1
   · rename_i d hd
     rw [ho]
     simp only [hd]
     intro hw
     rw [hw] at h1
     simp only at h1
     unfold xAgain1 at h1
     refine ⟨fun hf => ?_, fun hm => ?_⟩
     · rw [hf] at h1
       simp only [cond_true] at h1
       split at h1
       · rename_i u v hu hv
         rw [hu, hv, veq_eq h1]
       · cases h1
     · have hf : isFloat o.op = false := by
        cases hfl : isFloat o.op with
        | false => rfl
        | true => rw [float_mk hfl] at hm; cases hm
       rw [hf] at h1
       simp only [cond_false] at h1
       split at h1
       · rename_i b mk v ha hv
         split at h1
         · rename_i z hz
           simp only [Bool.and_eq_true] at h1
           obtain ⟨h2, h3⟩ := h1
           split at h3
           · rename_i b' hb'
             exact ⟨b, mk, z, ha, by rw [hv, veq_eq h2], by rw [hb', beqB_eq h3]⟩
           · cases h3
         · cases h1
       · cases h1
   · cases h1
 · cases h1
theorem tF_sans (l : List Oper) : ∀ {t : Tr (Option Value)}, (l.all fun o => slotOK o.dst) = true → tF (xSans l t) = fun x => if l.any (fun o => o.dst == some x) then none else tF t x := by
 have _ := TT.tt
 induction l with
 | nil => intro t _; funext x; simp [xSans]
 | cons o l ih =>
  intro t h
  simp only [List.all_cons, Bool.and_eq_true] at h
  simp only [xSans]
  cases hd : o.dst with
  | none =>
   simp only
   rw [ih h.2]
   funext x
   simp [hd]
  | some d =>
   simp only
   rw [hd] at h
   rw [ih h.2]
   funext x
   rw [tF_set (show Nat.ble d 1000000000 = true from h.1)]
   simp only [List.any_cons, hd]
   by_cases e : x = d
   · subst e; simp
   · have e' : (some d == some x) = false := by simp; exact Ne.symm e
     simp [e, e']
theorem sans_eq {ops : Array Oper} (h : (ops.toList.all fun o => slotOK o.dst) = true) : (sans ops s.a).f = tF (xSans ops.toList s.t) := by
 rw [tF_sans _ h]
 funext x
 simp only [sans]
 have e : ((List.range ops.size).any fun i => dstOf ops i == some x) = ops.toList.any fun o => o.dst == some x := by
  rw [Bool.eq_iff_iff, List.any_eq_true, List.any_eq_true]
  constructor
  · rintro ⟨i, hi, h⟩
    have hi' : i < ops.size := by simpa using hi
    refine ⟨ops[i], by simp, ?_⟩
    simpa [dstOf, hi'] using h
  · rintro ⟨o, ho, h⟩
    obtain ⟨i, hi, e⟩ := List.getElem_of_mem ho
    refine ⟨i, by simpa using hi, ?_⟩
    have hi' : i < ops.size := by simpa using hi
    have : ops[i]? = some o := by rw [← e]; simp
    simpa [dstOf, this] using h
 rw [e]
 rfl
end
end Go.Ab
