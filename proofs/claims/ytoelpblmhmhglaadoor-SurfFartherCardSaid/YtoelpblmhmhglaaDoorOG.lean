/- ABSTRACT MEMORY, 24: closed runs, reckoned: code, calls, rounds; the reckoner is right. -/
import Derived.Test.YtoelpblmhmhglaaDoorOF
namespace Go.Ab
open Go Go.RowKit
variable [TT] [PR]
section
variable {P : Program} {N : Nat} {X : Ex} {ro : Option Nat} {s s' : St} {dst : Option Tmp}
theorem xFill_get (l : List Value) : ∀ {k : Nat} {t : Tr (Option Value)}, k + l.length ≤ 1000000000 → ∀ x, tF (xFill l k t) x = if k ≤ x ∧ x < k + l.length then l[x - k]? else tF t x := by
 have _ := TT.tt
 induction l with
 | nil =>
  intro k t _ x
  simp only [xFill, List.length_nil, Nat.add_zero]
  rw [if_neg (by omega)]
 | cons v l ih =>
  intro k t h x
  simp only [List.length_cons] at h ⊢
  simp only [xFill]
  rw [ih (by omega)]
  have hb : Nat.ble k 1000000000 = true := Nat.ble_eq_true_of_le (by omega)
  by_cases h1 : Nat.succ k ≤ x ∧ x < Nat.succ k + l.length
  · rw [if_pos h1, if_pos (by omega)]
    have e : x - k = (x - Nat.succ k) + 1 := by omega
    rw [e, List.getElem?_cons_succ]
  · rw [if_neg h1, tF_set hb]
    simp only
    by_cases e : x = k
    · subst e
      rw [if_pos rfl, if_pos (by omega)]
      simp
    · rw [if_neg e, if_neg (by omega)]
theorem entry_eq {args : List Value} {n : Nat} {m : Mem} (h : Nat.ble args.length 1000000 = true) : (⟨args.length + (n - args.length), xFill args 0 .nil, [], m⟩ : St).a = aEntry args n := by
 have hl := Nat.le_of_ble_eq_true h
 unfold aEntry St.a
 simp only
 congr 1
 funext x
 rw [xFill_get args (by omega)]
 by_cases hx : x < args.length
 · rw [if_pos (by omega), if_pos hx]; rfl
 · rw [if_neg (by omega), if_neg hx]; rfl
theorem top_body (hP : P = PR.prog) {f : FuncId} {fn : Func} {c : Code} (hf : P.funcs[f]? = some fn) (hb : fn.body = some c) : codeGet (.top f) = c := by
 have _ := TT.tt
 subst hP
 show bodyOf PR.prog f = c
 simp [bodyOf, hf, hb]
theorem xSetPs_eq (n : Nat) (l : List (Tmp × Value)) : ∀ {t : Tr (Option Value)}, ((l.map (·.1)).all fun d => Nat.ble d 1000000000) = true → setPs ⟨n, tF t⟩ l = ⟨n, tF (xSetPs n t l)⟩ := by
 have _ := TT.tt
 induction l with
 | nil => intro t _; rfl
 | cons x l ih =>
  intro t h
  obtain ⟨d, v⟩ := x
  simp only [List.map_cons, List.all_cons, Bool.and_eq_true] at h
  simp only [setPs, xSetPs]
  rw [← ih h.2, tF_set h.1, ble_cond]
theorem ACallF_mono {fv : Value} {vs : List Value} {H : AHeap} {R R' : ARes → AHeap → Prop} (hr : ∀ r H', R r H' → R' r H') (h : ACallF P fv vs H R) : ACallF P fv vs H R' := by
 have _ := PR.prog
 unfold ACallF at h
 split at h
 · exact ⟨h.1, h.2.mono hr⟩
 · split at h
   · rename_i e
     simp only [ACallF, e]
     obtain ⟨u, h1, h2, h3⟩ := h
     exact ⟨u, h1, h2, h3.mono hr⟩
   · exact h.elim
 · exact h.elim
theorem free_le {m : Mem} (h : m.free = true) : Nat.ble m.nx 1000000000 = true := by
 have _ := TT.tt
 have _ := PR.prog
 unfold Mem.free at h
 cases hg : m.h.get m.nx with
 | some x => rw [hg] at h; cases h
 | none => rw [hg] at h; exact h
end
end Go.Ab
