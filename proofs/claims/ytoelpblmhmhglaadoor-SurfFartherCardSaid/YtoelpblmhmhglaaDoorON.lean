/- ABSTRACT MEMORY, 50: loops by what a round comes to. -/
import Derived.Test.YtoelpblmhmhglaaDoorOM
namespace Go.Ab
open Go Go.RowKit
noncomputable def leafW (Ts : List Tw) (R : Nat → AExit → Hw → Prop) (e : AExit) (s : St) (hs : HS) : Prop :=
 match tick hs with
 | (some (.tm i π), _) => match Ts[i]? with
  | some T => match T.ext π s with
   | some x => R i e x
   | none => False
  | none => False
 | _ => False
def findT (i : Nat) : List (Nat × TL) → Option TL
 | [] => none
 | x :: l => cond (Nat.beq x.1 i) (some x.2) (findT i l)
def mkS (n : Nat) (l : List (Nat × TL)) : List (Option TL) := (List.range n).map fun i => findT i l
def retK (R : ARes → Prop) : ARes → Mem → HS → Prop := fun r _ _ => R r
def flatC (n : Nat) (f : Nat → List Value) : List Value := (List.range n).flatMap f
variable [TT] [PR]
section
variable {P : Program} {ro : Option Nat} {N : Nat} {V : Vx}
theorem leafW_sound {Ts : List Tw} {k : Nat} (hk : ∀ T ∈ Ts, T.k = k) (hg : P.globals.size ≤ k) {R : Nat → AExit → Hw → Prop} (hR : ∀ i e x, R i e x → ClW x ∧ exitOK e) {e : AExit} {a : AAct} {H : AHeap} (h : QQ (leafW Ts R) e a H) :
    NfQ P k (fun e s' => ∃ i T x, Ts[i]? = some T ∧ s' = T.inst x ∧ R i e x) e a H := by
 obtain ⟨s, hs, h, rfl, rfl⟩ := h
 unfold leafW at h
 split at h
 · rename_i i π _ _
   split at h
   · rename_i T hT
     split at h
     · rename_i x hx
       have hTk := hk T (List.mem_of_getElem? hT)
       have hnf := Tw.ext_sound (P := P) hx (hR _ _ _ h).1 (by rw [hTk]; exact hg)
       rw [hTk] at hnf
       exact ⟨s, _, rfl, rfl, hnf, (hR _ _ _ h).2, i, T, x, hT, rfl, h⟩
     · exact h.elim
   · exact h.elim
 · exact h.elim
def RoundW {X : Type} (inv : X → Prop) (μ : X → Nat) (st : X → Nat × Hw) (out : X → AExit × Nat × Hw) (x : X) (i : Nat) (e : AExit) (h : Hw) : Prop :=
 (ClW h ∧ exitOK e) ∧ ((e = .normal ∧ ∃ y, inv y ∧ μ y < μ x ∧ st y = (i, h) ∧ out y = out x) ∨ (e ≠ .normal ∧ out x = (e, i, h)))
theorem loop_vcW (htt : TT.tt = true) (hV : VSound P N V) {p : Loc} {Ts : List Tw} {k : Nat} (hk : ∀ T ∈ Ts, T.k = k) (hg : P.globals.size ≤ k) {X : Type} {inv : X → Prop} {μ : X → Nat} {st : X → Nat × Hw} {out : X → AExit × Nat × Hw}
    (round : ∀ x, inv x → ∃ T hs, Ts[(st x).1]? = some T ∧ V.code ro (.l p) (leafW Ts (RoundW inv μ st out x)) (T.inst (st x).2) hs)
    {x : X} (hx : inv x) {T0 T1 : Tw} (h0 : Ts[(st x).1]? = some T0) (h0k : T0.blocks.length ≤ k) (hs0 : k ≤ 1000000) (h1 : Ts[(out x).2.1]? = some T1) : LoopOW P ro p T0 (st x).2 (out x).1 T1 (out x).2.2 := by
 have round' : ∀ x, inv x → AWp P ro (codeGet (.l p)) (NfQ P k fun e s' => (e = .normal ∧ ∃ y, inv y ∧ μ y < μ x ∧ s' = (((Ts[(st y).1]?).getD T0).inst (st y).2) ∧ ∀ e s, (∃ T, Ts[(out y).2.1]? = some T ∧ e = (out y).1 ∧ s = T.inst (out y).2.2) → (∃ T, Ts[(out x).2.1]? = some T ∧ e = (out x).1 ∧ s = T.inst (out x).2.2)) ∨
     (e ≠ .normal ∧ ∃ T, Ts[(out x).2.1]? = some T ∧ e = (out x).1 ∧ s' = T.inst (out x).2.2)) (((Ts[(st x).1]?).getD T0).inst (st x).2).a (((Ts[(st x).1]?).getD T0).inst (st x).2).H := by
  intro x hx
  obtain ⟨T, hs, hT, hc⟩ := round x hx
  rw [hT, Option.getD_some]
  refine (hV.code hc).mono fun e a H hq => ?_
  obtain ⟨s, s', q1, q2, q3, q4, i, T', x', hT', rfl, hr⟩ := leafW_sound hk hg (fun _ _ _ h => h.1) hq
  refine ⟨s, _, q1, q2, q3, q4, ?_⟩
  rcases hr.2 with ⟨rfl, y, hy, hlt, hst, ho⟩ | ⟨hne, ho⟩
  · refine .inl ⟨rfl, y, hy, hlt, ?_, fun e s h => ?_⟩
    · rw [hst]; simp only [hT', Option.getD_some]
    · rw [← ho]; exact h
  · refine .inr ⟨hne, T', ?_, ?_, ?_⟩ <;> rw [ho]
    exact hT'
 unfold LoopOW
 have h := AWp_nfloop (k := k) (sh := fun x => ((Ts[(st x).1]?).getD T0).inst (st x).2) (Q := fun x e s => ∃ T, Ts[(out x).2.1]? = some T ∧ e = (out x).1 ∧ s = T.inst (out x).2.2) htt round' hx (fun j hj => by
  simp only [h0, Option.getD_some]
  rw [Tw.inst_H (by omega), List.getElem?_eq_none (by rw [instW_len]; omega)]
  rfl)
 simp only [h0, Option.getD_some] at h
 refine h.mono ?_
 rintro e a H ⟨s', ⟨T, hT, rfl, rfl⟩, rfl, rfl⟩
 rw [h1] at hT
 cases hT
 exact ⟨rfl, rfl, rfl⟩
end
end Go.Ab
