/- package surf: SurfKnown: what is told of known seas, in numbers. -/
import Derived.Test.YtoelpblmhmhglaaDoorNL
import Derived.Test.YtoelpblmhmhglaaDoorND
set_option maxRecDepth 100000
namespace Go.Ab
open Go Go.RowKit Go.Proofs
def fobits (fo : Nat → Bool) : Nat → Nat
 | 0 => 0
 | i + 1 => if fo i = true then fobits fo i ||| 2 ^ i else fobits fo i
def ffst (fo : Nat → Bool) : Nat → Int
 | 0 => -1
 | i + 1 => if fo i = true ∧ ffst fo i < 0 then (i : Int) else ffst fo i
theorem fobits_bit (fo : Nat → Bool) : ∀ n i, (fobits fo n).testBit i = (decide (i < n) && fo i) := by
 intro n
 induction n with
 | zero => intro i; simp [fobits]
 | succ n ih =>
  intro i
  simp only [fobits]
  by_cases e : i = n
  · subst e
    have hlt : (fobits fo i).testBit i = false := by rw [ih]; simp
    split
    · rename_i hp
      rw [Nat.testBit_or, Nat.testBit_two_pow_self, hp, Bool.or_true]
      simp
    · rename_i hp
      rw [hlt]
      simp [hp]
  · have h2 : (2 ^ n).testBit i = false := Nat.testBit_two_pow_of_ne (fun h => e h.symm)
    split
    · rw [Nat.testBit_or, h2, Bool.or_false, ih]
      congr 1
      exact decide_eq_decide.2 (by omega)
    · rw [ih]
      congr 1
      exact decide_eq_decide.2 (by omega)
theorem fobits_lt (fo : Nat → Bool) : ∀ n, fobits fo n < 2 ^ n := by
 intro n
 induction n with
 | zero => exact Nat.one_pos
 | succ n ih =>
  simp only [fobits]
  have h2 : 2 ^ (n + 1) = 2 ^ n * 2 := Nat.pow_succ 2 n
  split
  · exact Nat.or_lt_two_pow (by omega) (by omega)
  · omega
theorem fobits_256 {fo : Nat → Bool} {n : Nat} (h : n ≤ 8) : fobits fo n < 256 := lt_256 (fobits_lt fo n) h
theorem ffst_spec (fo : Nat → Bool) : ∀ n, (ffst fo n = -1 ∧ ∀ i, i < n → fo i = false) ∨ ∃ k : Nat, k < n ∧ ffst fo n = k ∧ fo k = true ∧ ∀ i, i < k → fo i = false := by
 intro n
 induction n with
 | zero => exact .inl ⟨rfl, fun i hi => by omega⟩
 | succ n ih =>
  rcases ih with ⟨h1, h2⟩ | ⟨k, h1, h2, h3, h4⟩
  · cases hf : fo n with
    | true => exact .inr ⟨n, by omega, by simp only [ffst]; rw [if_pos ⟨hf, by omega⟩], hf, h2⟩
    | false =>
     refine .inl ⟨by simp only [ffst]; rw [if_neg (fun h => by rw [hf] at h; cases h.1)]; exact h1, fun i hi => ?_⟩
     by_cases e : i = n
     · subst e; exact hf
     · exact h2 i (by omega)
  · exact .inr ⟨k, by omega, by simp only [ffst]; rw [if_neg (fun h => by omega)]; exact h2, h3, h4⟩
theorem ffst_ge (fo : Nat → Bool) (n : Nat) : -1 ≤ ffst fo n ∧ ffst fo n < n := by
 rcases ffst_spec fo n with ⟨h, _⟩ | ⟨k, h1, h2, _⟩
 · omega
 · omega
theorem ffst_none {fo : Nat → Bool} {n : Nat} (h : fobits fo n = 0) : ffst fo n = -1 := by
 rcases ffst_spec fo n with ⟨h1, _⟩ | ⟨k, h1, h2, h3, _⟩
 · exact h1
 · have := fobits_bit fo n k
   rw [h, h3, decide_eq_true h1] at this
   simp at this
theorem ffst_some {fo : Nat → Bool} {n : Nat} (h8 : n ≤ 8) (h : fobits fo n ≠ 0) : ffst fo n = (tzN (fobits fo n) : Nat) := by
 obtain ⟨t1, t2, t3, t4⟩ := tz_eq (fobits_256 h8) h
 rw [fobits_bit, Bool.and_eq_true] at t2
 have t5 := of_decide_eq_true t2.1
 rcases ffst_spec fo n with ⟨_, h2⟩ | ⟨k, h1, h2, h3, h4⟩
 · rw [h2 _ t5] at t2; cases t2.2
 · have h6 : tzN (fobits fo n) ≤ k := t4 k (by omega) (by rw [fobits_bit, h3, decide_eq_true h1]; rfl)
   have h7 : ¬ tzN (fobits fo n) < k := fun hlt => by rw [h4 _ hlt] at t2; cases t2.2
   rw [h2]; omega
theorem hrS_fob {st : Int} {w v : Nat → Sp} {fl br : Int} {row n : Nat} {p : Out → Bool} {fo : Nat → Bool} (h : ∀ i, i < n → p (ofO st w v fl br i (crs st w v fl br row i)) = fo i) : ∀ i, i ≤ n → hrS st w v fl br p row i = fobits fo i := by
 intro i
 induction i with
 | zero => intro _; rfl
 | succ i ih =>
  intro hi
  simp only [hrS, fobits]
  rw [ih (by omega), h i (by omega)]
section
variable {st : Int} {n : Nat} {w v : Nat → Sp} {wt vt : Nat → Int} {x : Hut}
theorem perH_pt (hr : x.row < 6) : perH st (ptS wt) (ptS vt) n x = fobits (foF st x wt vt) n :=
 hrS_fob (n := n) (fun i hi => show selP 70 _ = _ from (flo_known (st := st) (fl := x.fl) (br := x.br) (wt := wt) (vt := vt) (n := n) hr hi).1) n (Nat.le_refl n)
theorem surH_pt (hr : x.row < 6) : surH st (ptS wt) (ptS vt) n x = fobits (foF st x wt vt) n :=
 hrS_fob (n := n) (fun i hi => by
  show (!(ofO st (ptS wt) (ptS vt) x.fl x.br i (crs st (ptS wt) (ptS vt) x.fl x.br x.row i)).re) = foF st x wt vt i
  rw [(flo_known (st := st) (fl := x.fl) (br := x.br) (wt := wt) (vt := vt) (n := n) hr hi).2, Bool.not_not]; rfl) n (Nat.le_refl n)
theorem crH_pt (hr : x.row < 6) {i : Nat} (hi : i ≤ n) : crH st (ptS wt) (ptS vt) x i = 2 ^ rowN (rowF st x.fl x.br x.row wt vt i) := crs_known (n := n) hr i hi
theorem sur_sub_fob (hr : x.row < 6) (hn : n ≤ 8) (ht : TrOK w v n wt vt) (i : Nat) (h : (surH st w v n x).testBit i = true) : (fobits (foF st x wt vt) n).testBit i = true := by
 rw [fobits_bit]
 by_cases hi : i < n
 · cases hf : foF st x wt vt i with
   | true => rw [decide_eq_true hi]; rfl
   | false => rw [surH_not hr hn ht hi hf] at h; cases h
 · rw [surH_bit hn, decide_eq_false hi] at h; cases h
theorem fob_sub_per (hr : x.row < 6) (hn : n ≤ 8) (ht : TrOK w v n wt vt) (i : Nat) (h : (fobits (foF st x wt vt) n).testBit i = true) : (perH st w v n x).testBit i = true := by
 rw [fobits_bit, Bool.and_eq_true] at h
 exact perH_has hr hn ht (of_decide_eq_true h.1) h.2
end
theorem SOK_pt {rw st : Int} {n : Nat} {w v : Nat → Sp} {wt vt : Nat → Int} (hS : SOK rw st n w v) (ht : TrOK w v n wt vt) : SOK rw st n (ptS wt) (ptS vt) := by
 refine ⟨hS.rw1, hS.rw6, hS.st0, hS.st4, hS.n8, fun i hi => ?_, fun i hi => ?_⟩
 · obtain ⟨w0, w1, w2, w3⟩ := hS.w i hi
   obtain ⟨t1, t2, t3, t4⟩ := ht i hi
   show 0 ≤ wt i ∧ wt i ≤ wt i ∧ wt i ≤ 30 ∧ wt i - wt i ≤ 3
   omega
 · obtain ⟨v0, v1, v2, v3⟩ := hS.v i hi
   obtain ⟨t1, t2, t3, t4⟩ := ht i hi
   show 0 ≤ vt i ∧ vt i ≤ vt i ∧ vt i ≤ 10 ∧ vt i - vt i ≤ 3
   omega
end Go.Ab
