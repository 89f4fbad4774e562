/- package surf: SurfKnown: what is told of known seas, in numbers. -/
import Derived.Test.YtoelpblmhmhglaaDoorFJ
import Derived.Test.YtoelpblmhmhglaaDoorFD
set_option maxRecDepth 100000
namespace Go.Ab
open Go Go.RowKit Go.Proofs
def fobits (fo : Nat → Bool) : Nat → Nat
 | 0 => 0
 | i + 1 => if fo i = true then fobits fo i ||| 2 ^ i else fobits fo i
def ffst (fo : Nat → Bool) : Nat → Int
 | 0 => -1
 | i + 1 => if fo i = true ∧ ffst fo i < 0 then (i : Int) else ffst fo i
theorem fobits_bit (fo : Nat → Bool) : ∀ n i, (fobits fo n).testBit i = (decide (i < n) && fo i) := by
 intro n
 induction n with
 | zero => intro i; simp [fobits]
 | succ n ih =>
  intro i
  simp only [fobits]
  by_cases e : i = n
  · subst e
    have hlt : (fobits fo i).testBit i = false := by rw [ih]; simp
    split
    · rename_i hp
      rw [Nat.testBit_or, Nat.testBit_two_pow_self, hp, Bool.or_true]
      simp
    · rename_i hp
      rw [hlt]
      simp [hp]
  · have h2 : (2 ^ n).testBit i = false := Nat.testBit_two_pow_of_ne (fun h => e h.symm)
    split
    · rw [Nat.testBit_or, h2, Bool.or_false, ih]
      congr 1
      exact decide_eq_decide.2 (by omega)
    · rw [ih]
      congr 1
      exact decide_eq_decide.2 (by omega)
theorem fobits_lt (fo : Nat → Bool) : ∀ n, fobits fo n < 2 ^ n := by
 intro n
 induction n with
 | zero => exact Nat.one_pos
 | succ n ih =>
  simp only [fobits]
  have h2 : 2 ^ (n + 1) = 2 ^ n * 2 := Nat.pow_succ 2 n
  split
  · exact Nat.or_lt_two_pow (by omega) (by omega)
  · omega
end Go.Ab
