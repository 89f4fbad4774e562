/- the law HorseProof: what its runs need. -/
import Derived.Test.YtamfplmmfbbabaaVL
import Derived.Test.YtamfplmmfbbabaaVO
set_option maxRecDepth 100000
namespace Go.Ab
open Go Go.RowKit Go.Proofs
noncomputable def planC (sure : Bool) (p : Int) (n : Nat) (f : Nat → Mv) : List Value := ints n fun i => ((planF (ordF sure p n f n) n (fewH sure p n f)).2.P i : Int)
theorem C24c_ok {p : Int} {n c : Nat} {f : Nat → Mv} (sure : Bool) (hok : okH p n f = true) (hn : n ≤ 7) (h0 : 0 < n) : ConNOK Try.prog 24 (C24c sure p n c (mvs n f) (fewH sure p n f) (planC sure p n f)) := C24_ok sure hok hn h0
end Go.Ab
set_option maxRecDepth 100000
namespace Go.Ab
open Go Go.RowKit Go.Proofs
section
variable {p : Int} {n c k d : Nat} {f : Nat → Mv} {bs : Nat → Int} {many found : Nat} {P : Nat → Nat}
theorem bitI {found i : Nat} (hf : found < 128) : (bits BinOp.and IntKind.i64 ((found : Int) / (2 : Int) ^ i) (1 : Int) == (1 : Int)) = found.testBit i := by
  have h := nb_eq (own := found) (i := i) (by omega)
  simp only [nb] at h
  have e : (1 : Int) = ((1 : Nat) : Int) := rfl
  have e2 : ((found : Int) / (2 : Int) ^ i) = ((found / 2 ^ i : Nat) : Int) := by simp
  have h3 : found / 2 ^ i ≤ found := Nat.div_le_self _ _
  rw [e2, e, and_nat _ 1 (by omega) (by omega)]
  rw [Nat.and_one_is_mod]
  simp only [Nat.testBit, Nat.shiftRight_eq_div_pow, Nat.one_and_eq_mod_two]
  have : found / 2 ^ i % 2 = 0 ∨ found / 2 ^ i % 2 = 1 := by omega
  rcases this with h0 | h0 <;> rw [h0] <;> rfl
end
end Go.Ab
