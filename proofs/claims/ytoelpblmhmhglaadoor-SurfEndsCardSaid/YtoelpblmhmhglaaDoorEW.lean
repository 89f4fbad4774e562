/- where a hut truly goes, by the words of the chapter. -/
import Derived.Test.YtoelpblmhmhglaaDoorEO
import Derived.Test.YtoelpblmhmhglaaDoorEV
set_option maxRecDepth 100000
namespace Go.Ab
open Go Go.RowKit Go.Proofs
theorem boolsL_at (n : Nat) (b : Nat → Bool) : ∀ v ∈ boolsL n b, atomic v = true := flatC_atomic fun i _ v hv => by
 simp only [List.mem_cons, List.not_mem_nil, or_false] at hv
 subst hv
 rfl
theorem boolsL_len (n : Nat) (b : Nat → Bool) : (boolsL n b).length = n * 1 := flatC_len fun i _ => rfl
theorem take_ints (n : Nat) (o : Nat → Int) : List.take (n * 1) (ints n o) = ints n o := by rw [← ints_len n o, List.take_length]
theorem take_bools (n : Nat) (b : Nat → Bool) : List.take (n * 1) (boolsL n b) = boolsL n b := by rw [← boolsL_len n b, List.take_length]
end Go.Ab
