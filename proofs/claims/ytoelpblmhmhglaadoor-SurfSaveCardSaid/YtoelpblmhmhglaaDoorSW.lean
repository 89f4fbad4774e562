/- where a hut truly goes, by the words of the chapter. -/
import Derived.Test.YtoelpblmhmhglaaDoorSO
import Derived.Test.YtoelpblmhmhglaaDoorSV
set_option maxRecDepth 100000
namespace Go.Ab
open Go Go.RowKit Go.Proofs
theorem take_ints (n : Nat) (o : Nat → Int) : List.take (n * 1) (ints n o) = ints n o := by rw [← ints_len n o, List.take_length]
end Go.Ab
