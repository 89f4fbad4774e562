/- closed calls of the law, reckoned. -/
import Derived.Test.YtopfgjchjjfdkaaML
set_option maxRecDepth 100000
namespace Go.Ab
open Go Go.RowKit Go.Proofs
theorem en35_run : entO Try.prog ⟨[], [], []⟩ 1000000 en35 = true := by kernel_rfl
theorem en35_ok : EntOK Try.prog en35 := known tabs0 en35_run
theorem en36_run : entO Try.prog ⟨[], [], []⟩ 1000000 en36 = true := by kernel_rfl
theorem en36_ok : EntOK Try.prog en36 := known tabs0 en36_run
end Go.Ab

