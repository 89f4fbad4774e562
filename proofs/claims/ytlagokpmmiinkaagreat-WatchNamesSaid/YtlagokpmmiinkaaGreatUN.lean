/- closed calls of the law, reckoned. -/
import Derived.Test.YtlagokpmmiinkaaGreatUL
set_option maxRecDepth 100000
namespace Go.Ab
open Go Go.RowKit Go.Proofs
theorem en5_run : entO Tryz.prog ⟨[], [], []⟩ 1000000 en5 = true := by kernel_rfl
theorem en5_ok : EntOK Tryz.prog en5 := known tabs0 en5_run
end Go.Ab
