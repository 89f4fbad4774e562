/- closed calls of the law, reckoned. -/
import Derived.Test.YthbeglfmgfaldaaGreatML
set_option maxRecDepth 100000
namespace Go.Ab
open Go Go.RowKit Go.Proofs
theorem en3_run : entO Tryz.prog ⟨[], [], []⟩ 1000000 en3 = true := by kernel_rfl
theorem en3_ok : EntOK Tryz.prog en3 := known tabs0 en3_run
theorem en7_run : entO Tryz.prog ⟨[], [], []⟩ 1000000 en7 = true := by kernel_rfl
theorem en7_ok : EntOK Tryz.prog en7 := known tabs0 en7_run
theorem en11_run : entO Tryz.prog ⟨[], [], []⟩ 1000000 en11 = true := by kernel_rfl
theorem en11_ok : EntOK Tryz.prog en11 := known tabs0 en11_run
end Go.Ab

