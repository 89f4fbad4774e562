/- closed calls of the law, reckoned. -/
import Derived.Test.YthbeglfmgfaldaaGreatML
set_option maxRecDepth 100000
namespace Go.Ab
open Go Go.RowKit Go.Proofs
theorem en2_run : entO Tryz.prog ⟨[], [], []⟩ 1000000 en2 = true := by kernel_rfl
theorem en2_ok : EntOK Tryz.prog en2 := known tabs0 en2_run
theorem en6_run : entO Tryz.prog ⟨[], [], []⟩ 1000000 en6 = true := by kernel_rfl
theorem en6_ok : EntOK Tryz.prog en6 := known tabs0 en6_run
theorem en10_run : entO Tryz.prog ⟨[], [], []⟩ 1000000 en10 = true := by kernel_rfl
theorem en10_ok : EntOK Tryz.prog en10 := known tabs0 en10_run
end Go.Ab

