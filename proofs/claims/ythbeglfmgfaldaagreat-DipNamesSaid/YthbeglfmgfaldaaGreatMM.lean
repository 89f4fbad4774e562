/- closed calls of the law, reckoned. -/
import Derived.Test.YthbeglfmgfaldaaGreatML
set_option maxRecDepth 100000
namespace Go.Ab
open Go Go.RowKit Go.Proofs
theorem en0_run : entO Tryz.prog ⟨[], [], []⟩ 1000000 en0 = true := by kernel_rfl
theorem en0_ok : EntOK Tryz.prog en0 := known tabs0 en0_run
theorem en4_run : entO Tryz.prog ⟨[], [], []⟩ 1000000 en4 = true := by kernel_rfl
theorem en4_ok : EntOK Tryz.prog en4 := known tabs0 en4_run
theorem en8_run : entO Tryz.prog ⟨[], [], []⟩ 1000000 en8 = true := by kernel_rfl
theorem en8_ok : EntOK Tryz.prog en8 := known tabs0 en8_run
theorem en12_run : entO Tryz.prog ⟨[], [], []⟩ 1000000 en12 = true := by kernel_rfl
theorem en12_ok : EntOK Tryz.prog en12 := known tabs0 en12_run
end Go.Ab

