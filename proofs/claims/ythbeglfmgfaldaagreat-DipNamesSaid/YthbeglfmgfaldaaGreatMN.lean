/- closed calls of the law, reckoned. -/
import Derived.Test.YthbeglfmgfaldaaGreatML
set_option maxRecDepth 100000
namespace Go.Ab
open Go Go.RowKit Go.Proofs
theorem en1_run : entO Tryz.prog ⟨[], [], []⟩ 1000000 en1 = true := by kernel_rfl
theorem en1_ok : EntOK Tryz.prog en1 := known tabs0 en1_run
theorem en5_run : entO Tryz.prog ⟨[], [], []⟩ 1000000 en5 = true := by kernel_rfl
theorem en5_ok : EntOK Tryz.prog en5 := known tabs0 en5_run
theorem en9_run : entO Tryz.prog ⟨[], [], []⟩ 1000000 en9 = true := by kernel_rfl
theorem en9_ok : EntOK Tryz.prog en9 := known tabs0 en9_run
theorem en13_run : entO Tryz.prog ⟨[], [], []⟩ 1000000 en13 = true := by kernel_rfl
theorem en13_ok : EntOK Tryz.prog en13 := known tabs0 en13_run
end Go.Ab

