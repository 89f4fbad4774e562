/- closed calls of the law, reckoned. -/
import Derived.Test.YthbeglfmgfaldaaGreatMQ
set_option maxRecDepth 100000
namespace Go.Ab
open Go Go.RowKit Go.Proofs
theorem en16_run : entO Tryz.prog hasTab 1000000 en16 = true := by kernel_rfl
theorem en16_ok : EntOK Tryz.prog en16 := known hasTab_ok en16_run
theorem en19_run : entO Tryz.prog hasTab 1000000 en19 = true := by kernel_rfl
theorem en19_ok : EntOK Tryz.prog en19 := known hasTab_ok en19_run
theorem en22_run : entO Tryz.prog hasTab 1000000 en22 = true := by kernel_rfl
theorem en22_ok : EntOK Tryz.prog en22 := known hasTab_ok en22_run
theorem en25_run : entO Tryz.prog hasTab 1000000 en25 = true := by kernel_rfl
theorem en25_ok : EntOK Tryz.prog en25 := known hasTab_ok en25_run
theorem en28_run : entO Tryz.prog hasTab 1000000 en28 = true := by kernel_rfl
theorem en28_ok : EntOK Tryz.prog en28 := known hasTab_ok en28_run
end Go.Ab

