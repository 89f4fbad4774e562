/- closed calls of the law, reckoned. -/
import Derived.Test.YthbeglfmgfaldaaGreatMQ
set_option maxRecDepth 100000
namespace Go.Ab
open Go Go.RowKit Go.Proofs
theorem en15_run : entO Tryz.prog hasTab 1000000 en15 = true := by kernel_rfl
theorem en15_ok : EntOK Tryz.prog en15 := known hasTab_ok en15_run
theorem en18_run : entO Tryz.prog hasTab 1000000 en18 = true := by kernel_rfl
theorem en18_ok : EntOK Tryz.prog en18 := known hasTab_ok en18_run
theorem en21_run : entO Tryz.prog hasTab 1000000 en21 = true := by kernel_rfl
theorem en21_ok : EntOK Tryz.prog en21 := known hasTab_ok en21_run
theorem en24_run : entO Tryz.prog hasTab 1000000 en24 = true := by kernel_rfl
theorem en24_ok : EntOK Tryz.prog en24 := known hasTab_ok en24_run
theorem en27_run : entO Tryz.prog hasTab 1000000 en27 = true := by kernel_rfl
theorem en27_ok : EntOK Tryz.prog en27 := known hasTab_ok en27_run
theorem en30_run : entO Tryz.prog hasTab 1000000 en30 = true := by kernel_rfl
theorem en30_ok : EntOK Tryz.prog en30 := known hasTab_ok en30_run
end Go.Ab

