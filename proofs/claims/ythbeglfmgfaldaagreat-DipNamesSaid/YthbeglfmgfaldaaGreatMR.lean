/- closed calls of the law, reckoned. -/
import Derived.Test.YthbeglfmgfaldaaGreatMQ
set_option maxRecDepth 100000
namespace Go.Ab
open Go Go.RowKit Go.Proofs
theorem en14_run : entO Tryz.prog hasTab 1000000 en14 = true := by kernel_rfl
theorem en14_ok : EntOK Tryz.prog en14 := known hasTab_ok en14_run
theorem en17_run : entO Tryz.prog hasTab 1000000 en17 = true := by kernel_rfl
theorem en17_ok : EntOK Tryz.prog en17 := known hasTab_ok en17_run
theorem en20_run : entO Tryz.prog hasTab 1000000 en20 = true := by kernel_rfl
theorem en20_ok : EntOK Tryz.prog en20 := known hasTab_ok en20_run
theorem en23_run : entO Tryz.prog hasTab 1000000 en23 = true := by kernel_rfl
theorem en23_ok : EntOK Tryz.prog en23 := known hasTab_ok en23_run
theorem en26_run : entO Tryz.prog hasTab 1000000 en26 = true := by kernel_rfl
theorem en26_ok : EntOK Tryz.prog en26 := known hasTab_ok en26_run
theorem en29_run : entO Tryz.prog hasTab 1000000 en29 = true := by kernel_rfl
theorem en29_ok : EntOK Tryz.prog en29 := known hasTab_ok en29_run
end Go.Ab

