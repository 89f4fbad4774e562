/- closed calls of the law, reckoned. -/
import Derived.Test.YtlagokpmmiinkaaGreatUO
set_option maxRecDepth 100000
namespace Go.Ab
open Go Go.RowKit Go.Proofs
theorem en12_run : entO Tryz.prog canTab 1000000 en12 = true := by kernel_rfl
theorem en12_ok : EntOK Tryz.prog en12 := known canTab_ok en12_run
theorem en13_run : entO Tryz.prog canTab 1000000 en13 = true := by kernel_rfl
theorem en13_ok : EntOK Tryz.prog en13 := known canTab_ok en13_run
theorem en14_run : entO Tryz.prog canTab 1000000 en14 = true := by kernel_rfl
theorem en14_ok : EntOK Tryz.prog en14 := known canTab_ok en14_run
theorem en15_run : entO Tryz.prog canTab 1000000 en15 = true := by kernel_rfl
theorem en15_ok : EntOK Tryz.prog en15 := known canTab_ok en15_run
theorem en16_run : entO Tryz.prog canTab 1000000 en16 = true := by kernel_rfl
theorem en16_ok : EntOK Tryz.prog en16 := known canTab_ok en16_run
theorem en17_run : entO Tryz.prog canTab 1000000 en17 = true := by kernel_rfl
theorem en17_ok : EntOK Tryz.prog en17 := known canTab_ok en17_run
theorem en18_run : entO Tryz.prog canTab 1000000 en18 = true := by kernel_rfl
theorem en18_ok : EntOK Tryz.prog en18 := known canTab_ok en18_run
theorem en19_run : entO Tryz.prog canTab 1000000 en19 = true := by kernel_rfl
theorem en19_ok : EntOK Tryz.prog en19 := known canTab_ok en19_run
end Go.Ab
