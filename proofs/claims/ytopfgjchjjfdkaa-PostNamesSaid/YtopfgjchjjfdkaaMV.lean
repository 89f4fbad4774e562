/- closed calls of the law, reckoned. -/
import Derived.Test.YtopfgjchjjfdkaaMU
set_option maxRecDepth 100000
namespace Go.Ab
open Go Go.RowKit Go.Proofs
theorem en37_run : entO Try.prog canTab 1000000 en37 = true := by kernel_rfl
theorem en37_ok : EntOK Try.prog en37 := known canTab_ok en37_run
theorem en38_run : entO Try.prog canTab 1000000 en38 = true := by kernel_rfl
theorem en38_ok : EntOK Try.prog en38 := known canTab_ok en38_run
theorem en39_run : entO Try.prog canTab 1000000 en39 = true := by kernel_rfl
theorem en39_ok : EntOK Try.prog en39 := known canTab_ok en39_run
theorem en40_run : entO Try.prog canTab 1000000 en40 = true := by kernel_rfl
theorem en40_ok : EntOK Try.prog en40 := known canTab_ok en40_run
theorem en41_run : entO Try.prog canTab 1000000 en41 = true := by kernel_rfl
theorem en41_ok : EntOK Try.prog en41 := known canTab_ok en41_run
theorem en42_run : entO Try.prog canTab 1000000 en42 = true := by kernel_rfl
theorem en42_ok : EntOK Try.prog en42 := known canTab_ok en42_run
theorem en43_run : entO Try.prog canTab 1000000 en43 = true := by kernel_rfl
theorem en43_ok : EntOK Try.prog en43 := known canTab_ok en43_run
theorem en44_run : entO Try.prog canTab 1000000 en44 = true := by kernel_rfl
theorem en44_ok : EntOK Try.prog en44 := known canTab_ok en44_run
end Go.Ab

