/- closed calls of the law, reckoned. -/
import Derived.Test.YtopfgjchjjfdkaaML
set_option maxRecDepth 100000
namespace Go.Ab
open Go Go.RowKit Go.Proofs
theorem en15_run : entO Try.prog ⟨[], [], []⟩ 1000000 en15 = true := by kernel_rfl
theorem en15_ok : EntOK Try.prog en15 := known tabs0 en15_run
theorem en16_run : entO Try.prog ⟨[], [], []⟩ 1000000 en16 = true := by kernel_rfl
theorem en16_ok : EntOK Try.prog en16 := known tabs0 en16_run
theorem en17_run : entO Try.prog ⟨[], [], []⟩ 1000000 en17 = true := by kernel_rfl
theorem en17_ok : EntOK Try.prog en17 := known tabs0 en17_run
theorem en18_run : entO Try.prog ⟨[], [], []⟩ 1000000 en18 = true := by kernel_rfl
theorem en18_ok : EntOK Try.prog en18 := known tabs0 en18_run
theorem en19_run : entO Try.prog ⟨[], [], []⟩ 1000000 en19 = true := by kernel_rfl
theorem en19_ok : EntOK Try.prog en19 := known tabs0 en19_run
end Go.Ab

