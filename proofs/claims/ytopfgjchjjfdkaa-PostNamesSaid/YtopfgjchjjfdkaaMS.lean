/- closed calls of the law, reckoned. -/
import Derived.Test.YtopfgjchjjfdkaaML
set_option maxRecDepth 100000
namespace Go.Ab
open Go Go.RowKit Go.Proofs
theorem en30_run : entO Try.prog ⟨[], [], []⟩ 1000000 en30 = true := by kernel_rfl
theorem en30_ok : EntOK Try.prog en30 := known tabs0 en30_run
theorem en31_run : entO Try.prog ⟨[], [], []⟩ 1000000 en31 = true := by kernel_rfl
theorem en31_ok : EntOK Try.prog en31 := known tabs0 en31_run
theorem en32_run : entO Try.prog ⟨[], [], []⟩ 1000000 en32 = true := by kernel_rfl
theorem en32_ok : EntOK Try.prog en32 := known tabs0 en32_run
theorem en33_run : entO Try.prog ⟨[], [], []⟩ 1000000 en33 = true := by kernel_rfl
theorem en33_ok : EntOK Try.prog en33 := known tabs0 en33_run
theorem en34_run : entO Try.prog ⟨[], [], []⟩ 1000000 en34 = true := by kernel_rfl
theorem en34_ok : EntOK Try.prog en34 := known tabs0 en34_run
end Go.Ab

