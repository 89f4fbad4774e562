/- closed calls of the law, reckoned. -/
import Derived.Test.YtopfgjchjjfdkaaML
set_option maxRecDepth 100000
namespace Go.Ab
open Go Go.RowKit Go.Proofs
theorem en10_run : entO Try.prog ⟨[], [], []⟩ 1000000 en10 = true := by kernel_rfl
theorem en10_ok : EntOK Try.prog en10 := known tabs0 en10_run
theorem en11_run : entO Try.prog ⟨[], [], []⟩ 1000000 en11 = true := by kernel_rfl
theorem en11_ok : EntOK Try.prog en11 := known tabs0 en11_run
theorem en12_run : entO Try.prog ⟨[], [], []⟩ 1000000 en12 = true := by kernel_rfl
theorem en12_ok : EntOK Try.prog en12 := known tabs0 en12_run
theorem en13_run : entO Try.prog ⟨[], [], []⟩ 1000000 en13 = true := by kernel_rfl
theorem en13_ok : EntOK Try.prog en13 := known tabs0 en13_run
theorem en14_run : entO Try.prog ⟨[], [], []⟩ 1000000 en14 = true := by kernel_rfl
theorem en14_ok : EntOK Try.prog en14 := known tabs0 en14_run
end Go.Ab

