/- closed calls of the law, reckoned. -/
import Derived.Test.YtopfgjchjjfdkaaML
set_option maxRecDepth 100000
namespace Go.Ab
open Go Go.RowKit Go.Proofs
theorem en20_run : entO Try.prog ⟨[], [], []⟩ 1000000 en20 = true := by kernel_rfl
theorem en20_ok : EntOK Try.prog en20 := known tabs0 en20_run
theorem en21_run : entO Try.prog ⟨[], [], []⟩ 1000000 en21 = true := by kernel_rfl
theorem en21_ok : EntOK Try.prog en21 := known tabs0 en21_run
theorem en22_run : entO Try.prog ⟨[], [], []⟩ 1000000 en22 = true := by kernel_rfl
theorem en22_ok : EntOK Try.prog en22 := known tabs0 en22_run
theorem en23_run : entO Try.prog ⟨[], [], []⟩ 1000000 en23 = true := by kernel_rfl
theorem en23_ok : EntOK Try.prog en23 := known tabs0 en23_run
theorem en24_run : entO Try.prog ⟨[], [], []⟩ 1000000 en24 = true := by kernel_rfl
theorem en24_ok : EntOK Try.prog en24 := known tabs0 en24_run
end Go.Ab

