/- closed calls of the law, reckoned. -/
import Derived.Test.YtopfgjchjjfdkaaML
set_option maxRecDepth 100000
namespace Go.Ab
open Go Go.RowKit Go.Proofs
theorem en25_run : entO Try.prog ⟨[], [], []⟩ 1000000 en25 = true := by kernel_rfl
theorem en25_ok : EntOK Try.prog en25 := known tabs0 en25_run
theorem en26_run : entO Try.prog ⟨[], [], []⟩ 1000000 en26 = true := by kernel_rfl
theorem en26_ok : EntOK Try.prog en26 := known tabs0 en26_run
theorem en27_run : entO Try.prog ⟨[], [], []⟩ 1000000 en27 = true := by kernel_rfl
theorem en27_ok : EntOK Try.prog en27 := known tabs0 en27_run
theorem en28_run : entO Try.prog ⟨[], [], []⟩ 1000000 en28 = true := by kernel_rfl
theorem en28_ok : EntOK Try.prog en28 := known tabs0 en28_run
theorem en29_run : entO Try.prog ⟨[], [], []⟩ 1000000 en29 = true := by kernel_rfl
theorem en29_ok : EntOK Try.prog en29 := known tabs0 en29_run
end Go.Ab

