/- closed calls of the law, reckoned. -/
import Derived.Test.YtopfgjchjjfdkaaML
set_option maxRecDepth 100000
namespace Go.Ab
open Go Go.RowKit Go.Proofs
theorem en5_run : entO Try.prog ⟨[], [], []⟩ 1000000 en5 = true := by kernel_rfl
theorem en5_ok : EntOK Try.prog en5 := known tabs0 en5_run
theorem en6_run : entO Try.prog ⟨[], [], []⟩ 1000000 en6 = true := by kernel_rfl
theorem en6_ok : EntOK Try.prog en6 := known tabs0 en6_run
theorem en7_run : entO Try.prog ⟨[], [], []⟩ 1000000 en7 = true := by kernel_rfl
theorem en7_ok : EntOK Try.prog en7 := known tabs0 en7_run
theorem en8_run : entO Try.prog ⟨[], [], []⟩ 1000000 en8 = true := by kernel_rfl
theorem en8_ok : EntOK Try.prog en8 := known tabs0 en8_run
theorem en9_run : entO Try.prog ⟨[], [], []⟩ 1000000 en9 = true := by kernel_rfl
theorem en9_ok : EntOK Try.prog en9 := known tabs0 en9_run
end Go.Ab

