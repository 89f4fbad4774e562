/- closed calls of the law, reckoned. -/
import Derived.Test.YtopfgjchjjfdkaaML
set_option maxRecDepth 100000
namespace Go.Ab
open Go Go.RowKit Go.Proofs
theorem en0_run : entO Try.prog ⟨[], [], []⟩ 1000000 en0 = true := by kernel_rfl
theorem en0_ok : EntOK Try.prog en0 := known tabs0 en0_run
theorem en1_run : entO Try.prog ⟨[], [], []⟩ 1000000 en1 = true := by kernel_rfl
theorem en1_ok : EntOK Try.prog en1 := known tabs0 en1_run
theorem en2_run : entO Try.prog ⟨[], [], []⟩ 1000000 en2 = true := by kernel_rfl
theorem en2_ok : EntOK Try.prog en2 := known tabs0 en2_run
theorem en3_run : entO Try.prog ⟨[], [], []⟩ 1000000 en3 = true := by kernel_rfl
theorem en3_ok : EntOK Try.prog en3 := known tabs0 en3_run
theorem en4_run : entO Try.prog ⟨[], [], []⟩ 1000000 en4 = true := by kernel_rfl
theorem en4_ok : EntOK Try.prog en4 := known tabs0 en4_run
end Go.Ab

