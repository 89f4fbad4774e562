/- closed calls of the law, reckoned. -/
import Derived.Test.YtlagokpmmiinkaaGreatUL
set_option maxRecDepth 100000
namespace Go.Ab
open Go Go.RowKit Go.Proofs
theorem en0_run : entO Tryz.prog ⟨[], [], []⟩ 1000000 en0 = true := by kernel_rfl
theorem en0_ok : EntOK Tryz.prog en0 := known tabs0 en0_run
theorem en1_run : entO Tryz.prog ⟨[], [], []⟩ 1000000 en1 = true := by kernel_rfl
theorem en1_ok : EntOK Tryz.prog en1 := known tabs0 en1_run
theorem en2_run : entO Tryz.prog ⟨[], [], []⟩ 1000000 en2 = true := by kernel_rfl
theorem en2_ok : EntOK Tryz.prog en2 := known tabs0 en2_run
theorem en3_run : entO Tryz.prog ⟨[], [], []⟩ 1000000 en3 = true := by kernel_rfl
theorem en3_ok : EntOK Tryz.prog en3 := known tabs0 en3_run
theorem en4_run : entO Tryz.prog ⟨[], [], []⟩ 1000000 en4 = true := by kernel_rfl
theorem en4_ok : EntOK Tryz.prog en4 := known tabs0 en4_run
theorem en6_run : entO Tryz.prog ⟨[], [], []⟩ 1000000 en6 = true := by kernel_rfl
theorem en6_ok : EntOK Tryz.prog en6 := known tabs0 en6_run
theorem en7_run : entO Tryz.prog ⟨[], [], []⟩ 1000000 en7 = true := by kernel_rfl
theorem en7_ok : EntOK Tryz.prog en7 := known tabs0 en7_run
theorem en8_run : entO Tryz.prog ⟨[], [], []⟩ 1000000 en8 = true := by kernel_rfl
theorem en8_ok : EntOK Tryz.prog en8 := known tabs0 en8_run
theorem en9_run : entO Tryz.prog ⟨[], [], []⟩ 1000000 en9 = true := by kernel_rfl
theorem en9_ok : EntOK Tryz.prog en9 := known tabs0 en9_run
theorem en10_run : entO Tryz.prog ⟨[], [], []⟩ 1000000 en10 = true := by kernel_rfl
theorem en10_ok : EntOK Tryz.prog en10 := known tabs0 en10_run
theorem en11_run : entO Tryz.prog ⟨[], [], []⟩ 1000000 en11 = true := by kernel_rfl
theorem en11_ok : EntOK Tryz.prog en11 := known tabs0 en11_run
end Go.Ab
