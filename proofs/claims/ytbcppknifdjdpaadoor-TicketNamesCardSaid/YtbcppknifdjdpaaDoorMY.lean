/- part of the engine. -/
import Derived.Test.YtbcppknifdjdpaaDoorMX
set_option maxRecDepth 100000
namespace Go.Ab
open Go Go.RowKit Go.Proofs
theorem enG0_run : (entO Tryd.prog ⟨[], [], []⟩ 1000000 en2 && entO Tryd.prog ⟨[], [], []⟩ 1000000 en3 && entO Tryd.prog ⟨[], [], []⟩ 1000000 en4 && entO Tryd.prog ⟨[], [], []⟩ 1000000 en5) = true := by kernel_rfl
theorem en2_ok : EntOK Tryd.prog en2 := known tabs0 (by have h := enG0_run; simp only [Bool.and_eq_true] at h; simp only [h])
theorem en3_ok : EntOK Tryd.prog en3 := known tabs0 (by have h := enG0_run; simp only [Bool.and_eq_true] at h; simp only [h])
theorem en4_ok : EntOK Tryd.prog en4 := known tabs0 (by have h := enG0_run; simp only [Bool.and_eq_true] at h; simp only [h])
theorem en5_ok : EntOK Tryd.prog en5 := known tabs0 (by have h := enG0_run; simp only [Bool.and_eq_true] at h; simp only [h])
end Go.Ab

