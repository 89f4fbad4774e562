/- part of the engine. -/
import Derived.Test.YtbcppknifdjdpaaDoorMX
set_option maxRecDepth 100000
namespace Go.Ab
open Go Go.RowKit Go.Proofs
theorem enG3_run : (entO Tryd.prog ⟨[], [], []⟩ 1000000 en14 && entO Tryd.prog ⟨[], [], []⟩ 1000000 en15 && entO Tryd.prog ⟨[], [], []⟩ 1000000 en16 && entO Tryd.prog ⟨[], [], []⟩ 1000000 en17) = true := by kernel_rfl
theorem en14_ok : EntOK Tryd.prog en14 := known tabs0 (by have h := enG3_run; simp only [Bool.and_eq_true] at h; simp only [h])
theorem en15_ok : EntOK Tryd.prog en15 := known tabs0 (by have h := enG3_run; simp only [Bool.and_eq_true] at h; simp only [h])
theorem en16_ok : EntOK Tryd.prog en16 := known tabs0 (by have h := enG3_run; simp only [Bool.and_eq_true] at h; simp only [h])
theorem en17_ok : EntOK Tryd.prog en17 := known tabs0 (by have h := enG3_run; simp only [Bool.and_eq_true] at h; simp only [h])
end Go.Ab

