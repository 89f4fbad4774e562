/- part of the engine. -/
import Derived.Test.YtbcppknifdjdpaaDoorMX
set_option maxRecDepth 100000
namespace Go.Ab
open Go Go.RowKit Go.Proofs
theorem enG1_run : (entO Tryd.prog ⟨[], [], []⟩ 1000000 en6 && entO Tryd.prog ⟨[], [], []⟩ 1000000 en7 && entO Tryd.prog ⟨[], [], []⟩ 1000000 en8 && entO Tryd.prog ⟨[], [], []⟩ 1000000 en9) = true := by kernel_rfl
theorem en6_ok : EntOK Tryd.prog en6 := known tabs0 (by have h := enG1_run; simp only [Bool.and_eq_true] at h; simp only [h])
theorem en7_ok : EntOK Tryd.prog en7 := known tabs0 (by have h := enG1_run; simp only [Bool.and_eq_true] at h; simp only [h])
theorem en8_ok : EntOK Tryd.prog en8 := known tabs0 (by have h := enG1_run; simp only [Bool.and_eq_true] at h; simp only [h])
theorem en9_ok : EntOK Tryd.prog en9 := known tabs0 (by have h := enG1_run; simp only [Bool.and_eq_true] at h; simp only [h])
end Go.Ab

