/- part of the engine. -/
import Derived.Test.YtbcppknifdjdpaaDoorMX
set_option maxRecDepth 100000
namespace Go.Ab
open Go Go.RowKit Go.Proofs
theorem enG2_run : (entO Tryd.prog ⟨[], [], []⟩ 1000000 en10 && entO Tryd.prog ⟨[], [], []⟩ 1000000 en11 && entO Tryd.prog ⟨[], [], []⟩ 1000000 en12 && entO Tryd.prog ⟨[], [], []⟩ 1000000 en13) = true := by kernel_rfl
theorem en10_ok : EntOK Tryd.prog en10 := known tabs0 (by have h := enG2_run; simp only [Bool.and_eq_true] at h; simp only [h])
theorem en11_ok : EntOK Tryd.prog en11 := known tabs0 (by have h := enG2_run; simp only [Bool.and_eq_true] at h; simp only [h])
theorem en12_ok : EntOK Tryd.prog en12 := known tabs0 (by have h := enG2_run; simp only [Bool.and_eq_true] at h; simp only [h])
theorem en13_ok : EntOK Tryd.prog en13 := known tabs0 (by have h := enG2_run; simp only [Bool.and_eq_true] at h; simp only [h])
end Go.Ab

