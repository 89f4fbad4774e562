/- part of the engine. -/
import Derived.Test.YtbcppknifdjdpaaDoorMX
set_option maxRecDepth 100000
namespace Go.Ab
open Go Go.RowKit Go.Proofs
theorem enG4_run : (entO Tryd.prog ⟨[], [], []⟩ 1000000 en18 && entO Tryd.prog ⟨[], [], []⟩ 1000000 en19) = true := by kernel_rfl
theorem en18_ok : EntOK Tryd.prog en18 := known tabs0 (by have h := enG4_run; simp only [Bool.and_eq_true] at h; simp only [h])
theorem en19_ok : EntOK Tryd.prog en19 := known tabs0 (by have h := enG4_run; simp only [Bool.and_eq_true] at h; simp only [h])
end Go.Ab

