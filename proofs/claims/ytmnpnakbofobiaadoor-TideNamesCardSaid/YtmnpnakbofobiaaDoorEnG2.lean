import Derived.Test.YtmnpnakbofobiaaDoorEnDefs
set_option maxRecDepth 100000
namespace Go.Ab
open Go Go.RowKit Go.Proofs
theorem enG2_run : (entO Tryd.prog ⟨[], [], []⟩ 1000000 en7) = true := by kernel_rfl
theorem en7_ok : EntOK Tryd.prog en7 := known tabs0 enG2_run
end Go.Ab
