import Derived.Test.YtmnpnakbofobiaaDoorEnDefs
set_option maxRecDepth 100000
namespace Go.Ab
open Go Go.RowKit Go.Proofs
theorem enG3_run : (entO Tryd.prog ⟨[], [], []⟩ 1000000 en13) = true := by kernel_rfl
theorem en13_ok : EntOK Tryd.prog en13 := known tabs0 enG3_run
end Go.Ab
