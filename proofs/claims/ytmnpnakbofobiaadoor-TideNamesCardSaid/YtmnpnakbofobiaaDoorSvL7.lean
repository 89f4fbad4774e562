import Derived.Test.YtmnpnakbofobiaaDoorSvStates
set_option maxRecDepth 100000
namespace Go.Ab
open Go Go.RowKit Go.Proofs
theorem lp7_run : entLO Tryd.prog ⟨[], [], [lp8]⟩ 1000000 lp7 = true := by kernel_rfl
end Go.Ab
