import Derived.Test.YtmnpnakbofobiaaDoorSvStates
set_option maxRecDepth 100000
namespace Go.Ab
open Go Go.RowKit Go.Proofs
theorem lp0_run : entLO Tryd.prog ⟨[], [], [lp1]⟩ 1000000 lp0 = true := by kernel_rfl
end Go.Ab
