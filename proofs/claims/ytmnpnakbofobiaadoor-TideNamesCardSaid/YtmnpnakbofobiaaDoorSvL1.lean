import Derived.Test.YtmnpnakbofobiaaDoorSvStates
set_option maxRecDepth 100000
namespace Go.Ab
open Go Go.RowKit Go.Proofs
theorem lp1_run : entLO Tryd.prog ⟨[], [], [lp2]⟩ 1000000 lp1 = true := by kernel_rfl
end Go.Ab
