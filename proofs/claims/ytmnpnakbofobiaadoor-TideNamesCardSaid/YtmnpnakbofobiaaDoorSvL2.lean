import Derived.Test.YtmnpnakbofobiaaDoorSvStates
set_option maxRecDepth 100000
namespace Go.Ab
open Go Go.RowKit Go.Proofs
theorem lp2_run : entLO Tryd.prog ⟨[], [], [lp3]⟩ 1000000 lp2 = true := by kernel_rfl
end Go.Ab
