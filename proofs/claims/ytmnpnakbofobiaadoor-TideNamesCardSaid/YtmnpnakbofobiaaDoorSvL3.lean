import Derived.Test.YtmnpnakbofobiaaDoorSvStates
set_option maxRecDepth 100000
namespace Go.Ab
open Go Go.RowKit Go.Proofs
theorem lp3_run : entLO Tryd.prog ⟨[], [], [lp4]⟩ 1000000 lp3 = true := by kernel_rfl
end Go.Ab
