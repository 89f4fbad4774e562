import Derived.Test.YtmnpnakbofobiaaDoorSvStates
set_option maxRecDepth 100000
namespace Go.Ab
open Go Go.RowKit Go.Proofs
theorem lp4_run : entLO Tryd.prog ⟨[], [], [lp5]⟩ 1000000 lp4 = true := by kernel_rfl
end Go.Ab
