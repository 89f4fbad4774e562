import Derived.Test.YtmnpnakbofobiaaDoorSvStates
set_option maxRecDepth 100000
namespace Go.Ab
open Go Go.RowKit Go.Proofs
theorem lp5_run : entLO Tryd.prog ⟨[], [], [lp6]⟩ 1000000 lp5 = true := by kernel_rfl
end Go.Ab
