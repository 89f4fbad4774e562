import Derived.Test.YtmnpnakbofobiaaDoorSvStates
set_option maxRecDepth 100000
namespace Go.Ab
open Go Go.RowKit Go.Proofs
theorem lp6_run : entLO Tryd.prog ⟨[], [], [lp7]⟩ 1000000 lp6 = true := by kernel_rfl
end Go.Ab
