import Derived.Test.YtmnpnakbofobiaaDoorSvStates
set_option maxRecDepth 100000
namespace Go.Ab
open Go Go.RowKit Go.Proofs
theorem lp9_run : entLO Tryd.prog ⟨[], [], [lp10]⟩ 1000000 lp9 = true := by kernel_rfl
end Go.Ab
