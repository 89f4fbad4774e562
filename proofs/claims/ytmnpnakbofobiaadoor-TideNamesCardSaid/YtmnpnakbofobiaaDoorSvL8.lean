import Derived.Test.YtmnpnakbofobiaaDoorSvStates
set_option maxRecDepth 100000
namespace Go.Ab
open Go Go.RowKit Go.Proofs
theorem lp8_run : entLO Tryd.prog ⟨[], [], [lp9]⟩ 1000000 lp8 = true := by kernel_rfl
end Go.Ab
