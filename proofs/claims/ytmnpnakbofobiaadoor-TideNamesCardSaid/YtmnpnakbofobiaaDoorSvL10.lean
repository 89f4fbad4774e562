import Derived.Test.YtmnpnakbofobiaaDoorSvStates
set_option maxRecDepth 100000
namespace Go.Ab
open Go Go.RowKit Go.Proofs
theorem lp10_run : entLO Tryd.prog ⟨[], [], []⟩ 1000000 lp10 = true := by kernel_rfl
end Go.Ab
