/- WHAT THE RECKONER OF CONDITIONS GIVES OVER THIS PROGRAM; calls whose order is not fixed. -/
import Derived.Test.YtoelpblmhmhglaaDoorON
import Derived.Test.YtoelpblmhmhglaaDoorOQ
set_option maxRecDepth 100000
namespace Go.Ab
open Go Go.RowKit Go.Proofs
noncomputable def vx : Vx := vex Tryd.prog 1000000
theorem vx_sound : VSound Tryd.prog 1000000 vx := vex_sound rfl rfl mixed callable _
end Go.Ab
