import Derived.Test.YtmnpnakbofobiaaDoorEnDefs
import Derived.Test.YtmnpnakbofobiaaDoorSvL0
import Derived.Test.YtmnpnakbofobiaaDoorSvL1
import Derived.Test.YtmnpnakbofobiaaDoorSvL2
import Derived.Test.YtmnpnakbofobiaaDoorSvL3
import Derived.Test.YtmnpnakbofobiaaDoorSvL4
import Derived.Test.YtmnpnakbofobiaaDoorSvL5
import Derived.Test.YtmnpnakbofobiaaDoorSvL6
import Derived.Test.YtmnpnakbofobiaaDoorSvL7
import Derived.Test.YtmnpnakbofobiaaDoorSvL8
import Derived.Test.YtmnpnakbofobiaaDoorSvL9
import Derived.Test.YtmnpnakbofobiaaDoorSvL10
set_option maxRecDepth 100000
namespace Go.Ab
open Go Go.RowKit Go.Proofs
theorem lp10_ok : LOK Tryd.prog lp10 := knownL tabs0 lp10_run
theorem lp9_ok : LOK Tryd.prog lp9 := knownL (tabs1 lp10_ok) lp9_run
theorem lp8_ok : LOK Tryd.prog lp8 := knownL (tabs1 lp9_ok) lp8_run
theorem lp7_ok : LOK Tryd.prog lp7 := knownL (tabs1 lp8_ok) lp7_run
theorem lp6_ok : LOK Tryd.prog lp6 := knownL (tabs1 lp7_ok) lp6_run
theorem lp5_ok : LOK Tryd.prog lp5 := knownL (tabs1 lp6_ok) lp5_run
theorem lp4_ok : LOK Tryd.prog lp4 := knownL (tabs1 lp5_ok) lp4_run
theorem lp3_ok : LOK Tryd.prog lp3 := knownL (tabs1 lp4_ok) lp3_run
theorem lp2_ok : LOK Tryd.prog lp2 := knownL (tabs1 lp3_ok) lp2_run
theorem lp1_ok : LOK Tryd.prog lp1 := knownL (tabs1 lp2_ok) lp1_run
theorem lp0_ok : LOK Tryd.prog lp0 := knownL (tabs1 lp1_ok) lp0_run
theorem cx0_run : entXO Tryd.prog ⟨[], [], [lp0]⟩ 1000000 cx0 = true := by kernel_rfl
theorem cx0_ok : XOK Tryd.prog cx0 := knownX (tabs1 lp0_ok) cx0_run
end Go.Ab
