/- part of the engine. -/
import Derived.Test.YtbcppknifdjdpaaDoorMT
set_option maxRecDepth 100000
namespace Go.Ab
open Go Go.RowKit Go.Proofs
theorem cx1_run (R : ARes → Prop) : vx.call cx1.f cx1.args (xK cx1 R) cx1.m [] = perms 4 (R cx1.r) := by kernel_rfl
theorem cx1_ok : XOK Tryd.prog cx1 := xOK_vx (hs := []) ((cx1_run _).mpr (perms_of rfl 4))
end Go.Ab

