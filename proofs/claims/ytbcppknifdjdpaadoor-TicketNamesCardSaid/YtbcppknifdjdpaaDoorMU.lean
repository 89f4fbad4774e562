/- part of the engine. -/
import Derived.Test.YtbcppknifdjdpaaDoorMT
set_option maxRecDepth 100000
namespace Go.Ab
open Go Go.RowKit Go.Proofs
theorem cx0_run (R : ARes → Prop) : vx.call cx0.f cx0.args (xK cx0 R) cx0.m [] = perms 4 (R cx0.r) := by kernel_rfl
theorem cx0_ok : XOK Tryd.prog cx0 := xOK_vx (hs := []) ((cx0_run _).mpr (perms_of rfl 4))
end Go.Ab

