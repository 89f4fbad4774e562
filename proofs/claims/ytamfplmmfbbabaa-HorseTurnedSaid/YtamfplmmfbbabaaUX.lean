/- the chapter's examples hold. -/
import Derived.Test.YtamfplmmfbbabaaUU
set_option maxRecDepth 100000
namespace Go.Ab
open Go Go.RowKit Go.Proofs
theorem aw_vx (R : ARes → Prop) : vx.call 12 [] (retK R) ⟨.nil, 0⟩ [] = R (.ret (.bool true)) := by kernel_rfl
end Go.Ab
