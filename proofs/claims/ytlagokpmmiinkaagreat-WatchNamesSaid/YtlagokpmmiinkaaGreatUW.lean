/- ABSTRACT MEMORY, 50: loops by what a round comes to. -/
import Derived.Test.YtlagokpmmiinkaaGreatUV
namespace Go.Ab
open Go Go.RowKit
def retK (R : ARes → Prop) : ARes → Mem → HS → Prop := fun r _ _ => R r
variable [TT] [PR]
end Go.Ab
