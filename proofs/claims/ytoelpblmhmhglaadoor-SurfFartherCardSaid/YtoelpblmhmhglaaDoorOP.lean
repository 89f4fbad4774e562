/- ABSTRACT MEMORY, 31: the reckoner with its operations made ready once: regions, code. -/
import Derived.Test.YtoelpblmhmhglaaDoorOO
namespace Go.Ab
open Go Go.RowKit
variable [PR]
abbrev Res := Option (AExit × St)
end Go.Ab
namespace Go.Ab
open Go Go.RowKit
variable [PR]
section
variable (X : Ex) (P : Program) (ro : Option Nat)
end
end Go.Ab
namespace Go.Ab
open Go Go.RowKit
section
variable [PR]
variable [TT]
variable {P : Program}
end
end Go.Ab
namespace Go.Ab
open Go Go.RowKit
end Go.Ab
