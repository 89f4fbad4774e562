/- package surf: SurfTrue's loop over rows. -/
import Derived.Test.YtoelpblmhmhglaaDoorOZ
set_option maxRecDepth 100000
namespace Go.Ab
open Go Go.RowKit Go.Proofs
end Go.Ab
set_option maxRecDepth 100000
namespace Go.Ab
open Go Go.RowKit Go.Proofs
end Go.Ab
