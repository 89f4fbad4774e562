/- package surf: SurfTrue's loop over hours. -/
import Derived.Test.YtoelpblmhmhglaaDoorRZ
set_option maxRecDepth 100000
namespace Go.Ab
open Go Go.RowKit Go.Proofs
end Go.Ab
