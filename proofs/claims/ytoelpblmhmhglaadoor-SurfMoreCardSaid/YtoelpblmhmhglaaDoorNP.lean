/- package surf: SurfKnown, of surfs that are not valid, of no hours, of no huts, or of which slices are nil. -/
import Derived.Test.YtoelpblmhmhglaaDoorNL
import Derived.Test.YtoelpblmhmhglaaDoorNO
import Derived.Test.YtoelpblmhmhglaaDoorNH
set_option maxRecDepth 100000
namespace Go.Ab
open Go Go.RowKit Go.Proofs
end Go.Ab
