/- a truth, by remainders. -/
import Derived.Test.YtoelpblmhmhglaaDoorSO
import Derived.Test.YtoelpblmhmhglaaDoorSW
set_option maxRecDepth 100000
namespace Go.Ab
open Go Go.RowKit Go.Proofs
end Go.Ab
