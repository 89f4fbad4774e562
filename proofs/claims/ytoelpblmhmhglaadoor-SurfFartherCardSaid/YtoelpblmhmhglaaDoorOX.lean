/- a truth, by remainders. -/
import Derived.Test.YtoelpblmhmhglaaDoorOO
import Derived.Test.YtoelpblmhmhglaaDoorOW
set_option maxRecDepth 100000
namespace Go.Ab
open Go Go.RowKit Go.Proofs
end Go.Ab
