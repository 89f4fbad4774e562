/- a truth, by remainders. -/
import Derived.Test.YtoelpblmhmhglaaDoorRO
import Derived.Test.YtoelpblmhmhglaaDoorRW
set_option maxRecDepth 100000
namespace Go.Ab
open Go Go.RowKit Go.Proofs
end Go.Ab
