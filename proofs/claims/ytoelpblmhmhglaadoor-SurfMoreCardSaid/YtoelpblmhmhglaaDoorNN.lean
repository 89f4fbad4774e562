/- package surf: the look whether a surf is valid, of any surf. -/
import Derived.Test.YtoelpblmhmhglaaDoorNL
import Derived.Test.YtoelpblmhmhglaaDoorNF
import Derived.Test.YtoelpblmhmhglaaDoorNK
set_option maxRecDepth 100000
namespace Go.Ab
open Go Go.RowKit Go.Proofs
end Go.Ab
set_option maxRecDepth 100000
namespace Go.Ab
open Go Go.RowKit Go.Proofs
end Go.Ab
