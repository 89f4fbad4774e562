/- where a hut truly goes, by the words of the chapter. -/
import Derived.Test.YtoelpblmhmhglaaDoorMO
import Derived.Test.YtoelpblmhmhglaaDoorMV
set_option maxRecDepth 100000
namespace Go.Ab
open Go Go.RowKit Go.Proofs
end Go.Ab
