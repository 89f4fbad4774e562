/- where a hut truly goes, by the words of the chapter. -/
import Derived.Test.YtoelpblmhmhglaaDoorRO
import Derived.Test.YtoelpblmhmhglaaDoorRV
set_option maxRecDepth 100000
namespace Go.Ab
open Go Go.RowKit Go.Proofs
end Go.Ab
