/- where a hut truly goes, by the words of the chapter. -/
import Derived.Test.YtoelpblmhmhglaaDoorOO
import Derived.Test.YtoelpblmhmhglaaDoorOV
set_option maxRecDepth 100000
namespace Go.Ab
open Go Go.RowKit Go.Proofs
end Go.Ab
