/- package surf: SurfKnown: what is told of known seas, in numbers. -/
import Derived.Test.YtoelpblmhmhglaaDoorPN
import Derived.Test.YtoelpblmhmhglaaDoorPD
import Derived.Test.YtoelpblmhmhglaaDoorPL
set_option maxRecDepth 100000
namespace Go.Ab
open Go Go.RowKit Go.Proofs
end Go.Ab
set_option maxRecDepth 100000
namespace Go.Ab
open Go Go.RowKit Go.Proofs
end Go.Ab
