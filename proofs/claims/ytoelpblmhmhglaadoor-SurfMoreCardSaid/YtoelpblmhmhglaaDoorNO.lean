/- package surf: SurfKnown: what is told of known seas, in numbers. -/
import Derived.Test.YtoelpblmhmhglaaDoorNN
import Derived.Test.YtoelpblmhmhglaaDoorND
import Derived.Test.YtoelpblmhmhglaaDoorNL
set_option maxRecDepth 100000
namespace Go.Ab
open Go Go.RowKit Go.Proofs
end Go.Ab
set_option maxRecDepth 100000
namespace Go.Ab
open Go Go.RowKit Go.Proofs
end Go.Ab
