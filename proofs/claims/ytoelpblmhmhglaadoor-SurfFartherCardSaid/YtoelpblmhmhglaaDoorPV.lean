/- package surf: SurfSave: whether a list is right, as the law asks it. -/
import Derived.Test.YtoelpblmhmhglaaDoorPL
import Derived.Test.YtoelpblmhmhglaaDoorPJ
import Derived.Test.YtoelpblmhmhglaaDoorPK
import Derived.Test.YtoelpblmhmhglaaDoorPD
set_option maxRecDepth 100000
namespace Go.Ab
open Go Go.RowKit Go.Proofs
end Go.Ab
set_option maxRecDepth 100000
namespace Go.Ab
open Go Go.RowKit Go.Proofs
section
variable {rw st : Int} {n cw cv m cu k d many : Nat} {w v : Nat → Sp} {u : Nat → Hut} {L Q bs : Nat → Int} {mz a : Int}
end
end Go.Ab
