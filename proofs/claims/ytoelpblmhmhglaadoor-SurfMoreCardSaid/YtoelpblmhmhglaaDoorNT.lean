/- package surf: the law SurfSave, of valid surfs with huts. -/
import Derived.Test.YtoelpblmhmhglaaDoorNS
import Derived.Test.YtoelpblmhmhglaaDoorNQ
set_option maxRecDepth 100000
namespace Go.Ab
open Go Go.RowKit Go.Proofs
theorem mz_eq {j : Nat} (hj : j < 256) : (IntKind.i64.wrap ((j : Nat) : Int)).tmod 6 = ((j % 6 : Nat) : Int) := by
 rw [wrapI (by omega) (by omega)]; rfl
end Go.Ab
