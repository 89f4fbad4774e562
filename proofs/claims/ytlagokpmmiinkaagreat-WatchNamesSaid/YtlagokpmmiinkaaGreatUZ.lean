/- closed calls of the law that go through a map. -/
import Derived.Test.YtlagokpmmiinkaaGreatUL
import Derived.Test.YtlagokpmmiinkaaGreatUX
set_option maxRecDepth 100000
namespace Go.Ab
open Go Go.RowKit Go.Proofs
theorem en29_run (R : ARes → Prop) : vx.call 29 [.agg #[.slice (some ⟨0, 0, none⟩) 3 3, .slice (some ⟨1, 0, none⟩) 3 3], I 0] (retK R) en29.mem [] = perms 1 (R (.ret (.tuple #[I 2, .bool false, I 0]))) := by kernel_rfl
theorem en29_ok : EntOK Tryz.prog en29 := entOK_vx (hs := []) ((en29_run _).mpr (perms_of rfl 1)) (by kernel_rfl) (Nat.le_of_ble_eq_true rfl) (Nat.le_of_ble_eq_true (by kernel_rfl))
end Go.Ab
