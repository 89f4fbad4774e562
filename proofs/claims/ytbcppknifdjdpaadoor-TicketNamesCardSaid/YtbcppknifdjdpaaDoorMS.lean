/- the law TicketNames: calls in which a map is gone through. -/
import Derived.Test.YtbcppknifdjdpaaDoorMR
set_option maxRecDepth 100000
namespace Go.Ab
open Go Go.RowKit Go.Proofs
noncomputable def tkA : Value := .agg #[I 2, .slice (some ⟨1, 0, none⟩) 3 3]
noncomputable def tkM : List (Option (List Value × TypeId)) := [some (Is [-30, -30], 66), some (Is [0, 0, 0, 10, 11, 2, 3, 1, 8, 8, 3, 4, 0, 40, 41], 49)]
noncomputable def en0 : Ent := ⟨6, [tkA, I 0], tkM, .tuple #[G [0, 0], G [10, 11], I 0]⟩
noncomputable def en1 : Ent := ⟨6, [tkA, I 2], tkM, .tuple #[G [3, 4], G [40, 41], I 0]⟩
theorem en0_run (R : ARes → Prop) : vx.call 6 [tkA, I 0] (retK R) en0.mem [] = perms 2 (perms 2 (R (.ret (.tuple #[G [0, 0], G [10, 11], I 0])))) := by kernel_rfl
theorem en0_ok : EntOK Tryd.prog en0 := entOK_vx (hs := []) ((en0_run _).mpr (perms_of (perms_of rfl 2) 2)) (by kernel_rfl) (Nat.le_of_ble_eq_true rfl) (Nat.le_of_ble_eq_true (by kernel_rfl))
end Go.Ab

