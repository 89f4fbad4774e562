/- package surf: what SurfTrue's tests come to. -/
import Derived.Test.YtoelpblmhmhglaaDoorRY
set_option maxRecDepth 100000
namespace Go.Ab
open Go Go.RowKit Go.Proofs
theorem dpF_eq {st a : Int} {r : Nat} (h0 : 0 ≤ st) (h4 : st ≤ 4) (ha : 0 ≤ a) (h30 : a ≤ 40) (hr : r < 7) : ∃ z, 0 ≤ z ∧ z ≤ 24 ∧ dpF st a r = (if a - z > 0 then a - z else 0) ∧ z = st * (r : Int) := by
  have h1 : 0 ≤ st * (r : Int) := Int.mul_nonneg h0 (by omega)
  have h2 : st * (r : Int) ≤ 4 * 6 := Int.mul_le_mul h4 (by omega) (by omega) (by omega)
  refine ⟨st * (r : Int), h1, by omega, ?_, rfl⟩
  have e1 : IntKind.i64.wrap (st * (r : Int)) = st * (r : Int) := wrapI (by omega) (by omega)
  unfold dpF
  rw [e1]
  generalize st * (r : Int) = z at *
  have e2 : IntKind.i64.wrap (a - z) = a - z := wrapI (by omega) (by omega)
  rw [e2]
theorem dp_mono {st a b : Int} {r : Nat} (h0 : 0 ≤ st) (h4 : st ≤ 4) (ha : 0 ≤ a) (hab : a ≤ b) (h30 : b ≤ 40) (hr : r < 7) : dpF st a r ≤ dpF st b r := by
  obtain ⟨z, z0, z1, e1, hz⟩ := dpF_eq h0 h4 ha (by omega) hr
  obtain ⟨z', z0', z1', e2, hz'⟩ := dpF_eq (a := b) h0 h4 (by omega) h30 hr
  rw [e1, e2]
  have : z = z' := by rw [hz, hz']
  subst this
  split <;> split <;> omega
end Go.Ab
set_option maxRecDepth 100000
namespace Go.Ab
open Go Go.RowKit Go.Proofs
end Go.Ab
