/- package surf: what SurfTrue's tests come to. -/
import Derived.Test.YtoelpblmhmhglaaDoorOY
set_option maxRecDepth 100000
namespace Go.Ab
open Go Go.RowKit Go.Proofs
theorem bt_tab : ((List.range 256).all fun c => (List.range 9).all fun r => bits BinOp.and IntKind.i64 ((c : Int) / (2 : Int) ^ r) (1 : Int) == (if c.testBit r then 1 else 0)) = true := by kernel_rfl
theorem bt_eq {c r : Nat} (hc : c < 256) (hr : r < 9) : bits BinOp.and IntKind.i64 ((c : Int) / (2 : Int) ^ r) (1 : Int) = if c.testBit r then 1 else 0 :=
 beq_iff_eq.1 (List.all_eq_true.1 (List.all_eq_true.1 bt_tab c (List.mem_range.2 hc)) r (List.mem_range.2 hr))
theorem tz_tab : ((List.range 256).all fun y => decide (y = 0) || ((bits BinOp.and IntKind.i64 (y : Int) (IntKind.i64.wrap (IntKind.i64.wrap ((1 : Int) * (2 : Int) ^ tzN y) - (1 : Int))) == (0 : Int)) && (y.testBit (tzN y) && (decide (tzN y < 8) && (List.range 8).all fun i => !y.testBit i || decide (tzN y ≤ i))))) = true := by kernel_rfl
theorem tz_eq {y : Nat} (hy : y < 256) (h0 : y ≠ 0) : (bits BinOp.and IntKind.i64 (y : Int) (IntKind.i64.wrap (IntKind.i64.wrap ((1 : Int) * (2 : Int) ^ tzN y) - (1 : Int))) != (0 : Int)) = false ∧ y.testBit (tzN y) = true ∧ tzN y < 8 ∧ ∀ i, i < 8 → y.testBit i = true → tzN y ≤ i := by
 have h := List.all_eq_true.1 tz_tab y (List.mem_range.2 hy)
 rw [decide_eq_false h0, Bool.false_or] at h
 simp only [Bool.and_eq_true, beq_iff_eq, decide_eq_true_eq, List.all_eq_true, List.mem_range, Bool.or_eq_true, Bool.not_eq_true'] at h
 obtain ⟨h1, h2, h3, h4⟩ := h
 refine ⟨by rw [h1]; rfl, h2, h3, fun i hi hb => ?_⟩
 rcases h4 i hi with h | h
 · rw [hb] at h; cases h
 · exact h
theorem dpF_eq {st a : Int} {r : Nat} (h0 : 0 ≤ st) (h4 : st ≤ 4) (ha : 0 ≤ a) (h30 : a ≤ 40) (hr : r < 7) : ∃ z, 0 ≤ z ∧ z ≤ 24 ∧ dpF st a r = (if a - z > 0 then a - z else 0) ∧ z = st * (r : Int) := by
 have h1 : 0 ≤ st * (r : Int) := Int.mul_nonneg h0 (by omega)
 have h2 : st * (r : Int) ≤ 4 * 6 := Int.mul_le_mul h4 (by omega) (by omega) (by omega)
 refine ⟨st * (r : Int), h1, by omega, ?_, rfl⟩
 have e1 : IntKind.i64.wrap (st * (r : Int)) = st * (r : Int) := wrapI (by omega) (by omega)
 unfold dpF
 rw [e1]
 generalize st * (r : Int) = z at *
 have e2 : IntKind.i64.wrap (a - z) = a - z := wrapI (by omega) (by omega)
 rw [e2]
theorem dp_mono {st a b : Int} {r : Nat} (h0 : 0 ≤ st) (h4 : st ≤ 4) (ha : 0 ≤ a) (hab : a ≤ b) (h30 : b ≤ 40) (hr : r < 7) : dpF st a r ≤ dpF st b r := by
 obtain ⟨z, z0, z1, e1, hz⟩ := dpF_eq h0 h4 ha (by omega) hr
 obtain ⟨z', z0', z1', e2, hz'⟩ := dpF_eq (a := b) h0 h4 (by omega) h30 hr
 rw [e1, e2]
 have : z = z' := by rw [hz, hz']
 subst this
 split <;> split <;> omega
section
variable {st : Int} {w v : Nat → Sp} {n : Nat}
variable {wt vt : Nat → Int} {x : Hut}
theorem perH_bit {i : Nat} (hn : n ≤ 8) : (perH st w v n x).testBit i = (decide (i < n) && (ofO st w v x.fl x.br i (crs st w v x.fl x.br x.row i)).fl) := hrS_bit (p := selP 70) n i
end
end Go.Ab
