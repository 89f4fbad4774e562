/- package surf: what SurfTrue's tests come to. -/
import Derived.Test.YtoelpblmhmhglaaDoorSY
set_option maxRecDepth 100000
namespace Go.Ab
open Go Go.RowKit Go.Proofs
theorem bt_tab : ((List.range 256).all fun c => (List.range 9).all fun r => bits BinOp.and IntKind.i64 ((c : Int) / (2 : Int) ^ r) (1 : Int) == (if c.testBit r then 1 else 0)) = true := by kernel_rfl
theorem bt_eq {c r : Nat} (hc : c < 256) (hr : r < 9) : bits BinOp.and IntKind.i64 ((c : Int) / (2 : Int) ^ r) (1 : Int) = if c.testBit r then 1 else 0 :=
 beq_iff_eq.1 (List.all_eq_true.1 (List.all_eq_true.1 bt_tab c (List.mem_range.2 hc)) r (List.mem_range.2 hr))
theorem tz_tab : ((List.range 256).all fun y => decide (y = 0) || ((bits BinOp.and IntKind.i64 (y : Int) (IntKind.i64.wrap (IntKind.i64.wrap ((1 : Int) * (2 : Int) ^ tzN y) - (1 : Int))) == (0 : Int)) && (y.testBit (tzN y) && (decide (tzN y < 8) && (List.range 8).all fun i => !y.testBit i || decide (tzN y ≤ i))))) = true := by kernel_rfl
theorem tz_eq {y : Nat} (hy : y < 256) (h0 : y ≠ 0) : (bits BinOp.and IntKind.i64 (y : Int) (IntKind.i64.wrap (IntKind.i64.wrap ((1 : Int) * (2 : Int) ^ tzN y) - (1 : Int))) != (0 : Int)) = false ∧ y.testBit (tzN y) = true ∧ tzN y < 8 ∧ ∀ i, i < 8 → y.testBit i = true → tzN y ≤ i := by
 have h := List.all_eq_true.1 tz_tab y (List.mem_range.2 hy)
 rw [decide_eq_false h0, Bool.false_or] at h
 simp only [Bool.and_eq_true, beq_iff_eq, decide_eq_true_eq, List.all_eq_true, List.mem_range, Bool.or_eq_true, Bool.not_eq_true'] at h
 obtain ⟨h1, h2, h3, h4⟩ := h
 refine ⟨by rw [h1]; rfl, h2, h3, fun i hi hb => ?_⟩
 rcases h4 i hi with h | h
 · rw [hb] at h; cases h
 · exact h
end Go.Ab
