/- package surf: what SurfTrue's tests come to. -/
import Derived.Test.YtoelpblmhmhglaaDoorKY
set_option maxRecDepth 100000
namespace Go.Ab
open Go Go.RowKit Go.Proofs
theorem tz_tab : ((List.range 256).all fun y => decide (y = 0) || ((bits BinOp.and IntKind.i64 (y : Int) (IntKind.i64.wrap (IntKind.i64.wrap ((1 : Int) * (2 : Int) ^ tzN y) - (1 : Int))) == (0 : Int)) && (y.testBit (tzN y) && (decide (tzN y < 8) && (List.range 8).all fun i => !y.testBit i || decide (tzN y ≤ i))))) = true := by kernel_rfl
theorem tz_eq {y : Nat} (hy : y < 256) (h0 : y ≠ 0) : (bits BinOp.and IntKind.i64 (y : Int) (IntKind.i64.wrap (IntKind.i64.wrap ((1 : Int) * (2 : Int) ^ tzN y) - (1 : Int))) != (0 : Int)) = false ∧ y.testBit (tzN y) = true ∧ tzN y < 8 ∧ ∀ i, i < 8 → y.testBit i = true → tzN y ≤ i := by
 have h := List.all_eq_true.1 tz_tab y (List.mem_range.2 hy)
 rw [decide_eq_false h0, Bool.false_or] at h
 simp only [Bool.and_eq_true, beq_iff_eq, decide_eq_true_eq, List.all_eq_true, List.mem_range, Bool.or_eq_true, Bool.not_eq_true'] at h
 obtain ⟨h1, h2, h3, h4⟩ := h
 refine ⟨by rw [h1]; rfl, h2, h3, fun i hi hb => ?_⟩
 rcases h4 i hi with h | h
 · rw [hb] at h; cases h
 · exact h
theorem an_tab : ((List.range 256).all fun x => (List.range 256).all fun y => !(Nat.beq (x &&& y) x) || bits BinOp.andNot IntKind.i64 (x : Int) (y : Int) == (0 : Int)) = true := by kernel_rfl
theorem an_eq {x y : Nat} (hx : x < 256) (hy : y < 256) (h : ∀ i, x.testBit i = true → y.testBit i = true) : (bits BinOp.andNot IntKind.i64 (x : Int) (y : Int) != (0 : Int)) = false := by
 have e : x &&& y = x := by
  apply Nat.eq_of_testBit_eq
  intro i
  rw [Nat.testBit_and]
  cases hb : x.testBit i with
  | false => rfl
  | true => rw [h i hb]; rfl
 have t := List.all_eq_true.1 (List.all_eq_true.1 an_tab x (List.mem_range.2 hx)) y (List.mem_range.2 hy)
 rw [e, Nat.beq_refl, Bool.not_true, Bool.false_or, beq_iff_eq] at t
 rw [t]; rfl
section
variable {st : Int} {w v : Nat → Sp} {n : Nat}
def TrOK (w v : Nat → Sp) (n : Nat) (wt vt : Nat → Int) : Prop := ∀ i, i < n → (w i).lo ≤ wt i ∧ wt i ≤ (w i).hi ∧ (v i).lo ≤ vt i ∧ vt i ≤ (v i).hi
variable {wt vt : Nat → Int} {x : Hut}
theorem perH_bit {i : Nat} (hn : n ≤ 8) : (perH st w v n x).testBit i = (decide (i < n) && (ofO st w v x.fl x.br i (crs st w v x.fl x.br x.row i)).fl) := hrS_bit (p := selP 70) n i
theorem surH_bit {i : Nat} (hn : n ≤ 8) : (surH st w v n x).testBit i = (decide (i < n) && !(ofO st w v x.fl x.br i (crs st w v x.fl x.br x.row i)).re) := hrS_bit (p := selP 69) n i
theorem surH_lt (hn : n ≤ 8) : surH st w v n x < 256 := lt_256 (hrS_lt hn) hn
theorem perH_has (hr : x.row < 6) (hn : n ≤ 8) (ht : TrOK w v n wt vt) {i : Nat} (hi : i < n) (h : floF st x.fl x.br x.row wt vt i = true) : (perH st w v n x).testBit i = true := by
 rw [perH_bit hn, (floats_true hr ht hi).1 h, decide_eq_true hi]; rfl
theorem surH_not (hr : x.row < 6) (hn : n ≤ 8) (ht : TrOK w v n wt vt) {i : Nat} (hi : i < n) (h : floF st x.fl x.br x.row wt vt i = false) : (surH st w v n x).testBit i = false := by
 rw [surH_bit hn, (floats_true hr ht hi).2 h, decide_eq_true hi]; rfl
end
end Go.Ab
