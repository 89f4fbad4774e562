/- package surf: what SurfTrue's tests come to. -/
import Derived.Test.YtoelpblmhmhglaaDoorEY
set_option maxRecDepth 100000
namespace Go.Ab
open Go Go.RowKit Go.Proofs
section
variable {st : Int} {w v : Nat → Sp} {n : Nat}
def TrOK (w v : Nat → Sp) (n : Nat) (wt vt : Nat → Int) : Prop := ∀ i, i < n → (w i).lo ≤ wt i ∧ wt i ≤ (w i).hi ∧ (v i).lo ≤ vt i ∧ vt i ≤ (v i).hi
variable {wt vt : Nat → Int} {x : Hut}
theorem perH_bit {i : Nat} (hn : n ≤ 8) : (perH st w v n x).testBit i = (decide (i < n) && (ofO st w v x.fl x.br i (crs st w v x.fl x.br x.row i)).fl) := hrS_bit (p := selP 70) n i
theorem surH_bit {i : Nat} (hn : n ≤ 8) : (surH st w v n x).testBit i = (decide (i < n) && !(ofO st w v x.fl x.br i (crs st w v x.fl x.br x.row i)).re) := hrS_bit (p := selP 69) n i
theorem surH_lt (hn : n ≤ 8) : surH st w v n x < 256 := lt_256 (hrS_lt hn) hn
end
end Go.Ab
