/- package surf: SurfTrue's loop over rows. -/
import Derived.Test.YtoelpblmhmhglaaDoorEZ
set_option maxRecDepth 100000
namespace Go.Ab
open Go Go.RowKit Go.Proofs
end Go.Ab
set_option maxRecDepth 100000
namespace Go.Ab
open Go Go.RowKit Go.Proofs
theorem boolsL_get {n i : Nat} (b : Nat → Bool) (h : i < n) : (boolsL n b)[0 + i * 1]? = some (.bool (b i)) := by
 rw [Nat.zero_add]
 have := flatC_get (n := n) (k := 1) (g := fun i => [Value.bool (b i)]) (fun i _ => rfl) h (j := 0) (by omega)
 simpa [boolsL] using this
def goF (ro : Nat → Int) : Nat → Bool
 | 0 => false
 | i + 1 => decide (ro i < 0)
section
variable {rw : Nat} {st : Int} {n cw cv m cu hut : Nat} {w v : Nat → Sp} {u : Nat → Hut} {wt vt : Nat → Int}
def roF (st : Int) (x : Hut) (wt vt : Nat → Int) (i : Nat) : Int := rowF st x.fl x.br x.row wt vt (i + 1)
def foF (st : Int) (x : Hut) (wt vt : Nat → Int) : Nat → Bool := floF st x.fl x.br x.row wt vt
noncomputable def s3 (rw : Nat) (st : Int) (n cw cv m cu hut : Nat) (w v : Nat → Sp) (u : Nat → Hut) (wt vt : Nat → Int) (fi : Nat) (g : Int) (i : Nat) : Hw :=
 h3a rw st n cw cv m cu hut (surH st w v n (u hut)) (perH st w v n (u hut)) fi (losN (crH st w v (u hut) n) : Nat) g tabC (spL n w) (spL n v) (huL m u) wt (roF st (u hut) wt vt) (foF st (u hut) wt vt) (goF (roF st (u hut) wt vt) i) i
end
end Go.Ab
