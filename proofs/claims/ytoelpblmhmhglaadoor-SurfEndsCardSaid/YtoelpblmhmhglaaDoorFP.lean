/- package surf: SurfKnown's loops. -/
import Derived.Test.YtoelpblmhmhglaaDoorFI
import Derived.Test.YtoelpblmhmhglaaDoorFK
set_option maxRecDepth 100000
namespace Go.Ab
open Go Go.RowKit Go.Proofs
theorem or_tab8 : ((List.range 256).all fun a => (List.range 8).all fun j => bits BinOp.or IntKind.i64 (a : Int) (IntKind.i64.wrap ((1 : Int) * (2 : Int) ^ j)) == ((a ||| 2 ^ j : Nat) : Int)) = true := by kernel_rfl
theorem or_one {a j : Nat} (ha : a < 256) (hj : j < 8) : bits BinOp.or IntKind.i64 (a : Int) (IntKind.i64.wrap ((1 : Int) * (2 : Int) ^ j)) = ((a ||| 2 ^ j : Nat) : Int) :=
 beq_iff_eq.1 (List.all_eq_true.1 (List.all_eq_true.1 or_tab8 a (List.mem_range.2 ha)) j (List.mem_range.2 hj))
section
variable {rw : Nat} {st : Int} {n cw cv m cu hut : Nat} {w v : Nat → Sp} {u : Nat → Hut} {wt vt : Nat → Int}
theorem boolsL_get2 {n i : Nat} (b : Nat → Bool) (h : i < n) : (boolsL n b)[0 + i * 1]? = some (.bool (b i)) := boolsL_get b h
noncomputable def s4 (rw : Nat) (st : Int) (n cw cv m cu hut : Nat) (w v : Nat → Sp) (u : Nat → Hut) (wt vt : Nat → Int) (i : Nat) : Hw :=
 h4 rw st n cw cv m cu hut tabC (spL n w) (spL n v) (huL m u) (spL n (ptS wt)) (spL n (ptS vt)) (roF st (u hut) wt vt) (foF st (u hut) wt vt) (fobits (foF st (u hut) wt vt) i : Nat) (goF (roF st (u hut) wt vt) i) (ffst (foF st (u hut) wt vt) i) i
end
end Go.Ab
