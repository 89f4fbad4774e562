/- package surf: the law SurfSave, of valid surfs with huts. -/
import Derived.Test.YtoelpblmhmhglaaDoorPV
import Derived.Test.YtoelpblmhmhglaaDoorPQ
import Derived.Test.YtoelpblmhmhglaaDoorPR
import Derived.Test.YtoelpblmhmhglaaDoorPD
import Derived.Test.YtoelpblmhmhglaaDoorPL
set_option maxRecDepth 100000
namespace Go.Ab
open Go Go.RowKit Go.Proofs
theorem mz_eq {j : Nat} (hj : j < 256) : (IntKind.i64.wrap ((j : Nat) : Int)).tmod 6 = ((j % 6 : Nat) : Int) := by
 rw [wrapI (by omega) (by omega)]; rfl
end Go.Ab
set_option maxRecDepth 100000
namespace Go.Ab
open Go Go.RowKit Go.Proofs
section
variable {rw : Nat} {st : Int} {n cw cv m cu a b c d : Nat} {w v : Nat → Sp} {u : Nat → Hut}
theorem rem8 {b m : Nat} (hb : b < 256) (hm : 0 < m) : ((((m : Nat) : Int) ≠ 0 ∧ IntKind.i64 = IntKind.i64) ∧ ((Value.int .i64 ((b % m : Nat) : Int)) = .int .i64 ((IntKind.i64.wrap ((b : Nat) : Int)).tmod (m : Int)))) := ⟨⟨by omega, rfl⟩, by rw [wrapI (x := ((b : Nat) : Int)) (by omega) (by omega)]; rfl⟩
theorem grow8s (w : Nat → Sp) (h0 : 0 < n) (h8 : n ≤ 8) : (((0 < n) ∧ (0 + n * 2 ≤ (spL n w).length)) ∧ (List.take (n * 2) (List.drop 0 (spL n w))).all one = true) ∧ (¬ n ≤ 0) ∧ ((0 : Nat) = 0) ∧ (n * 16 ≤ 140737488355328) ∧ (n ≤ 4611686018427387904) := ⟨⟨⟨h0, by rw [spL_len]; omega⟩, oneS n w⟩, by omega, rfl, by omega, by omega⟩
theorem grow8h (u : Nat → Hut) (hm : 0 < m) (h5 : m ≤ 5) : (((0 < m) ∧ (0 + m * 3 ≤ (huL m u).length)) ∧ (List.take (m * 3) (List.drop 0 (huL m u))).all one = true) ∧ (¬ m ≤ 0) ∧ ((0 : Nat) = 0) ∧ (m * 24 ≤ 140737488355328) ∧ (m ≤ 4611686018427387904) := ⟨⟨⟨hm, by rw [huL_len]; omega⟩, oneH m u⟩, by omega, rfl, by omega, by omega⟩
theorem c20_8 {rw : Int} (hS : SOK rw st n w v) (hU : HUK rw m u) : ConOK Tryd.prog 20 (C20 rw st n cw n cv m cu (spL n w) (spL n v) (huL m u) true) := by
 have h := C20_ok (rw := rw) (st := st) (n := n) (cw := cw) (n2 := n) (cv := cv) (m := m) (cu := cu) (w := w) (v := v) (u := rwH u)
 rw [okSu_of hS hU] at h
 exact h
end
end Go.Ab
set_option maxRecDepth 100000
namespace Go.Ab
open Go Go.RowKit Go.Proofs
noncomputable def mQH (tb us : List Value) : Mem := ⟨fillX [.dead, .cells tb 1 .ro, .dead, .dead, .cells us 1 .ro] 0 .nil, 5⟩
noncomputable def mQ0 (tb : List Value) : Mem := ⟨fillX [.dead, .cells tb 1 .ro, .dead, .dead, .dead] 0 .nil, 5⟩
noncomputable def mQN (tb ws vs : List Value) : Mem := ⟨fillX [.dead, .cells tb 1 .ro, .cells ws 1 .ro, .cells vs 1 .ro, .dead] 0 .nil, 5⟩
end Go.Ab
