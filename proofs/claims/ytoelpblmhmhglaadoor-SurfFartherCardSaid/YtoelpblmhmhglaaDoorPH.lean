/- package surf: the law SurfTrue, of all surfs. -/
import Derived.Test.YtoelpblmhmhglaaDoorPF
import Derived.Test.YtoelpblmhmhglaaDoorPG
set_option maxRecDepth 100000
namespace Go.Ab
open Go Go.RowKit Go.Proofs
def toH (x : Raw) : Hut := ⟨x.fl, x.br, x.row.toNat⟩
theorem huts_conv {rw : Int} {m : Nat} {u : Nat → Raw} (h1 : 1 ≤ rw) (h6 : rw ≤ 6) (h5 : m ≤ 5) (h : allF (huB rw u) m 0 = true) : raL m u = huL m (fun i => toH (u i)) ∧ HUK rw m (fun i => toH (u i)) := by
 have e : IntKind.i64.wrap (rw - 1) = rw - 1 := wrapI (by omega) (by omega)
 have each : ∀ i, i < m → (0 ≤ (u i).fl ∧ (u i).fl ≤ 40) ∧ (0 ≤ (u i).br ∧ (u i).br ≤ 10) ∧ 0 ≤ (u i).row ∧ (u i).row ≤ rw - 1 := fun i hi => by
  have := (allF_iff m 0).1 h i (Nat.zero_le _) (by omega)
  simp only [huB, inB, e, Bool.and_eq_true] at this
  obtain ⟨⟨a1, a2⟩, ⟨b1, b2⟩, c1, c2⟩ := this
  exact ⟨⟨of_decide_eq_true a1, of_decide_eq_true a2⟩, ⟨of_decide_eq_true b1, of_decide_eq_true b2⟩, of_decide_eq_true c1, of_decide_eq_true c2⟩
 refine ⟨flatC_congr fun i hi => ?_, ⟨h5, fun i hi => ?_⟩⟩
 · obtain ⟨_, _, c1, _⟩ := each i hi
   show [I (u i).fl, I (u i).br, I (u i).row] = [I (u i).fl, I (u i).br, I ((u i).row.toNat : Nat)]
   rw [Int.toNat_of_nonneg c1]
 · obtain ⟨⟨a1, a2⟩, ⟨b1, b2⟩, c1, c2⟩ := each i hi
   refine ⟨a1, a2, b1, b2, ?_⟩
   show (((u i).row.toNat : Nat) : Int) < rw
   rw [Int.toNat_of_nonneg c1]; omega
theorem okS0_inv {rw st : Int} {m : Nat} {u : Nat → Raw} (h : okS0 rw st m u = true) : (1 ≤ rw ∧ rw ≤ 6) ∧ (0 ≤ st ∧ st ≤ 4) ∧ m ≤ 5 ∧ allF (huB rw u) m 0 = true := by
 simp only [okS0, inB, Bool.and_eq_true, Bool.not_eq_true'] at h
 obtain ⟨⟨a, b⟩, ⟨c, d⟩, e, f⟩ := h
 have a := of_decide_eq_true a
 have b := of_decide_eq_true b
 have c := of_decide_eq_true c
 have d := of_decide_eq_true d
 have e := of_decide_eq_false e
 exact ⟨⟨a, b⟩, ⟨c, d⟩, by omega, f⟩
theorem okSu_inv {rw st : Int} {n n2 m : Nat} {w v : Nat → Sp} {u : Nat → Raw} (h : okSu rw st n n2 m w v u = true) : n2 = n ∧ SOK rw st n w v ∧ m ≤ 5 ∧ allF (huB rw u) m 0 = true := by
 simp only [okSu, inB, Bool.and_eq_true, Bool.not_eq_true'] at h
 obtain ⟨⟨a, b⟩, ⟨c, d⟩, e, g, f, i, k⟩ := h
 have a := of_decide_eq_true a
 have b := of_decide_eq_true b
 have c := of_decide_eq_true c
 have d := of_decide_eq_true d
 have e := of_decide_eq_false e
 have f := of_decide_eq_false f
 have g : (n2 : Int) = n := by simpa using g
 have each : ∀ x : Sp, ∀ hi : Int, hi ≤ 40 → spB x hi = true → 0 ≤ x.lo ∧ x.lo ≤ x.hi ∧ x.hi ≤ hi ∧ x.hi - x.lo ≤ 3 := fun x hi h40 hx => by
  simp only [spB, Bool.and_eq_true] at hx
  obtain ⟨x1, x2, x3, x4⟩ := hx
  have x1 := of_decide_eq_true x1
  have x2 := of_decide_eq_true x2
  have x3 := of_decide_eq_true x3
  have x4 := of_decide_eq_true x4
  rw [wrapI (by omega) (by omega)] at x4
  exact ⟨x1, x2, x3, x4⟩
 have all := (allF_iff n 0).1 i
 refine ⟨by omega, ⟨a, b, c, d, by omega, fun i hi => ?_, fun i hi => ?_⟩, by omega, k⟩
 · have := all i (Nat.zero_le _) (by omega)
   simp only [hoB, Bool.and_eq_true] at this
   exact each _ _ (by omega) this.1
 · have := all i (Nat.zero_le _) (by omega)
   simp only [hoB, Bool.and_eq_true] at this
   exact each _ _ (by omega) this.2
end Go.Ab
