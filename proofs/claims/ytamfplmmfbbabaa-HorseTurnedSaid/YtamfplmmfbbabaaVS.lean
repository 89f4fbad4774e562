/- the law HorseFewest: its run where plans are compared. -/
import Derived.Test.YtamfplmmfbbabaaVR
import Derived.Test.YtamfplmmfbbabaaUY
set_option maxRecDepth 100000
namespace Go.Ab
open Go Go.RowKit Go.Proofs
def ownP (k : Nat) (b : Nat → Int) (i : Nat) : Nat := (planG k b i).toNat
theorem ownP_eq {k : Nat} {b : Nat → Int} (hb : ∀ i, i < k → 0 ≤ b i ∧ b i < 256) (i : Nat) : (ownP k b i : Int) = planG k b i := by
  have := planG_ok hb i
  simp only [okN, Bool.and_eq_true, decide_eq_true_eq] at this
  simp only [ownP]
  omega
theorem ownP_lt {k : Nat} {b : Nat → Int} (hb : ∀ i, i < k → 0 ≤ b i ∧ b i < 256) (i : Nat) : ownP k b i < 7 := by
  have := planG_ok hb i
  simp only [okN, Bool.and_eq_true, decide_eq_true_eq] at this
  simp only [ownP]
  omega
theorem ownL_eq {k : Nat} {b : Nat → Int} (n : Nat) (hb : ∀ i, i < k → 0 ≤ b i ∧ b i < 256) : natL n (ownP k b) = ints n (planG k b) := by
  show ints n (fun i => (ownP k b i : Int)) = _
  have : (fun i => (ownP k b i : Int)) = planG k b := funext fun i => ownP_eq hb i
  rw [this]
theorem C13q_ok (p : Int) (n c k d : Nat) (f : Nat → Mv) (b : Nat → Int) (h0 : 0 < n) (hn : n ≤ 1000000) (hb : ∀ i, i < k → 0 ≤ b i ∧ b i < 256) : ConNOK Try.prog 13 (C13q p n c k d f b (ownP k b)) := by
  have h := C13_ok p n c k d f b h0 hn
  have e : C13q p n c k d f b (ownP k b) = C13 p n c k d f b := by
    simp only [C13q, C13, ownL_eq n hb]
  rw [e]
  exact h
theorem C13z_ok (p : Int) (n c : Nat) (f : Nat → Mv) (h0 : 0 < n) (hn : n ≤ 1000000) : ConNOK Try.prog 13 (C13z p n c f (ownP 0 fun _ => 0)) := by
  have h := C13n_ok p n c f h0 hn
  have e : C13z p n c f (ownP 0 fun _ => 0) = C13n p n c f := by
    simp only [C13z, C13n, ownL_eq n (k := 0) (b := fun _ => 0) (fun i hi => absurd hi (by omega))]
  rw [e]
  exact h
end Go.Ab
