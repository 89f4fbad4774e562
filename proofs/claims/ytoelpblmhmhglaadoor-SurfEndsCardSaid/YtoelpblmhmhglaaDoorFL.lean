/- package surf: SurfEnds: all truths of the first hours. -/
import Derived.Test.YtoelpblmhmhglaaDoorFK
set_option maxRecDepth 100000
namespace Go.Ab
open Go Go.RowKit Go.Proofs
def wdN (s : Sp) : Nat := (s.hi - s.lo + 1).toNat
section
variable (w v : Nat → Sp)
def wysN : Nat → Nat → Nat
 | 0, _ => 1
 | c + 1, i => wdN (w i) * wdN (v i) * wysN c (i + 1)
def wyl (k : Nat) : Nat → Nat
 | 0 => k
 | i + 1 => wyl k i / wdN (w i) / wdN (v i)
def wyW (k i : Nat) : Int := (w i).lo + (wyl w v k i % wdN (w i) : Nat)
def wyV (k i : Nat) : Int := (v i).lo + (wyl w v k i / wdN (w i) % wdN (v i) : Nat)
def wypN : Nat → Nat
 | 0 => 1
 | i + 1 => wypN i * (wdN (w i) * wdN (v i))
end
section
variable {w v : Nat → Sp} {n : Nat}
theorem wy_true (hp : ∀ i, i < n → (w i).lo ≤ (w i).hi ∧ (v i).lo ≤ (v i).hi) (k : Nat) : TrOK w v n (wyW w v k) (wyV w v k) := fun i hi => by
 obtain ⟨h1, h2⟩ := hp i hi
 have p1 : 0 < wdN (w i) := by unfold wdN; omega
 have p2 : 0 < wdN (v i) := by unfold wdN; omega
 have m1 := Nat.mod_lt (wyl w v k i) p1
 have m2 := Nat.mod_lt (wyl w v k i / wdN (w i)) p2
 unfold wdN at m1 m2
 unfold wyW wyV wdN
 omega
theorem wyp_succ (c : Nat) : ∀ i, wypN w v (i + c) = wypN w v i * wysN w v c i := by
 induction c with
 | zero => intro i; simp [wysN]
 | succ c ih =>
  intro i
  have e : i + (c + 1) = (i + 1) + c := by omega
  rw [e, ih (i + 1)]
  simp only [wypN, wysN, Nat.mul_assoc]
theorem wy_enc (α β : Nat → Int) : ∀ c i, (∀ h, i ≤ h → h < i + c → (w h).lo ≤ α h ∧ α h ≤ (w h).hi ∧ (v h).lo ≤ β h ∧ β h ≤ (v h).hi) →
    ∃ k, k < wysN w v c i ∧ ∀ q, wyl w v q i = k → ∀ h, i ≤ h → h < i + c → wyW w v q h = α h ∧ wyV w v q h = β h := by
 intro c
 induction c with
 | zero => intro i _; exact ⟨0, Nat.one_pos, fun q _ h h1 h2 => by omega⟩
 | succ c ih =>
  intro i hab
  obtain ⟨k', hk', hq'⟩ := ih (i + 1) fun h h1 h2 => hab h (by omega) (by omega)
  obtain ⟨a1, a2, b1, b2⟩ := hab i (Nat.le_refl i) (by omega)
  have da : (α i - (w i).lo).toNat < wdN (w i) := by unfold wdN; omega
  have db : (β i - (v i).lo).toNat < wdN (v i) := by unfold wdN; omega
  have p1 : 0 < wdN (w i) := by omega
  have p2 : 0 < wdN (v i) := by omega
  refine ⟨(α i - (w i).lo).toNat + wdN (w i) * ((β i - (v i).lo).toNat + wdN (v i) * k'), ?_, fun q hq h h1 h2 => ?_⟩
  · simp only [wysN]
    rw [Nat.mul_assoc]
    have x1 : (β i - (v i).lo).toNat + wdN (v i) * k' < wdN (v i) * wysN w v c (i + 1) := by
     have := Nat.mul_le_mul_left (wdN (v i)) (Nat.succ_le_of_lt hk')
     rw [Nat.mul_succ] at this
     omega
    have := Nat.mul_le_mul_left (wdN (w i)) (Nat.succ_le_of_lt x1)
    rw [Nat.mul_succ] at this
    omega
  · have e1 : wyl w v q i % wdN (w i) = (α i - (w i).lo).toNat := by
     rw [hq, Nat.add_mul_mod_self_left, Nat.mod_eq_of_lt da]
    have e2 : wyl w v q i / wdN (w i) = (β i - (v i).lo).toNat + wdN (v i) * k' := by
     rw [hq, Nat.add_mul_div_left _ _ p1, Nat.div_eq_of_lt da, Nat.zero_add]
    have e3 : wyl w v q i / wdN (w i) % wdN (v i) = (β i - (v i).lo).toNat := by
     rw [e2, Nat.add_mul_mod_self_left, Nat.mod_eq_of_lt db]
    have e4 : wyl w v q (i + 1) = k' := by
     show wyl w v q i / wdN (w i) / wdN (v i) = k'
     rw [e2, Nat.add_mul_div_left _ _ p2, Nat.div_eq_of_lt db, Nat.zero_add]
    by_cases e : h = i
    · subst e
      unfold wyW wyV
      rw [e1, e3]
      omega
    · exact hq' q e4 h (by omega) (by omega)
theorem wy_all {hs : Nat} (α β : Nat → Int) (h : ∀ h, h < hs → (w h).lo ≤ α h ∧ α h ≤ (w h).hi ∧ (v h).lo ≤ β h ∧ β h ≤ (v h).hi) : ∃ k, k < wypN w v hs ∧ ∀ h, h < hs → wyW w v k h = α h ∧ wyV w v k h = β h := by
 obtain ⟨k, h1, h2⟩ := wy_enc (w := w) (v := v) α β hs 0 fun x _ hx => h x (by omega)
 refine ⟨k, ?_, fun x hx => h2 k rfl x (Nat.zero_le _) (by omega)⟩
 have := wyp_succ (w := w) (v := v) hs 0
 rw [Nat.zero_add] at this
 rw [this]
 simpa [wypN] using h1
end
section
variable {st fl br : Int} {w v : Nat → Sp} {n row : Nat}
theorem row_truth (hr : row < 6) (hp : ∀ i, i < n → (w i).lo ≤ (w i).hi ∧ (v i).lo ≤ (v i).hi) : ∀ i, i ≤ n → ∀ t, (crs st w v fl br row i).testBit t = true → ∃ α β : Nat → Int, TrOK w v n α β ∧ rowN (rowF st fl br row α β i) = t := by
 intro i
 induction i with
 | zero =>
  intro _ t ht
  obtain rfl := bit_pow (q := row) ht
  exact ⟨fun j => (w j).lo, fun j => (v j).lo, fun j hj => ⟨Int.le_refl _, (hp j hj).1, Int.le_refl _, (hp j hj).2⟩, by show rowN (t : Int) = t; unfold rowN; rw [if_neg (by omega)]; rfl⟩
 | succ i ih =>
  intro hi t ht
  obtain ⟨r, h6, hrb, ho⟩ := crs_mem (by omega) ht
  obtain ⟨α, β, hT, hrow⟩ := ih (by omega) r hrb
  have hce := course_true (rw := 0) (st := st) (fl := fl) (br := br) hr hT i (by omega)
  rcases out_mem ho with ⟨e1, e2⟩ | ⟨hne, a, b, hab, hq⟩
  · have e1 : r = 6 := e1
    refine ⟨α, β, hT, ?_⟩
    have hneg : rowF st fl br row α β i < 0 := by
     by_cases h : rowF st fl br row α β i < 0
     · exact h
     · rw [e1] at hrow; unfold rowN at hrow; rw [if_neg h] at hrow; omega
    have his : isF st fl (rowF st fl br row α β i) (α i) (β i) = false := by unfold isF; rw [decide_eq_false (show ¬ rowF st fl br row α β i ≥ 0 by omega)]; rfl
    have hnx : rowF st fl br row α β (i + 1) = rowF st fl br row α β i := if_neg fun h => by rw [his] at h; cases h.1
    rw [hnx, hrow, e1, e2]
  · have hne : r ≠ 6 := hne
    have hq : t = seaR st fl br r a b := hq
    obtain ⟨g1, g2, g3, g4⟩ := hab
    let α' : Nat → Int := fun j => if j = i then a else α j
    let β' : Nat → Int := fun j => if j = i then b else β j
    have hsame : ∀ j, j ≤ i → rowF st fl br row α' β' j = rowF st fl br row α β j := by
     intro j
     induction j with
     | zero => intro _; rfl
     | succ j ihj =>
      intro hj
      have ea : α' j = α j := if_neg (by omega)
      have eb : β' j = β j := if_neg (by omega)
      show nxF st fl br (rowF st fl br row α' β' j) (α' j) (β' j) = nxF st fl br (rowF st fl br row α β j) (α j) (β j)
      rw [ihj (by omega), ea, eb]
    refine ⟨α', β', fun j hj => ?_, ?_⟩
    · by_cases e : j = i
      · subst e
        have ea : α' j = a := if_pos rfl
        have eb : β' j = b := if_pos rfl
        rw [ea, eb]; exact ⟨g1, g2, g3, g4⟩
      · have ea : α' j = α j := if_neg e
        have eb : β' j = β j := if_neg e
        rw [ea, eb]; exact hT j hj
    · have ea : α' i = a := if_pos rfl
      have eb : β' i = b := if_pos rfl
      show rowN (nxF st fl br (rowF st fl br row α' β' i) (α' i) (β' i)) = t
      rw [hsame i (Nat.le_refl i), ea, eb]
      have h0 : 0 ≤ rowF st fl br row α β i := by
       by_cases h : rowF st fl br row α β i < 0
       · unfold rowN at hrow; rw [if_pos h] at hrow; exact absurd hrow.symm hne
       · omega
      rw [hq, ← hrow]
      exact (seaR_nx (by omega) h0).symm
end
end Go.Ab
