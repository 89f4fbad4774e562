/- package surf: SurfEnds: what all truths of the first hours come to. -/
import Derived.Test.YtoelpblmhmhglaaDoorFL
set_option maxRecDepth 100000
namespace Go.Ab
open Go Go.RowKit Go.Proofs
def anyF (f : Nat → Bool) : Nat → Bool
 | 0 => false
 | k + 1 => anyF f k || f k
theorem anyF_iff {f : Nat → Bool} : ∀ K, anyF f K = true ↔ ∃ k, k < K ∧ f k = true := by
 intro K
 induction K with
 | zero => exact ⟨fun h => (by cases h), fun ⟨k, h, _⟩ => by omega⟩
 | succ K ih =>
  simp only [anyF, Bool.or_eq_true, ih]
  constructor
  · rintro (⟨k, h1, h2⟩ | h)
    · exact ⟨k, by omega, h2⟩
    · exact ⟨K, by omega, h⟩
  · rintro ⟨k, h1, h2⟩
    by_cases e : k = K
    · subst e; exact .inr h2
    · exact .inl ⟨k, by omega, h2⟩
def seenB (hs K i : Nat) (f : Nat → Nat → Bool) (h : Nat) : Bool := decide (h < hs) && (anyF (fun k => f k h) K || (decide (h < i) && f K h))
theorem seenB_step {hs K i h : Nat} {f : Nat → Nat → Bool} (hi : i < hs) : seenB hs K (i + 1) f h = if h = i then (seenB hs K i f i || f K i) else seenB hs K i f h := by
 unfold seenB
 by_cases e : h = i
 · subst e
   rw [if_pos rfl, decide_eq_true hi, decide_eq_true (show h < h + 1 by omega), decide_eq_false (show ¬ h < h by omega)]
   simp
 · rw [if_neg e, decide_eq_decide.2 (show h < i + 1 ↔ h < i by omega)]
theorem seenB_next {hs K h : Nat} {f : Nat → Nat → Bool} : seenB hs K hs f h = seenB hs (K + 1) 0 f h := by
 unfold seenB
 by_cases e : h < hs
 · rw [decide_eq_true e, decide_eq_false (show ¬ h < 0 by omega)]
   simp [anyF]
 · rw [decide_eq_false e]; rfl
theorem seenB_zero {hs h : Nat} {f : Nat → Nat → Bool} : seenB hs 0 0 f h = false := by
 unfold seenB
 rw [decide_eq_false (show ¬ h < 0 by omega)]
 simp [anyF]
theorem fobits_congr {p p' : Nat → Bool} : ∀ n, (∀ i, i < n → p i = p' i) → fobits p n = fobits p' n := by
 intro n
 induction n with
 | zero => intro _; rfl
 | succ n ih => intro h; simp only [fobits]; rw [ih fun i hi => h i (by omega), h n (by omega)]
theorem fobits_none {p : Nat → Bool} : ∀ n, (∀ i, i < n → p i = false) → fobits p n = 0 := by
 intro n
 induction n with
 | zero => intro _; rfl
 | succ n ih => intro h; simp only [fobits]; rw [h n (by omega), ih fun i hi => h i (by omega)]; rfl
theorem fobits_upd {p p' : Nat → Bool} {n i : Nat} (hi : i < n) (h : ∀ j, j < n → p' j = if j = i then true else p j) : fobits p' n = fobits p n ||| 2 ^ i := by
 apply Nat.eq_of_testBit_eq
 intro t
 rw [fobits_bit, Nat.testBit_or, fobits_bit, Nat.testBit_two_pow]
 by_cases ht : t < n
 · rw [h t ht]
   by_cases e : t = i
   · subst e; simp [ht]
   · rw [if_neg e, decide_eq_false (show ¬ i = t by omega), Bool.or_false]
 · rw [decide_eq_false ht, decide_eq_false (show ¬ i = t by omega)]; rfl
section
variable (st : Int) (x : Hut) (w v : Nat → Sp)
def wyR (k h : Nat) : Int := roF st x (wyW w v k) (wyV w v k) h
def wyF (k h : Nat) : Bool := foF st x (wyW w v k) (wyV w v k) h
def raF (hs K i h : Nat) : Nat := fobits (fun r => seenB hs K i (fun k h => decide (wyR st x w v k h = (r : Int))) h) 6
def loF (hs K i h : Nat) : Bool := seenB hs K i (fun k h => decide (wyR st x w v k h < 0)) h
def ysF (hs K i : Nat) : Nat := fobits (seenB hs K i (wyF st x w v)) 3
def nsF (hs K i : Nat) : Nat := fobits (seenB hs K i fun k h => !wyF st x w v k h) 3
end
section
variable {st : Int} {x : Hut} {w v : Nat → Sp} {hs K i : Nat}
theorem raF_step (hi : i < hs) (h : Nat) : raF st x w v hs K (i + 1) h = if h = i then (if 0 ≤ wyR st x w v K i ∧ wyR st x w v K i < 6 then raF st x w v hs K i i ||| 2 ^ (wyR st x w v K i).toNat else raF st x w v hs K i i) else raF st x w v hs K i h := by
 unfold raF
 by_cases e : h = i
 · subst e
   rw [if_pos rfl]
   by_cases hr : 0 ≤ wyR st x w v K h ∧ wyR st x w v K h < 6
   · rw [if_pos hr]
     refine fobits_upd (show (wyR st x w v K h).toNat < 6 by omega) fun j hj => ?_
     rw [seenB_step hi, if_pos rfl]
     by_cases ej : j = (wyR st x w v K h).toNat
     · rw [if_pos ej, decide_eq_true (show wyR st x w v K h = (j : Int) by omega), Bool.or_true]
     · rw [if_neg ej, decide_eq_false (show ¬ wyR st x w v K h = (j : Int) by omega), Bool.or_false]
   · rw [if_neg hr]
     refine fobits_congr _ fun j hj => ?_
     rw [seenB_step hi, if_pos rfl, decide_eq_false (show ¬ wyR st x w v K h = (j : Int) by omega), Bool.or_false]
 · rw [if_neg e]
   refine fobits_congr _ fun j hj => ?_
   rw [seenB_step hi, if_neg e]
theorem loF_step (hi : i < hs) (h : Nat) : loF st x w v hs K (i + 1) h = if h = i then (loF st x w v hs K i i || decide (wyR st x w v K i < 0)) else loF st x w v hs K i h := by
 unfold loF
 exact seenB_step hi
theorem ysF_step (hi : i < hs) (h3 : hs ≤ 3) : ysF st x w v hs K (i + 1) = if wyF st x w v K i = true then ysF st x w v hs K i ||| 2 ^ i else ysF st x w v hs K i := by
 unfold ysF
 cases hf : wyF st x w v K i with
 | true =>
  rw [if_pos rfl]
  refine fobits_upd (by omega) fun j hj => ?_
  rw [seenB_step hi]
  by_cases e : j = i
  · subst e; rw [if_pos rfl, if_pos rfl, hf, Bool.or_true]
  · rw [if_neg e, if_neg e]
 | false =>
  rw [if_neg (by simp)]
  refine fobits_congr _ fun j hj => ?_
  rw [seenB_step hi]
  by_cases e : j = i
  · subst e; rw [if_pos rfl, hf, Bool.or_false]
  · rw [if_neg e]
theorem nsF_step (hi : i < hs) (h3 : hs ≤ 3) : nsF st x w v hs K (i + 1) = if wyF st x w v K i = true then nsF st x w v hs K i else nsF st x w v hs K i ||| 2 ^ i := by
 unfold nsF
 cases hf : wyF st x w v K i with
 | true =>
  rw [if_pos rfl]
  refine fobits_congr _ fun j hj => ?_
  rw [seenB_step hi]
  by_cases e : j = i
  · subst e; rw [if_pos rfl, hf, Bool.not_true, Bool.or_false]
  · rw [if_neg e]
 | false =>
  rw [if_neg (by simp)]
  refine fobits_upd (by omega) fun j hj => ?_
  rw [seenB_step hi]
  by_cases e : j = i
  · subst e; rw [if_pos rfl, if_pos rfl, hf, Bool.not_false, Bool.or_true]
  · rw [if_neg e, if_neg e]
theorem raF_next (h : Nat) : raF st x w v hs K hs h = raF st x w v hs (K + 1) 0 h := fobits_congr _ fun j _ => seenB_next
theorem loF_next (h : Nat) : loF st x w v hs K hs h = loF st x w v hs (K + 1) 0 h := seenB_next
theorem ysF_next : ysF st x w v hs K hs = ysF st x w v hs (K + 1) 0 := fobits_congr _ fun j _ => seenB_next
theorem nsF_next : nsF st x w v hs K hs = nsF st x w v hs (K + 1) 0 := fobits_congr _ fun j _ => seenB_next
theorem raF_zero (h : Nat) : raF st x w v hs 0 0 h = 0 := fobits_none _ fun j _ => seenB_zero
theorem loF_zero (h : Nat) : loF st x w v hs 0 0 h = false := seenB_zero
theorem ysF_zero : ysF st x w v hs 0 0 = 0 := fobits_none _ fun j _ => seenB_zero
theorem nsF_zero : nsF st x w v hs 0 0 = 0 := fobits_none _ fun j _ => seenB_zero
theorem raF_lt (h : Nat) : raF st x w v hs K i h < 64 := fobits_lt _ 6
theorem ysF_lt : ysF st x w v hs K i < 8 := fobits_lt _ 3
theorem nsF_lt : nsF st x w v hs K i < 8 := fobits_lt _ 3
end
section
variable {st fl br : Int} {w v : Nat → Sp} {n row : Nat}
theorem rowF_congr {α β α' β' : Nat → Int} : ∀ i, (∀ j, j < i → α j = α' j ∧ β j = β' j) → rowF st fl br row α β i = rowF st fl br row α' β' i := by
 intro i
 induction i with
 | zero => intro _; rfl
 | succ i ih =>
  intro h
  show nxF st fl br (rowF st fl br row α β i) (α i) (β i) = nxF st fl br (rowF st fl br row α' β' i) (α' i) (β' i)
  rw [ih fun j hj => h j (by omega), (h i (by omega)).1, (h i (by omega)).2]
theorem truth_with {α β : Nat → Int} (hT : TrOK w v n α β) {i : Nat} {a b : Int} (hab : SeaIn w v i a b) :
    ∃ α' β', TrOK w v n α' β' ∧ (∀ j, j < i → α j = α' j ∧ β j = β' j) ∧ α' i = a ∧ β' i = b := by
 obtain ⟨g1, g2, g3, g4⟩ := hab
 refine ⟨fun j => if j = i then a else α j, fun j => if j = i then b else β j, fun j hj => ?_, fun j hj => ?_, if_pos rfl, if_pos rfl⟩
 · show _ ≤ (if j = i then a else α j) ∧ (if j = i then a else α j) ≤ _ ∧ _ ≤ (if j = i then b else β j) ∧ (if j = i then b else β j) ≤ _
   by_cases e : j = i
   · subst e; rw [if_pos rfl, if_pos rfl]; exact ⟨g1, g2, g3, g4⟩
   · rw [if_neg e, if_neg e]; exact hT j hj
 · show α j = (if j = i then a else α j) ∧ β j = (if j = i then b else β j)
   rw [if_neg (by omega), if_neg (by omega)]; exact ⟨rfl, rfl⟩
theorem flo_truth (hr : row < 6) (hp : ∀ i, i < n → (w i).lo ≤ (w i).hi ∧ (v i).lo ≤ (v i).hi) {i : Nat} (hi : i < n) (h : (ofO st w v fl br i (crs st w v fl br row i)).fl = true) : ∃ α β : Nat → Int, TrOK w v n α β ∧ floF st fl br row α β i = true := by
 obtain ⟨r, a, b, h6, hb, hab, hl⟩ := flo_mem (by omega) h
 obtain ⟨α, β, hT, hrow⟩ := row_truth hr hp i (by omega) r hb
 obtain ⟨α', β', hT', hs, ha, hb'⟩ := truth_with hT hab
 refine ⟨α', β', hT', ?_⟩
 show isF st fl (rowF st fl br row α' β' i) (α' i) (β' i) = true
 rw [← rowF_congr i hs, ha, hb']
 have h0 : ¬ rowF st fl br row α β i < 0 := fun hn => by unfold rowN at hrow; rw [if_pos hn] at hrow; omega
 obtain ⟨q, hq⟩ := Int.eq_ofNat_of_zero_le (show 0 ≤ rowF st fl br row α β i by omega)
 have er : r = q := by rw [← hrow]; unfold rowN; rw [if_neg h0, hq]; rfl
 rw [hq, is_li, ← er]
 exact hl
theorem re_truth (hr : row < 6) (hp : ∀ i, i < n → (w i).lo ≤ (w i).hi ∧ (v i).lo ≤ (v i).hi) {i : Nat} (hi : i < n) (h : (ofO st w v fl br i (crs st w v fl br row i)).re = true) : ∃ α β : Nat → Int, TrOK w v n α β ∧ floF st fl br row α β i = false := by
 obtain ⟨r, hb, hr6⟩ := re_mem h
 obtain ⟨α, β, hT, hrow⟩ := row_truth hr hp i (by omega) r hb
 rcases hr6 with rfl | ⟨hne, a, b, hab, hl⟩
 · refine ⟨α, β, hT, ?_⟩
   obtain ⟨_, _, c3⟩ := course_true (rw := 0) (st := st) (fl := fl) (br := br) hr hT i (by omega)
   have hneg : rowF st fl br row α β i < 0 := by
    by_cases h : rowF st fl br row α β i < 0
    · exact h
    · unfold rowN at hrow; rw [if_neg h] at hrow; omega
   show isF st fl (rowF st fl br row α β i) (α i) (β i) = false
   unfold isF; rw [decide_eq_false (show ¬ rowF st fl br row α β i ≥ 0 by omega)]; rfl
 · obtain ⟨α', β', hT', hs, ha, hb'⟩ := truth_with hT hab
   refine ⟨α', β', hT', ?_⟩
   show isF st fl (rowF st fl br row α' β' i) (α' i) (β' i) = false
   rw [← rowF_congr i hs, ha, hb']
   have h0 : ¬ rowF st fl br row α β i < 0 := fun hn => by unfold rowN at hrow; rw [if_pos hn] at hrow; exact hne hrow.symm
   obtain ⟨q, hq⟩ := Int.eq_ofNat_of_zero_le (show 0 ≤ rowF st fl br row α β i by omega)
   have er : r = q := by rw [← hrow]; unfold rowN; rw [if_neg h0, hq]; rfl
   rw [hq, is_li, ← er]
   exact hl
end
section
variable {rw : Nat} {st : Int} {x : Hut} {w v : Nat → Sp} {n hs h : Nat}
theorem way_row (hn : hs ≤ n) (hh : h < hs) {α β : Nat → Int} (hT : TrOK w v n α β) : ∃ k, k < wypN w v hs ∧ wyR st x w v k h = roF st x α β h ∧ wyF st x w v k h = foF st x α β h := by
 obtain ⟨k, hk, hd⟩ := wy_all (w := w) (v := v) (hs := hs) α β fun j hj => hT j (by omega)
 have e := fun i (hi : i ≤ hs) => rowF_congr (st := st) (fl := x.fl) (br := x.br) (row := x.row) (α := wyW w v k) (β := wyV w v k) (α' := α) (β' := β) i fun j hj => hd j (by omega)
 refine ⟨k, hk, e (h + 1) (by omega), ?_⟩
 show isF st x.fl (rowF st x.fl x.br x.row (wyW w v k) (wyV w v k) h) (wyW w v k h) (wyV w v k h) = isF st x.fl (rowF st x.fl x.br x.row α β h) (α h) (β h)
 rw [e h (by omega), (hd h hh).1, (hd h hh).2]
theorem loF_all (hr : x.row < 6) (hp : ∀ i, i < n → (w i).lo ≤ (w i).hi ∧ (v i).lo ≤ (v i).hi) (hn : hs ≤ n) (hh : h < hs) : loF st x w v hs (wypN w v hs) 0 h = (crH st w v x (h + 1)).testBit 6 := by
 rw [Bool.eq_iff_iff]
 unfold loF seenB
 rw [decide_eq_true hh, decide_eq_false (show ¬ h < 0 by omega), Bool.true_and, Bool.false_and, Bool.or_false, anyF_iff]
 constructor
 · rintro ⟨k, _, h2⟩
   have h2 := of_decide_eq_true h2
   obtain ⟨c1, _, _⟩ := course_true (rw := 0) (st := st) (fl := x.fl) (br := x.br) hr (wy_true hp k) (h + 1) (by omega)
   have h2 : rowF st x.fl x.br x.row (wyW w v k) (wyV w v k) (h + 1) < 0 := h2
   unfold rowN at c1
   rw [if_pos h2] at c1
   exact c1
 · intro hb
   obtain ⟨α, β, hT, hrow⟩ := row_truth hr hp (h + 1) (by omega) 6 hb
   obtain ⟨k, hk, e1, _⟩ := way_row (st := st) (x := x) hn hh hT
   obtain ⟨_, _, c3⟩ := course_true (rw := 0) (st := st) (fl := x.fl) (br := x.br) hr hT (h + 1) (by omega)
   refine ⟨k, hk, decide_eq_true ?_⟩
   rw [e1]
   show rowF st x.fl x.br x.row α β (h + 1) < 0
   by_cases hneg : rowF st x.fl x.br x.row α β (h + 1) < 0
   · exact hneg
   · unfold rowN at hrow; rw [if_neg hneg] at hrow; omega
theorem raF_all (hr : x.row < rw) (h6 : rw ≤ 6) (hp : ∀ i, i < n → (w i).lo ≤ (w i).hi ∧ (v i).lo ≤ (v i).hi) (hn : hs ≤ n) (hh : h < hs) : raF st x w v hs (wypN w v hs) 0 h = crH st w v x (h + 1) &&& (2 ^ rw - 1) := by
 have hr6 : x.row < 6 := by omega
 apply Nat.eq_of_testBit_eq
 intro t
 unfold raF
 rw [fobits_bit, Nat.testBit_and, Nat.testBit_two_pow_sub_one, Bool.eq_iff_iff]
 unfold seenB
 rw [decide_eq_true hh, decide_eq_false (show ¬ h < 0 by omega), Bool.true_and, Bool.false_and, Bool.or_false]
 simp only [Bool.and_eq_true, decide_eq_true_eq, anyF_iff]
 constructor
 · rintro ⟨ht, k, _, h2⟩
   obtain ⟨c1, _, c3⟩ := course_true (rw := 0) (st := st) (fl := x.fl) (br := x.br) hr6 (wy_true hp k) (h + 1) (by omega)
   have h2 : rowF st x.fl x.br x.row (wyW w v k) (wyV w v k) (h + 1) = (t : Int) := h2
   unfold rowN at c1
   rw [h2, if_neg (by omega)] at c1
   exact ⟨c1, by omega⟩
 · rintro ⟨hb, ht⟩
   obtain ⟨α, β, hT, hrow⟩ := row_truth hr6 hp (h + 1) (by omega) t hb
   obtain ⟨k, hk, e1, _⟩ := way_row (st := st) (x := x) hn hh hT
   refine ⟨by omega, k, hk, ?_⟩
   rw [e1]
   show rowF st x.fl x.br x.row α β (h + 1) = (t : Int)
   unfold rowN at hrow
   split at hrow
   · omega
   · omega
theorem ysF_all (hr : x.row < 6) (h8 : n ≤ 8) (hp : ∀ i, i < n → (w i).lo ≤ (w i).hi ∧ (v i).lo ≤ (v i).hi) (hn : hs ≤ n) (h3 : hs ≤ 3) : perH st w v n x &&& (2 ^ hs - 1) = ysF st x w v hs (wypN w v hs) 0 := by
 apply Nat.eq_of_testBit_eq
 intro t
 unfold ysF
 rw [fobits_bit, Nat.testBit_and, Nat.testBit_two_pow_sub_one, perH_bit h8, Bool.eq_iff_iff]
 unfold seenB
 rw [decide_eq_false (show ¬ t < 0 by omega), Bool.false_and, Bool.or_false]
 simp only [Bool.and_eq_true, decide_eq_true_eq, anyF_iff]
 constructor
 · rintro ⟨⟨_, hf⟩, ht⟩
   obtain ⟨α, β, hT, hfl⟩ := flo_truth hr hp (show t < n by omega) hf
   obtain ⟨k, hk, _, e2⟩ := way_row (st := st) (x := x) hn ht hT
   exact ⟨by omega, ht, k, hk, by rw [e2]; exact hfl⟩
 · rintro ⟨_, ht, k, hk, hf⟩
   exact ⟨⟨by omega, (floats_true (st := st) (fl := x.fl) (br := x.br) hr (wy_true hp k) (show t < n by omega)).1 hf⟩, ht⟩
theorem nsF_all (hr : x.row < 6) (h8 : n ≤ 8) (hp : ∀ i, i < n → (w i).lo ≤ (w i).hi ∧ (v i).lo ≤ (v i).hi) (hn : hs ≤ n) (h3 : hs ≤ 3) (t : Nat) : (surH st w v n x &&& (2 ^ hs - 1)).testBit t = ((2 ^ hs - 1).testBit t && !(nsF st x w v hs (wypN w v hs) 0).testBit t) := by
 rw [Nat.testBit_and, Nat.testBit_two_pow_sub_one, surH_bit h8]
 by_cases ht : t < hs
 · rw [decide_eq_true ht, Bool.and_true, Bool.true_and, decide_eq_true (show t < n by omega), Bool.true_and]
   congr 1
   unfold nsF
   rw [fobits_bit, decide_eq_true (show t < 3 by omega), Bool.true_and, Bool.eq_iff_iff]
   unfold seenB
   rw [decide_eq_true ht, decide_eq_false (show ¬ t < 0 by omega), Bool.true_and, Bool.false_and, Bool.or_false, anyF_iff]
   constructor
   · intro hf
     obtain ⟨α, β, hT, hfl⟩ := re_truth hr hp (show t < n by omega) hf
     obtain ⟨k, hk, _, e2⟩ := way_row (st := st) (x := x) hn ht hT
     refine ⟨k, hk, ?_⟩
     show (!wyF st x w v k t) = true
     rw [e2, show foF st x α β t = false from hfl]; rfl
   · rintro ⟨k, hk, hf⟩
     have hf : wyF st x w v k t = false := by simpa using hf
     exact (floats_true (st := st) (fl := x.fl) (br := x.br) hr (wy_true hp k) (show t < n by omega)).2 hf
 · rw [decide_eq_false ht, Bool.and_false, Bool.false_and]
end
end Go.Ab
