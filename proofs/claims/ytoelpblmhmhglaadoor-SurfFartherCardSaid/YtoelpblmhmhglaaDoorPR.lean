/- package surf: SurfMore: the law's loop; what is less danger. -/
import Derived.Test.YtoelpblmhmhglaaDoorPL
import Derived.Test.YtoelpblmhmhglaaDoorPQ
import Derived.Test.YtoelpblmhmhglaaDoorPD
import Derived.Test.YtoelpblmhmhglaaDoorOV
set_option maxRecDepth 100000
namespace Go.Ab
open Go Go.RowKit Go.Proofs
section
variable {rw st : Int} {n : Nat} {w v w' v' : Nat → Sp} {x x' : Hut}
theorem first_le (hS : SOK rw st n w v) (hS' : SOK rw st n w' v') (hH : Holds2 n w v w' v' x.fl x.br x'.fl x'.br) (hr : x.row ≤ x'.row) (h6 : x'.row < 6) (h0 : perH st w' v' n x' ≠ 0) : perH st w v n x ≠ 0 ∧ tzN (perH st w v n x) ≤ tzN (perH st w' v' n x') := by
 obtain ⟨_, hb, _, _⟩ := tz_eq (perH_lt (st := st) (w := w') (v := v') hS.n8 x') h0
 rw [perH_bit hS.n8, Bool.and_eq_true] at hb
 obtain ⟨hi, hf⟩ := hb
 have hi := of_decide_eq_true hi
 obtain ⟨j, hj, hfj⟩ := floats_before hS hS' hH hr h6 hi hf
 have h8 := hS.n8
 have hbj : (perH st w v n x).testBit j = true := by rw [perH_bit hS.n8, hfj, decide_eq_true (show j < n by omega)]; rfl
 have hne : perH st w v n x ≠ 0 := fun e => by rw [e, Nat.zero_testBit] at hbj; cases hbj
 obtain ⟨_, _, _, hm⟩ := tz_eq (perH_lt (st := st) (w := w) (v := v) hS.n8 x) hne
 exact ⟨hne, Nat.le_trans (hm j (by omega) hbj) hj⟩
end
structure Safer (rw st : Int) (n m : Nat) (w v w2 v2 : Nat → Sp) (u u2 : Nat → Hut) : Prop where
 s : SOK rw st n w2 v2
 h : HUK rw m u2
 hut : ∀ i, i < m → Holds2 n w v w2 v2 (u i).fl (u i).br (u2 i).fl (u2 i).br ∧ (u i).row ≤ (u2 i).row
 low : Lower n w v w2 v2
section
variable {rw st nb : Int} {n cw cv m cu : Nat} {w v w2 v2 : Nat → Sp} {u u2 : Nat → Hut}
theorem sub_sea {w v w2 v2 : Nat → Sp} (hw : ∀ i, i < n → (w2 i).lo ≤ (w i).lo ∧ (w2 i).hi ≤ (w i).hi ∧ (w i).lo ≤ (w i).hi ∧ (w2 i).lo ≤ (w2 i).hi) (hv : ∀ i, i < n → (v2 i).lo ≤ (v i).lo ∧ (v2 i).hi ≤ (v i).hi ∧ (v i).lo ≤ (v i).hi ∧ (v2 i).lo ≤ (v2 i).hi) :
    (∀ i, i < n → ∀ a' b', SeaIn w2 v2 i a' b' → ∃ a b, SeaIn w v i a b ∧ a' ≤ a ∧ b' ≤ b) ∧ Lower n w v w2 v2 := by
 refine ⟨fun i hi a' b' h => ?_, fun i hi a b h => ?_⟩
 · obtain ⟨p1, p2, p3, p4⟩ := hw i hi
   obtain ⟨q1, q2, q3, q4⟩ := hv i hi
   obtain ⟨h1, h2, h3, h4⟩ := h
   exact ⟨(w i).hi, (v i).hi, ⟨p3, Int.le_refl _, q3, Int.le_refl _⟩, by omega, by omega⟩
 · obtain ⟨p1, p2, p3, p4⟩ := hw i hi
   obtain ⟨q1, q2, q3, q4⟩ := hv i hi
   obtain ⟨h1, h2, h3, h4⟩ := h
   exact ⟨(w2 i).lo, (v2 i).lo, ⟨Int.le_refl _, p4, Int.le_refl _, q4⟩, by omega, by omega⟩
theorem refl_ok (hS : SOK rw st n w v) : (∀ i, i < n → (w i).lo ≤ (w i).lo ∧ (w i).hi ≤ (w i).hi ∧ (w i).lo ≤ (w i).hi ∧ (w i).lo ≤ (w i).hi) ∧ (∀ i, i < n → (v i).lo ≤ (v i).lo ∧ (v i).hi ≤ (v i).hi ∧ (v i).lo ≤ (v i).hi ∧ (v i).lo ≤ (v i).hi) := by
 refine ⟨fun i hi => ?_, fun i hi => ?_⟩
 · obtain ⟨_, a, _, _⟩ := hS.w i hi
   exact ⟨Int.le_refl _, Int.le_refl _, a, a⟩
 · obtain ⟨_, a, _, _⟩ := hS.v i hi
   exact ⟨Int.le_refl _, Int.le_refl _, a, a⟩
theorem copyA (n : Nat) (w : Nat → Sp) : [] ++ List.take (n * 2) (List.drop 0 (spL n w)) = spL n w := by
 rw [List.nil_append, List.drop_zero, List.take_of_length_le (by rw [spL_len]; exact Nat.le_refl _)]
theorem copyC (m : Nat) (u : Nat → Hut) : [] ++ List.take (m * 3) (List.drop 0 (huL m u)) = huL m u := by
 rw [List.nil_append, List.drop_zero, List.take_of_length_le (by rw [huL_len]; exact Nat.le_refl _)]
theorem copyD (m : Nat) (u : Nat → Hut) : (List.take 0 ([] : List Value) ++ List.take (m * 3) (List.drop 0 (huL m u))) = huL m u := by
 rw [List.take_zero]; exact copyC m u
theorem mem_flatC {n : Nat} {g : Nat → List Value} {v : Value} (h : v ∈ flatC n g) : ∃ i, i < n ∧ v ∈ g i := by
 induction n with
 | zero => cases h
 | succ n ih =>
  rw [flatC_succ, List.mem_append] at h
  rcases h with h | h
  · obtain ⟨i, hi, hv⟩ := ih h
    exact ⟨i, by omega, hv⟩
  · exact ⟨n, by omega, h⟩
theorem oneS (n : Nat) (w : Nat → Sp) : (List.take (n * 2) (List.drop 0 (spL n w))).all one = true := by
 have := copyA n w
 rw [List.nil_append] at this
 rw [this]
 refine List.all_eq_true.2 fun v hv => ?_
 obtain ⟨i, _, hi⟩ := mem_flatC hv
 have hi : v ∈ [I (w i).lo, I (w i).hi] := hi
 simp only [List.mem_cons, List.not_mem_nil, or_false] at hi
 rcases hi with rfl | rfl <;> rfl
theorem oneH (m : Nat) (u : Nat → Hut) : (List.take (m * 3) (List.drop 0 (huL m u))).all one = true := by
 have := copyC m u
 rw [List.nil_append] at this
 rw [this]
 refine List.all_eq_true.2 fun v hv => ?_
 obtain ⟨i, _, hi⟩ := mem_flatC hv
 have hi : v ∈ [I (u i).fl, I (u i).br, I (u i).row] := hi
 simp only [List.mem_cons, List.not_mem_nil, or_false] at hi
 rcases hi with rfl | rfl | rfl <;> rfl
theorem hut_cells {hut : Nat} (h : hut < m) : List.drop (hut * 3) (huL m u) = [I (u hut).fl, I (u hut).br, I (u hut).row] ++ List.drop (hut * 3 + 3) (huL m u) := by
 have k := flatC_part (n := m) (k := 3) (g := fun i => huV (u i)) (fun _ _ => rfl) h
 have e := List.take_append_drop 3 (List.drop (hut * 3) (huL m u))
 rw [List.drop_drop] at e
 rw [← e]
 exact congrArg (· ++ List.drop (hut * 3 + 3) (huL m u)) k
theorem putH3 {hut : Nat} (h : hut < m) (x : Hut) : List.take (hut * 3) (huL m u) ++ [I x.fl, I x.br, I x.row] ++ List.drop (hut * 3 + 3) (huL m u) = huL m (fun i => if i = hut then x else u i) := by
 have k := flatC_set (n := m) (k := 3) (g := fun i => huV (u i)) (fun _ _ => rfl) h (v := huV x) rfl
 refine (show _ = _ from k).trans ?_
 refine flatC_congr fun i _ => ?_
 show (if i = hut then huV x else huV (u i)) = huV (if i = hut then x else u i)
 split <;> rfl
end
end Go.Ab
set_option maxRecDepth 100000
namespace Go.Ab
open Go Go.RowKit Go.Proofs
def upR (u : Nat → Hut) (hut i : Nat) : Hut := if i = hut then ⟨(u hut).fl, (u hut).br, (u hut).row + 1⟩ else u i
def revH (m : Nat) (u : Nat → Hut) (i : Nat) : Hut := u (m - 1 - i)
section
variable {rw st : Int} {n m : Nat} {w v : Nat → Sp} {u : Nat → Hut}
theorem rev_ok (hU : HUK rw m u) : HUK rw m (revH m u) := ⟨hU.m5, fun i hi => hU.u (m - 1 - i) (by omega)⟩
theorem rev_best (hU : HUK rw m u) (many : Nat) : popN (bestQ (perY st w v n (revH m u)) many m) = popN (bestQ (perY st w v n u) many m) :=
 best_rev hU.m5 fun i _ => rfl
theorem safer_r (hS : SOK rw st n w v) (hU : HUK rw m u) {hut : Nat} (hr : ((u hut).row : Int) + 1 < rw) : Safer rw st n m w v w v u (upR u hut) := by
 have k := sub_sea (refl_ok hS).1 (refl_ok hS).2
 refine ⟨hS, ⟨hU.m5, fun i hi => ?_⟩, fun i hi => ?_, k.2⟩
 · obtain ⟨a0, a1, a2, a3, a4⟩ := hU.u i hi
   unfold upR
   by_cases e : i = hut
   · subst e
     rw [if_pos rfl]
     exact ⟨a0, a1, a2, a3, by show (((u i).row + 1 : Nat) : Int) < rw; omega⟩
   · rw [if_neg e]; exact ⟨a0, a1, a2, a3, a4⟩
 · unfold upR
   by_cases e : i = hut
   · subst e
     rw [if_pos rfl]
     exact ⟨⟨Int.le_refl _, Int.le_refl _, k.1⟩, Nat.le_succ _⟩
   · rw [if_neg e]; exact ⟨⟨Int.le_refl _, Int.le_refl _, k.1⟩, Nat.le_refl _⟩
theorem putR {hut : Nat} (h : hut < m) : List.take (0 + hut * 3 + 2) (huL m u) ++ [I (((u hut).row + 1 : Nat) : Int)] ++ List.drop (0 + hut * 3 + 2 + 1) (huL m u) = huL m (upR u hut) := by
 rw [Nat.zero_add]
 refine Eq.trans ?_ (putH3 h ⟨(u hut).fl, (u hut).br, (u hut).row + 1⟩)
 have e2 : List.take (hut * 3 + 2) (huL m u) = List.take (hut * 3) (huL m u) ++ [I (u hut).fl, I (u hut).br] := by
  rw [List.take_add, hut_cells h]; rfl
 rw [e2]
 simp only [List.append_assoc, List.cons_append, List.nil_append]
theorem fine_r (hS : SOK rw st n w v) {hut : Nat} (h : hut < m) (hr : ¬ ((u hut).row : Int) + 1 < rw) : okSu rw st n n m w v (rwH (upR u hut)) = false := by
 have h1 := hS.rw1
 have h2 := hS.rw6
 have e : IntKind.i64.wrap (rw - 1) = rw - 1 := wrapI (by omega) (by omega)
 rw [Bool.eq_false_iff]
 intro hh
 simp only [okSu, Bool.and_eq_true] at hh
 have h3 := (allF_iff m 0).1 hh.2.2.2.2.2.2 hut (by omega) (by omega)
 simp only [huB, inB, rwH, upR, if_true, e, Bool.and_eq_true, decide_eq_true_eq] at h3
 omega
end
end Go.Ab
