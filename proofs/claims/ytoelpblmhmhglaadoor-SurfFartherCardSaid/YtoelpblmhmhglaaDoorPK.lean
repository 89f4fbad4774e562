/- package surf: what comes of an hour, sea by sea; a hut that is farther in, or more is held, never is farther out. -/
import Derived.Test.YtoelpblmhmhglaaDoorOZ
import Derived.Test.YtoelpblmhmhglaaDoorPJ
set_option maxRecDepth 100000
namespace Go.Ab
open Go Go.RowKit Go.Proofs
def seaR (st fl br : Int) (row : Nat) (a b : Int) : Nat := if liI st a b fl row = false then row else if b ≤ br then row else swN row
theorem seaO_rows {st : Int} {k : Key} {a b : Int} : (seaO st k a b).rows = 2 ^ seaR st k.fl k.br k.row a b := by
 unfold seaO seaR
 split
 · rfl
 · split <;> rfl
theorem seaO_fl {st : Int} {k : Key} {a b : Int} : (seaO st k a b).fl = liI st a b k.fl k.row := by
 unfold seaO
 split
 · rename_i h; rw [h]
 · rename_i h
   split
   · simpa using h
   · simpa using h
theorem bit_pow {q t : Nat} (h : (2 ^ q).testBit t = true) : t = q := by
 rw [Nat.testBit_two_pow] at h
 exact (of_decide_eq_true h).symm
section
variable {st : Int} {k : Key}
theorem inO_mem {a va : Int} {o : Out} {t : Nat} (c : Nat) (h : (inO st k a va o c).rows.testBit t = true) : o.rows.testBit t = true ∨ ∃ j, j < c ∧ (seaO st k a (va + (j : Nat))).rows.testBit t = true := by
 induction c with
 | zero => exact .inl h
 | succ c ih =>
  simp only [inO, orO, Nat.testBit_or, Bool.or_eq_true] at h
  rcases h with h | h
  · rcases ih h with h | ⟨j, h1, h2⟩
    · exact .inl h
    · exact .inr ⟨j, by omega, h2⟩
  · exact .inr ⟨c, by omega, h⟩
theorem inO_memf {a va : Int} {o : Out} (c : Nat) (h : (inO st k a va o c).fl = true) : o.fl = true ∨ ∃ j, j < c ∧ (seaO st k a (va + (j : Nat))).fl = true := by
 induction c with
 | zero => exact .inl h
 | succ c ih =>
  simp only [inO, orO, Bool.or_eq_true] at h
  rcases h with h | h
  · rcases ih h with h | ⟨j, h1, h2⟩
    · exact .inl h
    · exact .inr ⟨j, by omega, h2⟩
  · exact .inr ⟨c, by omega, h⟩
theorem thO_mem {wa va : Int} {c t : Nat} (r : Nat) (h : (thO st k wa va c r).rows.testBit t = true) : ∃ i j, i < r ∧ j < c ∧ (seaO st k (wa + (i : Nat)) (va + (j : Nat))).rows.testBit t = true := by
 induction r with
 | zero => simp [thO, nilO] at h
 | succ r ih =>
  rcases inO_mem c h with h | ⟨j, h1, h2⟩
  · obtain ⟨i, j, h1, h2, h3⟩ := ih h
    exact ⟨i, j, by omega, h2, h3⟩
  · exact ⟨r, j, by omega, h1, h2⟩
theorem thO_memf {wa va : Int} {c : Nat} (r : Nat) (h : (thO st k wa va c r).fl = true) : ∃ i j, i < r ∧ j < c ∧ (seaO st k (wa + (i : Nat)) (va + (j : Nat))).fl = true := by
 induction r with
 | zero => simp [thO, nilO] at h
 | succ r ih =>
  rcases inO_memf c h with h | ⟨j, h1, h2⟩
  · obtain ⟨i, j, h1, h2, h3⟩ := ih h
    exact ⟨i, j, by omega, h2, h3⟩
  · exact ⟨r, j, by omega, h1, h2⟩
def SeaIn (w v : Nat → Sp) (hour : Nat) (a b : Int) : Prop := (w hour).lo ≤ a ∧ a ≤ (w hour).hi ∧ (v hour).lo ≤ b ∧ b ≤ (v hour).hi
theorem out_mem {w v : Nat → Sp} {t : Nat} (h : (outO st w v k).rows.testBit t = true) : (k.row = 6 ∧ t = 6) ∨ (k.row ≠ 6 ∧ ∃ a b, SeaIn w v k.hour a b ∧ t = seaR st k.fl k.br k.row a b) := by
 unfold outO at h
 split at h
 · rename_i h6
   exact .inl ⟨h6, bit_pow (q := 6) h⟩
 · rename_i h6
   obtain ⟨i, j, h1, h2, h3⟩ := thO_mem _ h
   rw [seaO_rows] at h3
   unfold rdN at h1 h2
   exact .inr ⟨h6, _, _, ⟨by omega, by omega, by omega, by omega⟩, bit_pow h3⟩
theorem out_memf {w v : Nat → Sp} (h : (outO st w v k).fl = true) : k.row ≠ 6 ∧ ∃ a b, SeaIn w v k.hour a b ∧ liI st a b k.fl k.row = true := by
 unfold outO at h
 split at h
 · cases h
 · rename_i h6
   obtain ⟨i, j, h1, h2, h3⟩ := thO_memf _ h
   rw [seaO_fl] at h3
   unfold rdN at h1 h2
   exact ⟨h6, _, _, ⟨by omega, by omega, by omega, by omega⟩, h3⟩
theorem out_has {w v : Nat → Sp} {a b : Int} (h6 : k.row ≠ 6) (h : SeaIn w v k.hour a b) : (outO st w v k).rows.testBit (seaR st k.fl k.br k.row a b) = true ∧ (liI st a b k.fl k.row = true → (outO st w v k).fl = true) := by
 have hl := livO_has (st := st) (k := k) h.1 h.2.1 h.2.2.1 h.2.2.2
 have ho : outO st w v k = livO st w v k := if_neg h6
 rw [ho]
 refine ⟨hl.rows _ ?_, fun hb => hl.fl ?_⟩
 · rw [seaO_rows]; exact Nat.testBit_two_pow_self
 · rw [seaO_fl]; exact hb
theorem out_lost {w v : Nat → Sp} (h6 : k.row = 6) : (outO st w v k).rows.testBit 6 = true := by
 unfold outO; rw [if_pos h6]; rfl
end
section
variable {st : Int} {w v : Nat → Sp} {fl br : Int}
theorem evO_mem {hour t : Nat} : ∀ (l : List Nat) (o : Out), (evO st w v fl br hour l o).rows.testBit t = true → o.rows.testBit t = true ∨ ∃ r, r ∈ l ∧ (outO st w v ⟨fl, br, r, hour⟩).rows.testBit t = true
 | [], o, h => .inl h
 | x :: l, o, h => by
  rcases evO_mem l _ h with h | ⟨r, h1, h2⟩
  · simp only [orO, Nat.testBit_or, Bool.or_eq_true] at h
    rcases h with h | h
    · exact .inl h
    · exact .inr ⟨x, List.mem_cons_self, h⟩
  · exact .inr ⟨r, List.mem_cons_of_mem _ h1, h2⟩
theorem evO_memf {hour : Nat} : ∀ (l : List Nat) (o : Out), (evO st w v fl br hour l o).fl = true → o.fl = true ∨ ∃ r, r ∈ l ∧ (outO st w v ⟨fl, br, r, hour⟩).fl = true
 | [], o, h => .inl h
 | x :: l, o, h => by
  rcases evO_memf l _ h with h | ⟨r, h1, h2⟩
  · simp only [orO, Bool.or_eq_true] at h
    rcases h with h | h
    · exact .inl h
    · exact .inr ⟨x, List.mem_cons_self, h⟩
  · exact .inr ⟨r, List.mem_cons_of_mem _ h1, h2⟩
theorem bits_mem {s r : Nat} (h : r ∈ bitsL s) : s.testBit r = true := by
 simp only [bitsL, List.mem_filter] at h
 exact h.2
theorem bit_lt7 {s r : Nat} (hs : s < 128) (h : s.testBit r = true) : r ≤ 6 := by
 have h1 := Nat.ge_two_pow_of_testBit h
 by_cases h6 : r ≤ 6
 · exact h6
 · have : (2 : Nat) ^ 7 ≤ 2 ^ r := Nat.pow_le_pow_right (by omega) (by omega)
   have e : (2 : Nat) ^ 7 = 128 := rfl
   omega
theorem crs_mem {row i t : Nat} (hr : row ≤ 6) (h : (crs st w v fl br row (i + 1)).testBit t = true) : ∃ r, r ≤ 6 ∧ (crs st w v fl br row i).testBit r = true ∧ (outO st w v ⟨fl, br, r, i⟩).rows.testBit t = true := by
 rcases evO_mem _ _ (show (evO st w v fl br i (bitsL (crs st w v fl br row i)) nilO).rows.testBit t = true from h) with h | ⟨r, h1, h2⟩
 · simp [nilO] at h
 · have hb := bits_mem h1
   exact ⟨r, bit_lt7 (crs_lt hr i) hb, hb, h2⟩
theorem crs_has {row i r t : Nat} (hr : row ≤ 6) (h : (crs st w v fl br row i).testBit r = true) (ht : (outO st w v ⟨fl, br, r, i⟩).rows.testBit t = true) : (crs st w v fl br row (i + 1)).testBit t = true := by
 have hlt := crs_lt (st := st) (w := w) (v := v) (fl := fl) (br := br) hr i
 exact (evO_has (st := st) (w := w) (v := v) (fl := fl) (br := br) (hour := i) (bitsL (crs st w v fl br row i)) nilO (mem_bits (by omega) h)).rows _ ht
theorem flo_mem {row i : Nat} (hr : row ≤ 6) (h : (ofO st w v fl br i (crs st w v fl br row i)).fl = true) : ∃ r a b, r < 6 ∧ (crs st w v fl br row i).testBit r = true ∧ SeaIn w v i a b ∧ liI st a b fl r = true := by
 rcases evO_memf _ _ (show (evO st w v fl br i (bitsL (crs st w v fl br row i)) nilO).fl = true from h) with h | ⟨r, h1, h2⟩
 · cases h
 · have hb := bits_mem h1
   obtain ⟨h6, a, b, hab, hl⟩ := out_memf h2
   have hle := bit_lt7 (crs_lt (st := st) (w := w) (v := v) (fl := fl) (br := br) hr i) hb
   have h6 : r ≠ 6 := h6
   exact ⟨r, a, b, by omega, hb, hab, hl⟩
theorem flo_has {row i r : Nat} {a b : Int} (hr : row ≤ 6) (h : (crs st w v fl br row i).testBit r = true) (h6 : r ≠ 6) (hab : SeaIn w v i a b) (hl : liI st a b fl r = true) : (ofO st w v fl br i (crs st w v fl br row i)).fl = true := by
 have hlt := crs_lt (st := st) (w := w) (v := v) (fl := fl) (br := br) hr i
 exact (evO_has (st := st) (w := w) (v := v) (fl := fl) (br := br) (hour := i) (bitsL (crs st w v fl br row i)) nilO (mem_bits (by omega) h)).fl ((out_has (k := ⟨fl, br, r, i⟩) h6 hab).2 hl)
theorem lost_floated {row : Nat} (hr : row < 6) : ∀ i, (crs st w v fl br row i).testBit 6 = true → ∃ j, j < i ∧ (ofO st w v fl br j (crs st w v fl br row j)).fl = true := by
 intro i
 induction i with
 | zero => intro h; have := bit_pow (q := row) h; omega
 | succ i ih =>
  intro h
  obtain ⟨r, h6, hr', ho⟩ := crs_mem (by omega) h
  by_cases e : r = 6
  · subst e
    obtain ⟨j, hj, hf⟩ := ih hr'
    exact ⟨j, by omega, hf⟩
  · rcases out_mem ho with ⟨e', _⟩ | ⟨_, a, b, hab, hq⟩
    · exact absurd e' e
    · have hq : 6 = seaR st fl br r a b := hq
      refine ⟨i, by omega, flo_has (by omega) hr' e hab ?_⟩
      cases hl : liI st a b fl r with
      | true => rfl
      | false => unfold seaR at hq; rw [if_pos hl] at hq; omega
end
def keyZ (r : Nat) : Int := if r = 6 then -1 else r
theorem keyZ_row {r : Nat} (h : r ≠ 6) : keyZ r = r := if_neg h
theorem keyZ_sw {r : Nat} (h : r < 6) : keyZ (swN r) = (r : Int) - 1 := by
 unfold swN keyZ
 by_cases h0 : r = 0
 · subst h0; rfl
 · rw [if_neg h0, if_neg (by omega)]; omega
theorem li_mono {st fl fl' : Int} {x y : Nat} {a b a' b' : Int} (h0 : 0 ≤ st) (h4 : st ≤ 4) (hx : x ≤ y) (hy : y < 6) (ha0 : 0 ≤ a') (ha : a' ≤ a) (ha2 : a ≤ 40) (hb0 : 0 ≤ b') (hb : b' ≤ b) (hb2 : b ≤ 40) (hf : fl ≤ fl') (h : liI st a' b' fl' y = true) : liI st a b fl x = true := by
 have m1 : dpF st a' y ≤ dpF st a y := dp_mono h0 h4 ha0 ha ha2 (by omega)
 obtain ⟨z, z0, z1, e1, hz⟩ := dpF_eq (a := a) (r := y) h0 h4 (by omega) ha2 (by omega)
 obtain ⟨z', z0', z1', e2, hz'⟩ := dpF_eq (a := a) (r := x) h0 h4 (by omega) ha2 (by omega)
 have hzz : z' ≤ z := by rw [hz, hz']; exact Int.mul_le_mul_of_nonneg_left (by omega) h0
 have m2 : dpF st a y ≤ dpF st a x := by rw [e1, e2]; split <;> split <;> omega
 obtain ⟨y1, y2, y3, e3, _⟩ := dpF_eq (a := a') (r := y) h0 h4 ha0 (by omega) (by omega)
 have b1 : dpF st a' y ≤ 40 := by rw [e3]; split <;> omega
 have b2 : dpF st a x ≤ 40 := by rw [e2]; split <;> omega
 have b3 : 0 ≤ dpF st a' y := by rw [e3]; split <;> omega
 have b4 : 0 ≤ dpF st a x := by rw [e2]; split <;> omega
 unfold liI at h ⊢
 rw [dp_eq] at h ⊢
 simp only [Bool.and_eq_true, decide_eq_true_eq] at h ⊢
 rw [wrapI (by omega) (by omega)] at h
 rw [wrapI (by omega) (by omega)]
 omega
section
variable {rw st : Int} {n : Nat} {w v w' v' : Nat → Sp} {fl br fl' br' : Int}
structure Holds2 (n : Nat) (w v w' v' : Nat → Sp) (fl br fl' br' : Int) : Prop where
 fl : fl ≤ fl'
 br : br ≤ br'
 sea : ∀ i, i < n → ∀ a' b', SeaIn w' v' i a' b' → ∃ a b, SeaIn w v i a b ∧ a' ≤ a ∧ b' ≤ b
theorem sea_bound (hS : SOK rw st n w v) {i : Nat} (hi : i < n) {a b : Int} (h : SeaIn w v i a b) : 0 ≤ a ∧ a ≤ 30 ∧ 0 ≤ b ∧ b ≤ 10 := by
 obtain ⟨w0, w1, w2, w3⟩ := hS.w i hi
 obtain ⟨v0, v1, v2, v3⟩ := hS.v i hi
 obtain ⟨h1, h2, h3, h4⟩ := h
 omega
theorem dom (hS : SOK rw st n w v) (hS' : SOK rw st n w' v') (hH : Holds2 n w v w' v' fl br fl' br') {x0 y0 : Nat} (hx0 : x0 ≤ y0) (hy0 : y0 < 6) : ∀ i, i ≤ n → ∀ y, (crs st w' v' fl' br' y0 i).testBit y = true → ∃ x, (crs st w v fl br x0 i).testBit x = true ∧ keyZ x ≤ keyZ y ∧ x ≤ 6 ∧ y ≤ 6 := by
 intro i
 induction i with
 | zero =>
  intro _ y hy
  obtain rfl := bit_pow (q := y0) hy
  exact ⟨x0, Nat.testBit_two_pow_self, by rw [keyZ_row (by omega), keyZ_row (by omega)]; omega, by omega, by omega⟩
 | succ i ih =>
  intro hi t ht
  obtain ⟨y, hy6, hy, ho⟩ := crs_mem (by omega) ht
  obtain ⟨x, hx, hk, hx6, _⟩ := ih (by omega) y hy
  rcases out_mem ho with ⟨e, e2⟩ | ⟨hne, a', b', hab, hq⟩
  · have e : y = 6 := e
    subst e
    subst e2
    have hx : x = 6 := by
     by_cases h : x = 6
     · exact h
     · rw [keyZ_row h] at hk; unfold keyZ at hk; rw [if_pos rfl] at hk; omega
    subst hx
    exact ⟨6, crs_has (by omega) (by assumption) (out_lost rfl), Int.le_refl _, by omega, by omega⟩
  · have hne : y ≠ 6 := hne
    have hq : t = seaR st fl' br' y a' b' := hq
    have hab : SeaIn w' v' i a' b' := hab
    have ht6 : t ≤ 6 := bit_lt7 (crs_lt (st := st) (w := w') (v := v') (fl := fl') (br := br') (row := y0) (by omega) (i + 1)) ht
    obtain ⟨a, b, hab2, la, lb⟩ := hH.sea i (by omega) a' b' hab
    by_cases hx' : x = 6
    · subst hx'
      refine ⟨6, crs_has (by omega) hx (out_lost rfl), ?_, by omega, ht6⟩
      unfold keyZ
      rw [if_pos rfl]
      split <;> omega
    · have hxy : x ≤ y := by rw [keyZ_row hx', keyZ_row hne] at hk; omega
      refine ⟨seaR st fl br x a b, crs_has (by omega) hx (out_has (k := ⟨fl, br, x, i⟩) hx' hab2).1, ?_, ?_, ht6⟩
      · obtain ⟨p1, p2, p3, p4⟩ := sea_bound hS (by omega) hab2
        obtain ⟨q1, q2, q3, q4⟩ := sea_bound hS' (by omega) hab
        have sx : keyZ (seaR st fl br x a b) ≤ x := by
         unfold seaR
         split
         · rw [keyZ_row hx']; omega
         · split
           · rw [keyZ_row hx']; omega
           · rw [keyZ_sw (by omega)]; omega
        rw [hq]
        cases hl : liI st a' b' fl' y with
        | false => rw [show seaR st fl' br' y a' b' = y from if_pos hl, keyZ_row hne]; omega
        | true =>
         have hl2 := li_mono (fl := fl) (x := x) (a := a) (b := b) hS.st0 hS.st4 hxy (by omega) q1 la (by omega) q3 lb (by omega) hH.fl hl
         by_cases hb : b' ≤ br'
         · rw [show seaR st fl' br' y a' b' = y from by unfold seaR; rw [if_neg (by rw [hl]; simp), if_pos hb], keyZ_row hne]; omega
         · have hbr := hH.br
           rw [show seaR st fl' br' y a' b' = swN y from by unfold seaR; rw [if_neg (by rw [hl]; simp), if_neg hb], show seaR st fl br x a b = swN x from by unfold seaR; rw [if_neg (by rw [hl2]; simp), if_neg (by omega)], keyZ_sw (by omega), keyZ_sw (by omega)]
           omega
      · unfold seaR
        split
        · exact hx6
        · split
          · exact hx6
          · exact swN_le hx6
theorem losN_zero {c : Nat} (h : c.testBit 6 = false) : losN c = 0 := by
 unfold losN
 rw [if_neg (fun e => by rw [e] at h; cases h), if_neg (by rw [h]; simp)]
theorem losN_bit {c : Nat} (h : losN c = 0) : c.testBit 6 = false := by
 cases hb : c.testBit 6 with
 | false => rfl
 | true =>
  unfold losN at h
  split at h
  · cases h
  · first | cases h | (rw [if_pos hb] at h; cases h)
theorem never_lost (hS : SOK rw st n w v) (hS' : SOK rw st n w' v') (hH : Holds2 n w v w' v' fl br fl' br') {x0 y0 : Nat} (hx0 : x0 ≤ y0) (hy0 : y0 < 6) (h : losN (crs st w v fl br x0 n) = 0) : losN (crs st w' v' fl' br' y0 n) = 0 := by
 refine losN_zero ?_
 cases hb : (crs st w' v' fl' br' y0 n).testBit 6 with
 | false => rfl
 | true =>
  obtain ⟨x, hx, hk, h6, _⟩ := dom hS hS' hH hx0 hy0 n (Nat.le_refl n) 6 hb
  have hx6 : x = 6 := by
   by_cases e : x = 6
   · exact e
   · rw [keyZ_row e] at hk; unfold keyZ at hk; rw [if_pos rfl] at hk; omega
  subst hx6
  rw [losN_bit h] at hx
  cases hx
theorem floats_before (hS : SOK rw st n w v) (hS' : SOK rw st n w' v') (hH : Holds2 n w v w' v' fl br fl' br') {x0 y0 : Nat} (hx0 : x0 ≤ y0) (hy0 : y0 < 6) {i : Nat} (hi : i < n) (h : (ofO st w' v' fl' br' i (crs st w' v' fl' br' y0 i)).fl = true) : ∃ j, j ≤ i ∧ (ofO st w v fl br j (crs st w v fl br x0 j)).fl = true := by
 obtain ⟨y, a', b', hy6, hy, hab, hl⟩ := flo_mem (by omega) h
 obtain ⟨x, hx, hk, hx6, _⟩ := dom hS hS' hH hx0 hy0 i (by omega) y hy
 by_cases e : x = 6
 · subst e
   obtain ⟨j, hj, hf⟩ := lost_floated (by omega) i hx
   exact ⟨j, by omega, hf⟩
 · have hxy : x ≤ y := by rw [keyZ_row e, keyZ_row (by omega)] at hk; omega
   obtain ⟨a, b, hab2, la, lb⟩ := hH.sea i hi a' b' hab
   obtain ⟨p1, p2, p3, p4⟩ := sea_bound hS hi hab2
   obtain ⟨q1, q2, q3, q4⟩ := sea_bound hS' hi hab
   exact ⟨i, Nat.le_refl i, flo_has (by omega) hx e hab2 (li_mono hS.st0 hS.st4 hxy hy6 q1 la (by omega) q3 lb (by omega) hH.fl hl)⟩
end
end Go.Ab
set_option maxRecDepth 100000
namespace Go.Ab
open Go Go.RowKit Go.Proofs
section
variable {rw st : Int} {n : Nat} {w v w' v' : Nat → Sp} {fl br fl' br' : Int}
theorem sea_key {x y : Nat} {a b a' b' : Int} (h0 : 0 ≤ st) (h4 : st ≤ 4) (hxy : x ≤ y) (hy : y < 6) (ha0 : 0 ≤ a') (ha : a' ≤ a) (ha2 : a ≤ 40) (hb0 : 0 ≤ b') (hb : b' ≤ b) (hb2 : b ≤ 40) (hf : fl ≤ fl') (hbr : br ≤ br') : keyZ (seaR st fl br x a b) ≤ keyZ (seaR st fl' br' y a' b') := by
 have sx : keyZ (seaR st fl br x a b) ≤ x := by
  unfold seaR
  split
  · rw [keyZ_row (by omega)]; omega
  · split
    · rw [keyZ_row (by omega)]; omega
    · rw [keyZ_sw (by omega)]; omega
 cases hl : liI st a' b' fl' y with
 | false =>
  rw [show seaR st fl' br' y a' b' = y from if_pos hl, keyZ_row (show y ≠ 6 by omega)]
  exact Int.le_trans sx (by omega)
 | true =>
  have hl2 := li_mono (fl := fl) (x := x) (a := a) (b := b) h0 h4 hxy hy ha0 ha ha2 hb0 hb hb2 hf hl
  by_cases hb3 : b' ≤ br'
  · rw [show seaR st fl' br' y a' b' = y from by unfold seaR; rw [if_neg (by rw [hl]; simp), if_pos hb3], keyZ_row (show y ≠ 6 by omega)]
    exact Int.le_trans sx (by omega)
  · rw [show seaR st fl' br' y a' b' = swN y from by unfold seaR; rw [if_neg (by rw [hl]; simp), if_neg hb3], show seaR st fl br x a b = swN x from by unfold seaR; rw [if_neg (by rw [hl2]; simp), if_neg (by omega)], keyZ_sw (by omega), keyZ_sw (by omega)]
    omega
def Lower (n : Nat) (w v w' v' : Nat → Sp) : Prop := ∀ i, i < n → ∀ a b, SeaIn w v i a b → ∃ a' b', SeaIn w' v' i a' b' ∧ a' ≤ a ∧ b' ≤ b
theorem seaR_le {x : Nat} {a b : Int} (hx : x ≤ 6) : seaR st fl br x a b ≤ 6 := by
 unfold seaR
 split
 · exact hx
 · split
   · exact hx
   · exact swN_le hx
theorem keyZ_ge (x : Nat) : -1 ≤ keyZ x := by unfold keyZ; split <;> omega
theorem dom2 (hS : SOK rw st n w v) (hS' : SOK rw st n w' v') (hf : fl ≤ fl') (hbr : br ≤ br') (hL : Lower n w v w' v') {x0 y0 : Nat} (hx0 : x0 ≤ y0) (hy0 : y0 < 6) : ∀ i, i ≤ n → ∀ x, (crs st w v fl br x0 i).testBit x = true → ∃ y, (crs st w' v' fl' br' y0 i).testBit y = true ∧ keyZ x ≤ keyZ y ∧ x ≤ 6 ∧ y ≤ 6 := by
 intro i
 induction i with
 | zero =>
  intro _ x hx
  obtain rfl := bit_pow (q := x0) hx
  exact ⟨y0, Nat.testBit_two_pow_self, by rw [keyZ_row (by omega), keyZ_row (by omega)]; omega, by omega, by omega⟩
 | succ i ih =>
  intro hi t ht
  obtain ⟨x, hx6, hx, ho⟩ := crs_mem (by omega) ht
  obtain ⟨y, hy, hk, _, hy6⟩ := ih (by omega) x hx
  have ht6 : t ≤ 6 := bit_lt7 (crs_lt (st := st) (w := w) (v := v) (fl := fl) (br := br) (row := x0) (by omega) (i + 1)) ht
  rcases out_mem ho with ⟨e, e2⟩ | ⟨hne, a, b, hab, hq⟩
  · subst e2
    have hmin : keyZ 6 = -1 := if_pos rfl
    by_cases e6 : y = 6
    · subst e6
      exact ⟨6, crs_has (by omega) hy (out_lost rfl), Int.le_refl _, by omega, by omega⟩
    · obtain ⟨w0, w1, _, _⟩ := hS'.w i (by omega)
      obtain ⟨v0, v1, _, _⟩ := hS'.v i (by omega)
      refine ⟨_, crs_has (by omega) hy (out_has (k := ⟨fl', br', y, i⟩) e6 (a := (w' i).lo) (b := (v' i).lo) ⟨Int.le_refl _, w1, Int.le_refl _, v1⟩).1, ?_, by omega, seaR_le hy6⟩
      rw [hmin]; exact keyZ_ge _
  · have hne : x ≠ 6 := hne
    have hq : t = seaR st fl br x a b := hq
    have hab : SeaIn w v i a b := hab
    obtain ⟨a', b', hab2, la, lb⟩ := hL i (by omega) a b hab
    obtain ⟨p1, p2, p3, p4⟩ := sea_bound hS (by omega) hab
    obtain ⟨q1, q2, q3, q4⟩ := sea_bound hS' (by omega) hab2
    have hyn : y ≠ 6 := fun e => by
     subst e
     rw [keyZ_row hne] at hk
     unfold keyZ at hk; rw [if_pos rfl] at hk; omega
    have hxy : x ≤ y := by rw [keyZ_row hne, keyZ_row hyn] at hk; omega
    have hy5 : y < 6 := by omega
    refine ⟨_, crs_has (by omega) hy (out_has (k := ⟨fl', br', y, i⟩) hyn hab2).1, ?_, ht6, seaR_le hy6⟩
    rw [hq]
    exact sea_key hS.st0 hS.st4 hxy hy5 q1 la (by omega) q3 lb (by omega) hf hbr
theorem lost_le (hS : SOK rw st n w v) (hS' : SOK rw st n w' v') (hH : Holds2 n w v w' v' fl br fl' br') (hL : Lower n w v w' v') {x0 y0 : Nat} (hx0 : x0 ≤ y0) (hy0 : y0 < 6) : losN (crs st w' v' fl' br' y0 n) ≤ losN (crs st w v fl br x0 n) := by
 have h2 : ∀ c, losN c ≤ 2 := fun c => by unfold losN; split <;> (try split) <;> omega
 by_cases c0 : losN (crs st w v fl br x0 n) = 0
 · rw [never_lost hS hS' hH hx0 hy0 c0]; omega
 · by_cases c2 : losN (crs st w v fl br x0 n) = 2
   · have := h2 (crs st w' v' fl' br' y0 n); omega
   · have h1 : losN (crs st w v fl br x0 n) = 1 := by have := h2 (crs st w v fl br x0 n); omega
     have hne : crs st w v fl br x0 n ≠ 2 ^ 6 := fun e => by rw [e] at c2; exact c2 rfl
     obtain ⟨t, ht, h6⟩ : ∃ t, (crs st w v fl br x0 n).testBit t = true ∧ t ≠ 6 := by
      apply Classical.byContradiction
      intro hno
      have hu : ∀ t, (crs st w v fl br x0 n).testBit t = true → t = 6 := fun t ht => Classical.byContradiction fun h => hno ⟨t, ht, h⟩
      by_cases hb : (crs st w v fl br x0 n).testBit 6 = true
      · apply hne
        apply Nat.eq_of_testBit_eq
        intro i
        rw [Nat.testBit_two_pow]
        by_cases e : 6 = i
        · subst e; rw [hb]; rfl
        · rw [decide_eq_false e]
          cases hi : (crs st w v fl br x0 n).testBit i with
          | false => rfl
          | true => exact absurd (hu i hi).symm e
      · exact c0 (losN_zero (by simpa using hb))
     obtain ⟨y, hy, hk, _, hy6⟩ := dom2 hS hS' hH.fl hH.br hL hx0 hy0 n (Nat.le_refl n) t ht
     have hyn : y ≠ 6 := fun e => by
      subst e
      rw [keyZ_row h6] at hk
      unfold keyZ at hk; rw [if_pos rfl] at hk; omega
     rw [h1]
     have : losN (crs st w' v' fl' br' y0 n) ≠ 2 := fun e => by
      unfold losN at e
      split at e
      · rename_i hc
        rw [hc] at hy
        exact hyn (bit_pow (q := 6) hy)
      · split at e <;> omega
     have := h2 (crs st w' v' fl' br' y0 n)
     omega
end
section
variable {y y' : Nat → Nat} {many m : Nat}
theorem best_of (y : Nat → Nat) (many m : Nat) : ∃ q, seekS (okP many m (savF y m) (limN y m)) (savF y m) (popN (savF y m) + 1) 0 = some q := best_some
def bestQ (y : Nat → Nat) (many m : Nat) : Nat := (seekS (okP many m (savF y m) (limN y m)) (savF y m) (popN (savF y m) + 1) 0).getD 0
def bestL (y : Nat → Nat) (many m : Nat) : Nat → Int := (drwG many m (savF y m) (limN y m) (bestQ y many m)).2.L
theorem bestQ_spec (y : Nat → Nat) (many m : Nat) : bestQ y many m &&& savF y m = bestQ y many m ∧ Vl (skpN (savF y m) (bestQ y many m)) (limN y m) many m (bestL y many m) ∧ (∀ Q, Vl (skpN (savF y m) (bestQ y many m)) (limN y m) many m Q → BefI m (bestL y many m) Q) ∧
    ∀ s Q, s &&& savF y m = s → Vl (skpN (savF y m) s) (limN y m) many m Q → popN (bestQ y many m) < popN s ∨ (popN (bestQ y many m) = popN s ∧ bestQ y many m ≤ s) := by
 obtain ⟨q, hq⟩ := best_of y many m
 have e : bestQ y many m = q := by unfold bestQ; rw [hq]; rfl
 unfold bestL
 rw [e]
 exact best_spec hq
theorem best_right (y : Nat → Nat) (many m : Nat) : okA y many (bestL y many m) m = true ∧ outR y (bestL y many m) m = bestQ y many m := by
 obtain ⟨h1, h2, _, _⟩ := bestQ_spec y many m
 exact right_of h1 h2
theorem best_least {Q : Nat → Int} (h : okA y many Q m = true) : popN (bestQ y many m) < popN (outR y Q m) ∨ (popN (bestQ y many m) = popN (outR y Q m) ∧ bestQ y many m ≤ outR y Q m) := by
 obtain ⟨h1, h2⟩ := right_vl h
 exact (bestQ_spec y many m).2.2.2 _ Q h2 h1
end
end Go.Ab
set_option maxRecDepth 100000
namespace Go.Ab
open Go Go.RowKit Go.Proofs
theorem f27all (R : Nat → ARes → Prop) : (Nat.rec True (fun i ih => vx.call 27 [I (i : Int)] (retK (R i)) m2d [] ∧ ih) 32 : Prop) = (Nat.rec True (fun i ih => R i (.ret (I ((popN i : Nat) : Int))) ∧ ih) 32 : Prop) := by kernel_rfl
noncomputable def C27 (s : Nat) : Con where
 A := .hole .nil
 bs := [.dead, .dead]
 pre y := y = ⟨⟨[I s], []⟩, []⟩
 res _ := .ret (I (popN s : Nat))
theorem C27_ok {s : Nat} (hs : s < 32) : ConOK Tryd.prog 27 (C27 s) := by
 have hall := (f27all fun i r => r = .ret (I ((popN i : Nat) : Int))).mpr (rec_all (P := fun i => (ARes.ret (I ((popN i : Nat) : Int))) = ARes.ret (I ((popN i : Nat) : Int))) (n := 32) fun i _ => rfl)
 have one := rec_get (P := fun i => vx.call 27 [I (i : Int)] (retK fun r => r = .ret (I ((popN i : Nat) : Int))) m2d []) hall s hs
 refine con_of vx_sound _ (fun y hy => ?_) rfl (fun y _ => rfl) (fun y hy => ?_) rfl (Nat.le_of_ble_eq_true rfl) (by rw [nglob]; exact Nat.le_of_ble_eq_true rfl)
 · cases hy
   exact ⟨_, one⟩
 · cases hy
   intro cs hcs
   cases hcs
end Go.Ab
