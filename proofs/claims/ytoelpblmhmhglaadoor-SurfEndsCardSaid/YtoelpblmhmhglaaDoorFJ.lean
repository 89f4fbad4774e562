/- package surf: what comes of an hour, sea by sea; a hut that is farther in, or more is held, never is farther out. -/
import Derived.Test.YtoelpblmhmhglaaDoorEZ
set_option maxRecDepth 100000
namespace Go.Ab
open Go Go.RowKit Go.Proofs
def seaR (st fl br : Int) (row : Nat) (a b : Int) : Nat := if liI st a b fl row = false then row else if b ≤ br then row else swN row
theorem seaO_rows {st : Int} {k : Key} {a b : Int} : (seaO st k a b).rows = 2 ^ seaR st k.fl k.br k.row a b := by
 unfold seaO seaR
 split
 · rfl
 · split <;> rfl
theorem seaO_fl {st : Int} {k : Key} {a b : Int} : (seaO st k a b).fl = liI st a b k.fl k.row := by
 unfold seaO
 split
 · rename_i h; rw [h]
 · rename_i h
   split
   · simpa using h
   · simpa using h
theorem bit_pow {q t : Nat} (h : (2 ^ q).testBit t = true) : t = q := by
 rw [Nat.testBit_two_pow] at h
 exact (of_decide_eq_true h).symm
section
variable {st : Int} {k : Key}
theorem inO_mem {a va : Int} {o : Out} {t : Nat} (c : Nat) (h : (inO st k a va o c).rows.testBit t = true) : o.rows.testBit t = true ∨ ∃ j, j < c ∧ (seaO st k a (va + (j : Nat))).rows.testBit t = true := by
 induction c with
 | zero => exact .inl h
 | succ c ih =>
  simp only [inO, orO, Nat.testBit_or, Bool.or_eq_true] at h
  rcases h with h | h
  · rcases ih h with h | ⟨j, h1, h2⟩
    · exact .inl h
    · exact .inr ⟨j, by omega, h2⟩
  · exact .inr ⟨c, by omega, h⟩
theorem inO_memf {a va : Int} {o : Out} (c : Nat) (h : (inO st k a va o c).fl = true) : o.fl = true ∨ ∃ j, j < c ∧ (seaO st k a (va + (j : Nat))).fl = true := by
 induction c with
 | zero => exact .inl h
 | succ c ih =>
  simp only [inO, orO, Bool.or_eq_true] at h
  rcases h with h | h
  · rcases ih h with h | ⟨j, h1, h2⟩
    · exact .inl h
    · exact .inr ⟨j, by omega, h2⟩
  · exact .inr ⟨c, by omega, h⟩
theorem thO_mem {wa va : Int} {c t : Nat} (r : Nat) (h : (thO st k wa va c r).rows.testBit t = true) : ∃ i j, i < r ∧ j < c ∧ (seaO st k (wa + (i : Nat)) (va + (j : Nat))).rows.testBit t = true := by
 induction r with
 | zero => simp [thO, nilO] at h
 | succ r ih =>
  rcases inO_mem c h with h | ⟨j, h1, h2⟩
  · obtain ⟨i, j, h1, h2, h3⟩ := ih h
    exact ⟨i, j, by omega, h2, h3⟩
  · exact ⟨r, j, by omega, h1, h2⟩
theorem thO_memf {wa va : Int} {c : Nat} (r : Nat) (h : (thO st k wa va c r).fl = true) : ∃ i j, i < r ∧ j < c ∧ (seaO st k (wa + (i : Nat)) (va + (j : Nat))).fl = true := by
 induction r with
 | zero => simp [thO, nilO] at h
 | succ r ih =>
  rcases inO_memf c h with h | ⟨j, h1, h2⟩
  · obtain ⟨i, j, h1, h2, h3⟩ := ih h
    exact ⟨i, j, by omega, h2, h3⟩
  · exact ⟨r, j, by omega, h1, h2⟩
def SeaIn (w v : Nat → Sp) (hour : Nat) (a b : Int) : Prop := (w hour).lo ≤ a ∧ a ≤ (w hour).hi ∧ (v hour).lo ≤ b ∧ b ≤ (v hour).hi
theorem out_mem {w v : Nat → Sp} {t : Nat} (h : (outO st w v k).rows.testBit t = true) : (k.row = 6 ∧ t = 6) ∨ (k.row ≠ 6 ∧ ∃ a b, SeaIn w v k.hour a b ∧ t = seaR st k.fl k.br k.row a b) := by
 unfold outO at h
 split at h
 · rename_i h6
   exact .inl ⟨h6, bit_pow (q := 6) h⟩
 · rename_i h6
   obtain ⟨i, j, h1, h2, h3⟩ := thO_mem _ h
   rw [seaO_rows] at h3
   unfold rdN at h1 h2
   exact .inr ⟨h6, _, _, ⟨by omega, by omega, by omega, by omega⟩, bit_pow h3⟩
theorem out_memf {w v : Nat → Sp} (h : (outO st w v k).fl = true) : k.row ≠ 6 ∧ ∃ a b, SeaIn w v k.hour a b ∧ liI st a b k.fl k.row = true := by
 unfold outO at h
 split at h
 · cases h
 · rename_i h6
   obtain ⟨i, j, h1, h2, h3⟩ := thO_memf _ h
   rw [seaO_fl] at h3
   unfold rdN at h1 h2
   exact ⟨h6, _, _, ⟨by omega, by omega, by omega, by omega⟩, h3⟩
end
section
variable {st : Int} {w v : Nat → Sp} {fl br : Int}
theorem evO_mem {hour t : Nat} : ∀ (l : List Nat) (o : Out), (evO st w v fl br hour l o).rows.testBit t = true → o.rows.testBit t = true ∨ ∃ r, r ∈ l ∧ (outO st w v ⟨fl, br, r, hour⟩).rows.testBit t = true
 | [], o, h => .inl h
 | x :: l, o, h => by
  rcases evO_mem l _ h with h | ⟨r, h1, h2⟩
  · simp only [orO, Nat.testBit_or, Bool.or_eq_true] at h
    rcases h with h | h
    · exact .inl h
    · exact .inr ⟨x, List.mem_cons_self, h⟩
  · exact .inr ⟨r, List.mem_cons_of_mem _ h1, h2⟩
theorem evO_memf {hour : Nat} : ∀ (l : List Nat) (o : Out), (evO st w v fl br hour l o).fl = true → o.fl = true ∨ ∃ r, r ∈ l ∧ (outO st w v ⟨fl, br, r, hour⟩).fl = true
 | [], o, h => .inl h
 | x :: l, o, h => by
  rcases evO_memf l _ h with h | ⟨r, h1, h2⟩
  · simp only [orO, Bool.or_eq_true] at h
    rcases h with h | h
    · exact .inl h
    · exact .inr ⟨x, List.mem_cons_self, h⟩
  · exact .inr ⟨r, List.mem_cons_of_mem _ h1, h2⟩
theorem bits_mem {s r : Nat} (h : r ∈ bitsL s) : s.testBit r = true := by
 simp only [bitsL, List.mem_filter] at h
 exact h.2
theorem bit_lt7 {s r : Nat} (hs : s < 128) (h : s.testBit r = true) : r ≤ 6 := by
 have h1 := Nat.ge_two_pow_of_testBit h
 by_cases h6 : r ≤ 6
 · exact h6
 · have : (2 : Nat) ^ 7 ≤ 2 ^ r := Nat.pow_le_pow_right (by omega) (by omega)
   have e : (2 : Nat) ^ 7 = 128 := rfl
   omega
theorem crs_mem {row i t : Nat} (hr : row ≤ 6) (h : (crs st w v fl br row (i + 1)).testBit t = true) : ∃ r, r ≤ 6 ∧ (crs st w v fl br row i).testBit r = true ∧ (outO st w v ⟨fl, br, r, i⟩).rows.testBit t = true := by
 rcases evO_mem _ _ (show (evO st w v fl br i (bitsL (crs st w v fl br row i)) nilO).rows.testBit t = true from h) with h | ⟨r, h1, h2⟩
 · simp [nilO] at h
 · have hb := bits_mem h1
   exact ⟨r, bit_lt7 (crs_lt hr i) hb, hb, h2⟩
theorem flo_mem {row i : Nat} (hr : row ≤ 6) (h : (ofO st w v fl br i (crs st w v fl br row i)).fl = true) : ∃ r a b, r < 6 ∧ (crs st w v fl br row i).testBit r = true ∧ SeaIn w v i a b ∧ liI st a b fl r = true := by
 rcases evO_memf _ _ (show (evO st w v fl br i (bitsL (crs st w v fl br row i)) nilO).fl = true from h) with h | ⟨r, h1, h2⟩
 · cases h
 · have hb := bits_mem h1
   obtain ⟨h6, a, b, hab, hl⟩ := out_memf h2
   have hle := bit_lt7 (crs_lt (st := st) (w := w) (v := v) (fl := fl) (br := br) hr i) hb
   have h6 : r ≠ 6 := h6
   exact ⟨r, a, b, by omega, hb, hab, hl⟩
end
end Go.Ab
set_option maxRecDepth 100000
namespace Go.Ab
open Go Go.RowKit Go.Proofs
def ptS (o : Nat → Int) (i : Nat) : Sp := ⟨o i, o i⟩
theorem seaO_re {st : Int} {k : Key} {a b : Int} : (seaO st k a b).re = !liI st a b k.fl k.row := by
 unfold seaO
 split
 · rename_i h; rw [h]; rfl
 · rename_i h
   have h : liI st a b k.fl k.row = true := by simpa using h
   rw [h]
   split <;> rfl
section
variable {st : Int} {k : Key}
theorem inO_memr {a va : Int} {o : Out} (c : Nat) (h : (inO st k a va o c).re = true) : o.re = true ∨ ∃ j, j < c ∧ (seaO st k a (va + (j : Nat))).re = true := by
 induction c with
 | zero => exact .inl h
 | succ c ih =>
  simp only [inO, orO, Bool.or_eq_true] at h
  rcases h with h | h
  · rcases ih h with h | ⟨j, h1, h2⟩
    · exact .inl h
    · exact .inr ⟨j, by omega, h2⟩
  · exact .inr ⟨c, by omega, h⟩
theorem thO_memr {wa va : Int} {c : Nat} (r : Nat) (h : (thO st k wa va c r).re = true) : ∃ i j, i < r ∧ j < c ∧ (seaO st k (wa + (i : Nat)) (va + (j : Nat))).re = true := by
 induction r with
 | zero => simp [thO, nilO] at h
 | succ r ih =>
  rcases inO_memr c h with h | ⟨j, h1, h2⟩
  · obtain ⟨i, j, h1, h2, h3⟩ := ih h
    exact ⟨i, j, by omega, h2, h3⟩
  · exact ⟨r, j, by omega, h1, h2⟩
theorem out_memr {w v : Nat → Sp} (h : (outO st w v k).re = true) : k.row = 6 ∨ (k.row ≠ 6 ∧ ∃ a b, SeaIn w v k.hour a b ∧ liI st a b k.fl k.row = false) := by
 unfold outO at h
 split at h
 · rename_i h6; exact .inl h6
 · rename_i h6
   obtain ⟨i, j, h1, h2, h3⟩ := thO_memr _ h
   rw [seaO_re] at h3
   unfold rdN at h1 h2
   have h4 : liI st ((w k.hour).lo + (i : Nat)) ((v k.hour).lo + (j : Nat)) k.fl k.row = false := by simpa using h3
   exact .inr ⟨h6, _, _, ⟨by omega, by omega, by omega, by omega⟩, h4⟩
end
theorem evO_memr {st : Int} {w v : Nat → Sp} {fl br : Int} {hour : Nat} : ∀ (l : List Nat) (o : Out), (evO st w v fl br hour l o).re = true → o.re = true ∨ ∃ r, r ∈ l ∧ (outO st w v ⟨fl, br, r, hour⟩).re = true
 | [], o, h => .inl h
 | x :: l, o, h => by
  rcases evO_memr l _ h with h | ⟨r, h1, h2⟩
  · simp only [orO, Bool.or_eq_true] at h
    rcases h with h | h
    · exact .inl h
    · exact .inr ⟨x, List.mem_cons_self, h⟩
  · exact .inr ⟨r, List.mem_cons_of_mem _ h1, h2⟩
theorem re_mem {st : Int} {w v : Nat → Sp} {fl br : Int} {row i : Nat} (h : (ofO st w v fl br i (crs st w v fl br row i)).re = true) : ∃ r, (crs st w v fl br row i).testBit r = true ∧ (r = 6 ∨ (r ≠ 6 ∧ ∃ a b, SeaIn w v i a b ∧ liI st a b fl r = false)) := by
 rcases evO_memr _ _ (show (evO st w v fl br i (bitsL (crs st w v fl br row i)) nilO).re = true from h) with h | ⟨r, h1, h2⟩
 · cases h
 · exact ⟨r, bits_mem h1, out_memr h2⟩
section
variable {st fl br : Int} {n row : Nat} {wt vt : Nat → Int}
theorem seaR_nx {r : Int} {a b : Int} (h6 : r < 6) (h0 : 0 ≤ r) : seaR st fl br (rowN r) a b = rowN (nxF st fl br r a b) := by
 obtain ⟨q, rfl⟩ := Int.eq_ofNat_of_zero_le h0
 have e : rowN (q : Int) = q := by unfold rowN; rw [if_neg (by omega)]; rfl
 have hwr : IntKind.i64.wrap ((q : Int) - 1) = (q : Int) - 1 := wrapI (by omega) (by omega)
 rw [e]
 unfold seaR nxF
 rw [is_li]
 cases hl : liI st a b fl q with
 | false => rw [if_pos rfl, if_neg (fun h => by cases h.1), e]
 | true =>
  rw [if_neg (by simp)]
  by_cases hb : b ≤ br
  · rw [if_pos hb, if_neg (fun h => by omega), e]
  · rw [if_neg hb, if_pos ⟨rfl, by omega⟩, hwr]
    unfold rowN swN
    by_cases h0 : q = 0
    · subst h0; rfl
    · rw [if_neg h0, if_neg (by omega)]; omega
end
end Go.Ab
