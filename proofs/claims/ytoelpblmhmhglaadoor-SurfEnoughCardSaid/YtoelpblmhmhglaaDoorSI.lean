/- what slices of spans, of huts and of numbers that a row hands in are, in a world. -/
import Derived.Test.YtoelpblmhmhglaaDoorSH
import Derived.WalkKit
import Derived.ProofKit
import Derived.OpenShut
import Derived.ChangeSame
import Derived.Deep.Slices
import Derived.Deep.Strs
import Derived.Test.YtoelpblmhmhglaaDoorRZ
set_option maxRecDepth 100000
namespace Go.Ab
open Go Go.RowKit Go.Proofs Go.ChangeShapes Go.WideShapes Go.Deep
theorem cells45 : Tryd.prog.cellsOf 45 = 2 := by kernel_rfl
theorem cells36 : Tryd.prog.cellsOf 36 = 3 := by kernel_rfl
theorem cells25 : Tryd.prog.cellsOf 25 = 5 := by kernel_rfl
theorem cell_block {W : World} {a : Addr} {i : Nat} {v : Value} (h : W.cell? (a.add i) = some v) : ∃ c t fr, W.heap[a.block]? = some (.cells c t fr) ∧ c[a.off + i]? = some v ∧ (i = 0 → a.spot = none) := by
  unfold World.cell? Addr.add at h
  by_cases h0 : i = 0
  · subst h0
    rw [if_pos rfl] at h
    split at h
    · rename_i c t fr hc
      split at h
      · cases h
      · rename_i hs
        exact ⟨c, t, fr, hc, h, fun _ => by cases hsp : a.spot with
          | none => rfl
          | some x => rw [hsp] at hs; exact absurd rfl hs⟩
    · cases h
  · rw [if_neg h0] at h
    split at h
    · rename_i c t fr hc
      exact ⟨c, t, fr, hc, h, fun h1 => absurd h1 h0⟩
    · cases h
theorem wf_u8 {n : Int} (h : (Lit.int .u8 n).wf = true) : 0 ≤ n ∧ n < 256 := by
  simp only [Lit.wf, Bool.and_eq_true, decide_eq_true_eq] at h
  have h1 : IntKind.min .u8 ≤ n := h.1
  have h2 : n ≤ IntKind.max .u8 := h.2
  have e1 : IntKind.min .u8 = 0 := by decide
  have e2 : IntKind.max .u8 = 255 := by decide
  omega
section
variable {H : Type} {enc : TypeId × Value → H} {W : World}
theorem rows_in {α : Type} [Inhabited α] {k : Nat} {t e : TypeId} {gV : α → List Value} (ht : Tryd.prog.underlying t = some (.slice e)) (hc : Tryd.prog.cellsOf e = k) (hk : ∀ z, (gV z).length = k) (h0 : 0 < k) (hat : ∀ z, ∀ v ∈ gV z, atomic v = true)
    (one : ∀ {fuel : Nat} {cs : List Value} {x : DataW H × List MemPlace}, DataW.trod enc Tryd.prog W 0 (fun _ => true) true fuel e cs = some x → ∃ z, cs = gV z) (hz : ∃ c t fr, W.heap[1]? = some (.cells c t fr))
    {fuel : Nat} {v : Value} {x : DataW H × List MemPlace} (h : DataW.trod enc Tryd.prog W 0 (fun _ => true) true fuel t [v] = some x) :
    v = .slice none 0 0 ∨ ∃ (n : Nat) (f : Nat → α), SlIn W v n (flatC n fun i => gV (f i)) := by
  rcases open_slice ht h with ⟨h0, _⟩ | ⟨a, len, cap, m, n, D, Pl, hv, _, hl, _, hm, _, hx⟩
  · exact Or.inl (List.cons.inj h0).1
  right
  obtain rfl := (List.cons.inj hv).1
  have hm : m = cap := by simpa using hm
  subst hm
  rw [hc] at hx
  rcases Nat.eq_zero_or_pos m with hm0 | hm0
  · subst hm0
    obtain rfl : len = 0 := by omega
    exact ⟨0, fun _ => default, SlIn.zero hz⟩
  · have each : ∀ i, i < m → ∃ z : α, ∀ j, j < k → W.cell? ((a.add (i * k)).add j) = (gV z)[j]? := by
      intro i hi
      obtain ⟨cs', h1, h2⟩ := hx i hi
      obtain ⟨z, rfl⟩ := one h2
      exact ⟨z, (World.cells?_some h1).2.2⟩
    obtain ⟨f, hf⟩ := choose_lt (α := α) each
    have cellOf : ∀ i j, i < m → j < k → W.cell? (a.add (i * k + j)) = (gV (f i))[j]? := fun i j hi hj => by rw [← add_add]; exact hf i hi j hj
    have hg0 : 0 < (gV (f 0)).length := by rw [hk]; exact h0
    obtain ⟨c, t, fr, hcb, _, hsp⟩ := cell_block (show W.cell? (a.add 0) = some ((gV (f 0))[0]) from by
      have := cellOf 0 0 hm0 h0
      rw [show 0 * k + 0 = 0 by omega, List.getElem?_eq_getElem hg0] at this
      exact this)
    have hsp := hsp rfl
    refine ⟨len, f, ?_⟩
    have hR : RcHolds W (⟨a.block, a.off, 0⟩, some (flatC len fun i => gV (f i), 1)) := by
      intro q hq
      cases hq
      refine ⟨c, t, fr, hcb, fun j v hj => ?_⟩
      have hlen := flatC_len (n := len) (k := k) (g := fun i => gV (f i)) (fun _ _ => hk _)
      have hj : (flatC len fun i => gV (f i))[j]? = some v := hj
      have hjl : j < len * k := by
        have := (List.getElem?_eq_some_iff.1 hj).1
        omega
      have hi : j / k < len := Nat.div_lt_of_lt_mul (by rw [Nat.mul_comm]; exact hjl)
      have hr : j % k < k := Nat.mod_lt _ h0
      have hjk : j / k * k + j % k = j := by rw [Nat.mul_comm]; exact Nat.div_add_mod j k
      have e := flatC_get (n := len) (k := k) (g := fun i => gV (f i)) (fun _ _ => hk _) hi hr
      rw [hjk, hj] at e
      have e2 := cellOf (j / k) (j % k) (by omega) hr
      rw [hjk, ← e] at e2
      refine ⟨flatC_atomic (n := len) (g := fun i => gV (f i)) (fun i _ w hw => hat _ w hw) v (List.mem_of_getElem? hj), ?_⟩
      obtain ⟨c', t', fr', hc', hv', _⟩ := cell_block e2
      rw [hcb] at hc'
      cases hc'
      exact hv'
    obtain ⟨b, o, s⟩ := a
    cases hsp
    exact SlIn.at hl hR
theorem int_in {fuel : Nat} {cs : List Value} {x : DataW H × List MemPlace} (h : DataW.trod enc Tryd.prog W 0 (fun _ => true) true fuel 3 cs = some x) : ∃ z : Int, cs = [I z] := by
  obtain ⟨z, h1, _, _⟩ := DataW.trod_int Tryd.underlying3 h
  exact ⟨z, h1⟩
theorem span_in {fuel : Nat} {cs : List Value} {x : DataW H × List MemPlace} (h : DataW.trod enc Tryd.prog W 0 (fun _ => true) true fuel 45 cs = some x) : ∃ m : Sp, cs = spV m := by
  obtain ⟨y0, y1, n, _, hl, h0, h1⟩ := trod_struct2 Tryd.underlying45 h
  rw [cells45] at hl
  match cs, hl with
  | [w0, w1], _ =>
    obtain ⟨a, ha⟩ := int_in h0
    obtain ⟨b, hb⟩ := int_in h1
    have ha : [w0] = [I a] := ha
    have hb : [w1] = [I b] := hb
    cases ha; cases hb
    exact ⟨⟨a, b⟩, rfl⟩
theorem hut_in {fuel : Nat} {cs : List Value} {x : DataW H × List MemPlace} (h : DataW.trod enc Tryd.prog W 0 (fun _ => true) true fuel 36 cs = some x) : ∃ m : Raw, cs = raV m := by
  obtain ⟨y0, y1, y2, n, _, hl, h0, h1, h2⟩ := trod_struct3 Tryd.underlying36 h
  rw [cells36] at hl
  match cs, hl with
  | [w0, w1, w2], _ =>
    obtain ⟨a, ha⟩ := int_in h0
    obtain ⟨b, hb⟩ := int_in h1
    obtain ⟨c, hc⟩ := int_in h2
    have ha : [w0] = [I a] := ha
    have hb : [w1] = [I b] := hb
    have hc : [w2] = [I c] := hc
    cases ha; cases hb; cases hc
    exact ⟨⟨a, b, c⟩, rfl⟩
def SpsIn (W : World) (v : Value) : Prop := v = .slice none 0 0 ∨ ∃ (n : Nat) (f : Nat → Sp), SlIn W v n (spL n f)
def HutsIn (W : World) (v : Value) : Prop := v = .slice none 0 0 ∨ ∃ (n : Nat) (f : Nat → Raw), SlIn W v n (raL n f)
theorem sps_in (hz : ∃ c t fr, W.heap[1]? = some (.cells c t fr)) {fuel : Nat} {v : Value} {x : DataW H × List MemPlace} (h : DataW.trod enc Tryd.prog W 0 (fun _ => true) true fuel 22 [v] = some x) : SpsIn W v := by
  haveI : Inhabited Sp := ⟨⟨0, 0⟩⟩
  refine rows_in (k := 2) (gV := spV) Tryd.underlying22 cells45 (fun _ => rfl) (by omega) (fun z v hv => ?_) span_in hz h
  have hv : v ∈ [I z.lo, I z.hi] := hv
  simp only [List.mem_cons, List.not_mem_nil, or_false] at hv
  rcases hv with rfl | rfl <;> rfl
theorem huts_in (hz : ∃ c t fr, W.heap[1]? = some (.cells c t fr)) {fuel : Nat} {v : Value} {x : DataW H × List MemPlace} (h : DataW.trod enc Tryd.prog W 0 (fun _ => true) true fuel 23 [v] = some x) : HutsIn W v := by
  haveI : Inhabited Raw := ⟨⟨0, 0, 0⟩⟩
  refine rows_in (k := 3) (gV := raV) Tryd.underlying23 cells36 (fun _ => rfl) (by omega) (fun z v hv => ?_) hut_in hz h
  have hv : v ∈ [I z.fl, I z.br, I z.row] := hv
  simp only [List.mem_cons, List.not_mem_nil, or_false] at hv
  rcases hv with rfl | rfl | rfl <;> rfl
theorem surf_in (hz : ∃ c t fr, W.heap[1]? = some (.cells c t fr)) {fuel : Nat} {cs : List Value} {x : DataW H × List MemPlace} (h : DataW.trod enc Tryd.prog W 0 (fun _ => true) true fuel 25 cs = some x) :
    ∃ (rw st : Int) (a b c : Value), cs = [I rw, I st, a, b, c] ∧ SpsIn W a ∧ SpsIn W b ∧ HutsIn W c := by
  obtain ⟨xs, n, _, hxs, hl, hlen, hf⟩ := DataW.trod_struct Tryd.underlying25 h
  rw [cells25] at hl
  match cs, hl with
  | [w0, w1, w2, w3, w4], _ =>
    match xs, hlen with
    | [y0, y1, y2, y3, y4], _ =>
      obtain ⟨p, hp⟩ := int_in (hf 0 _ rfl)
      obtain ⟨q, hq⟩ := int_in (hf 1 _ rfl)
      have hp : [w0] = [I p] := hp
      have hq : [w1] = [I q] := hq
      cases hp; cases hq
      exact ⟨p, q, w2, w3, w4, rfl, sps_in hz (show DataW.trod enc Tryd.prog W 0 (fun _ => true) true n 22 [w2] = some y2 from hf 2 _ rfl), sps_in hz (show DataW.trod enc Tryd.prog W 0 (fun _ => true) true n 22 [w3] = some y3 from hf 3 _ rfl), huts_in hz (show DataW.trod enc Tryd.prog W 0 (fun _ => true) true n 23 [w4] = some y4 from hf 4 _ rfl)⟩
end
end Go.Ab
set_option maxRecDepth 100000
namespace Go.Ab
open Go Go.RowKit Go.Proofs
section
variable {W : World}
def gl0 : RoC := (⟨0, 0, 0⟩, none)
noncomputable def gl1 : RoC := (⟨1, 0, 0⟩, some (tabC, 1))
def no0 : RoC := (⟨0, 0, 0⟩, none)
theorem gl_ok {l : List RoC} (g : Nat) (hg : g < Tryd.prog.globals.size) : ((gl0 :: gl1 :: l)[g]?).map (·.1) = some ⟨g, 0, 0⟩ := by
  rw [nglob] at hg
  obtain rfl | rfl : g = 0 ∨ g = 1 := by omega
  · rfl
  · rfl
theorem nil_rel {m : NMap} : VRel m nilS (.slice none 0 0) := .atom rfl .nil
end
end Go.Ab
set_option maxRecDepth 100000
namespace Go.Ab
open Go Go.RowKit Go.Proofs
def seaR (st fl br : Int) (row : Nat) (a b : Int) : Nat := if liI st a b fl row = false then row else if b ≤ br then row else swN row
theorem seaO_rows {st : Int} {k : Key} {a b : Int} : (seaO st k a b).rows = 2 ^ seaR st k.fl k.br k.row a b := by
  unfold seaO seaR
  split
  · rfl
  · split <;> rfl
theorem seaO_fl {st : Int} {k : Key} {a b : Int} : (seaO st k a b).fl = liI st a b k.fl k.row := by
  unfold seaO
  split
  · rename_i h; rw [h]
  · rename_i h
    split
    · simpa using h
    · simpa using h
theorem bit_pow {q t : Nat} (h : (2 ^ q).testBit t = true) : t = q := by
  rw [Nat.testBit_two_pow] at h
  exact (of_decide_eq_true h).symm
section
variable {st : Int} {k : Key}
theorem inO_mem {a va : Int} {o : Out} {t : Nat} (c : Nat) (h : (inO st k a va o c).rows.testBit t = true) : o.rows.testBit t = true ∨ ∃ j, j < c ∧ (seaO st k a (va + (j : Nat))).rows.testBit t = true := by
  induction c with
  | zero => exact .inl h
  | succ c ih =>
    simp only [inO, orO, Nat.testBit_or, Bool.or_eq_true] at h
    rcases h with h | h
    · rcases ih h with h | ⟨j, h1, h2⟩
      · exact .inl h
      · exact .inr ⟨j, by omega, h2⟩
    · exact .inr ⟨c, by omega, h⟩
theorem inO_memf {a va : Int} {o : Out} (c : Nat) (h : (inO st k a va o c).fl = true) : o.fl = true ∨ ∃ j, j < c ∧ (seaO st k a (va + (j : Nat))).fl = true := by
  induction c with
  | zero => exact .inl h
  | succ c ih =>
    simp only [inO, orO, Bool.or_eq_true] at h
    rcases h with h | h
    · rcases ih h with h | ⟨j, h1, h2⟩
      · exact .inl h
      · exact .inr ⟨j, by omega, h2⟩
    · exact .inr ⟨c, by omega, h⟩
theorem thO_mem {wa va : Int} {c t : Nat} (r : Nat) (h : (thO st k wa va c r).rows.testBit t = true) : ∃ i j, i < r ∧ j < c ∧ (seaO st k (wa + (i : Nat)) (va + (j : Nat))).rows.testBit t = true := by
  induction r with
  | zero => simp [thO, nilO] at h
  | succ r ih =>
    rcases inO_mem c h with h | ⟨j, h1, h2⟩
    · obtain ⟨i, j, h1, h2, h3⟩ := ih h
      exact ⟨i, j, by omega, h2, h3⟩
    · exact ⟨r, j, by omega, h1, h2⟩
theorem thO_memf {wa va : Int} {c : Nat} (r : Nat) (h : (thO st k wa va c r).fl = true) : ∃ i j, i < r ∧ j < c ∧ (seaO st k (wa + (i : Nat)) (va + (j : Nat))).fl = true := by
  induction r with
  | zero => simp [thO, nilO] at h
  | succ r ih =>
    rcases inO_memf c h with h | ⟨j, h1, h2⟩
    · obtain ⟨i, j, h1, h2, h3⟩ := ih h
      exact ⟨i, j, by omega, h2, h3⟩
    · exact ⟨r, j, by omega, h1, h2⟩
def SeaIn (w v : Nat → Sp) (hour : Nat) (a b : Int) : Prop := (w hour).lo ≤ a ∧ a ≤ (w hour).hi ∧ (v hour).lo ≤ b ∧ b ≤ (v hour).hi
theorem out_mem {w v : Nat → Sp} {t : Nat} (h : (outO st w v k).rows.testBit t = true) : (k.row = 6 ∧ t = 6) ∨ (k.row ≠ 6 ∧ ∃ a b, SeaIn w v k.hour a b ∧ t = seaR st k.fl k.br k.row a b) := by
  unfold outO at h
  split at h
  · rename_i h6
    exact .inl ⟨h6, bit_pow (q := 6) h⟩
  · rename_i h6
    obtain ⟨i, j, h1, h2, h3⟩ := thO_mem _ h
    rw [seaO_rows] at h3
    unfold rdN at h1 h2
    exact .inr ⟨h6, _, _, ⟨by omega, by omega, by omega, by omega⟩, bit_pow h3⟩
theorem out_memf {w v : Nat → Sp} (h : (outO st w v k).fl = true) : k.row ≠ 6 ∧ ∃ a b, SeaIn w v k.hour a b ∧ liI st a b k.fl k.row = true := by
  unfold outO at h
  split at h
  · cases h
  · rename_i h6
    obtain ⟨i, j, h1, h2, h3⟩ := thO_memf _ h
    rw [seaO_fl] at h3
    unfold rdN at h1 h2
    exact ⟨h6, _, _, ⟨by omega, by omega, by omega, by omega⟩, h3⟩
theorem out_has {w v : Nat → Sp} {a b : Int} (h6 : k.row ≠ 6) (h : SeaIn w v k.hour a b) : (outO st w v k).rows.testBit (seaR st k.fl k.br k.row a b) = true ∧ (liI st a b k.fl k.row = true → (outO st w v k).fl = true) := by
  have hl := livO_has (st := st) (k := k) h.1 h.2.1 h.2.2.1 h.2.2.2
  have ho : outO st w v k = livO st w v k := if_neg h6
  rw [ho]
  refine ⟨hl.rows _ ?_, fun hb => hl.fl ?_⟩
  · rw [seaO_rows]; exact Nat.testBit_two_pow_self
  · rw [seaO_fl]; exact hb
theorem out_lost {w v : Nat → Sp} (h6 : k.row = 6) : (outO st w v k).rows.testBit 6 = true := by
  unfold outO; rw [if_pos h6]; rfl
end
section
variable {st : Int} {w v : Nat → Sp} {fl br : Int}
theorem evO_mem {hour t : Nat} : ∀ (l : List Nat) (o : Out), (evO st w v fl br hour l o).rows.testBit t = true → o.rows.testBit t = true ∨ ∃ r, r ∈ l ∧ (outO st w v ⟨fl, br, r, hour⟩).rows.testBit t = true
  | [], o, h => .inl h
  | x :: l, o, h => by
    rcases evO_mem l _ h with h | ⟨r, h1, h2⟩
    · simp only [orO, Nat.testBit_or, Bool.or_eq_true] at h
      rcases h with h | h
      · exact .inl h
      · exact .inr ⟨x, List.mem_cons_self, h⟩
    · exact .inr ⟨r, List.mem_cons_of_mem _ h1, h2⟩
theorem evO_memf {hour : Nat} : ∀ (l : List Nat) (o : Out), (evO st w v fl br hour l o).fl = true → o.fl = true ∨ ∃ r, r ∈ l ∧ (outO st w v ⟨fl, br, r, hour⟩).fl = true
  | [], o, h => .inl h
  | x :: l, o, h => by
    rcases evO_memf l _ h with h | ⟨r, h1, h2⟩
    · simp only [orO, Bool.or_eq_true] at h
      rcases h with h | h
      · exact .inl h
      · exact .inr ⟨x, List.mem_cons_self, h⟩
    · exact .inr ⟨r, List.mem_cons_of_mem _ h1, h2⟩
theorem bits_mem {s r : Nat} (h : r ∈ bitsL s) : s.testBit r = true := by
  simp only [bitsL, List.mem_filter] at h
  exact h.2
theorem bit_lt7 {s r : Nat} (hs : s < 128) (h : s.testBit r = true) : r ≤ 6 := by
  have h1 := Nat.ge_two_pow_of_testBit h
  by_cases h6 : r ≤ 6
  · exact h6
  · have : (2 : Nat) ^ 7 ≤ 2 ^ r := Nat.pow_le_pow_right (by omega) (by omega)
    have e : (2 : Nat) ^ 7 = 128 := rfl
    omega
theorem crs_mem {row i t : Nat} (hr : row ≤ 6) (h : (crs st w v fl br row (i + 1)).testBit t = true) : ∃ r, r ≤ 6 ∧ (crs st w v fl br row i).testBit r = true ∧ (outO st w v ⟨fl, br, r, i⟩).rows.testBit t = true := by
  rcases evO_mem _ _ (show (evO st w v fl br i (bitsL (crs st w v fl br row i)) nilO).rows.testBit t = true from h) with h | ⟨r, h1, h2⟩
  · simp [nilO] at h
  · have hb := bits_mem h1
    exact ⟨r, bit_lt7 (crs_lt hr i) hb, hb, h2⟩
theorem crs_has {row i r t : Nat} (hr : row ≤ 6) (h : (crs st w v fl br row i).testBit r = true) (ht : (outO st w v ⟨fl, br, r, i⟩).rows.testBit t = true) : (crs st w v fl br row (i + 1)).testBit t = true := by
  have hlt := crs_lt (st := st) (w := w) (v := v) (fl := fl) (br := br) hr i
  exact (evO_has (st := st) (w := w) (v := v) (fl := fl) (br := br) (hour := i) (bitsL (crs st w v fl br row i)) nilO (mem_bits (by omega) h)).rows _ ht
theorem flo_mem {row i : Nat} (hr : row ≤ 6) (h : (ofO st w v fl br i (crs st w v fl br row i)).fl = true) : ∃ r a b, r < 6 ∧ (crs st w v fl br row i).testBit r = true ∧ SeaIn w v i a b ∧ liI st a b fl r = true := by
  rcases evO_memf _ _ (show (evO st w v fl br i (bitsL (crs st w v fl br row i)) nilO).fl = true from h) with h | ⟨r, h1, h2⟩
  · cases h
  · have hb := bits_mem h1
    obtain ⟨h6, a, b, hab, hl⟩ := out_memf h2
    have hle := bit_lt7 (crs_lt (st := st) (w := w) (v := v) (fl := fl) (br := br) hr i) hb
    have h6 : r ≠ 6 := h6
    exact ⟨r, a, b, by omega, hb, hab, hl⟩
theorem flo_has {row i r : Nat} {a b : Int} (hr : row ≤ 6) (h : (crs st w v fl br row i).testBit r = true) (h6 : r ≠ 6) (hab : SeaIn w v i a b) (hl : liI st a b fl r = true) : (ofO st w v fl br i (crs st w v fl br row i)).fl = true := by
  have hlt := crs_lt (st := st) (w := w) (v := v) (fl := fl) (br := br) hr i
  exact (evO_has (st := st) (w := w) (v := v) (fl := fl) (br := br) (hour := i) (bitsL (crs st w v fl br row i)) nilO (mem_bits (by omega) h)).fl ((out_has (k := ⟨fl, br, r, i⟩) h6 hab).2 hl)
theorem lost_floated {row : Nat} (hr : row < 6) : ∀ i, (crs st w v fl br row i).testBit 6 = true → ∃ j, j < i ∧ (ofO st w v fl br j (crs st w v fl br row j)).fl = true := by
  intro i
  induction i with
  | zero => intro h; have := bit_pow (q := row) h; omega
  | succ i ih =>
    intro h
    obtain ⟨r, h6, hr', ho⟩ := crs_mem (by omega) h
    by_cases e : r = 6
    · subst e
      obtain ⟨j, hj, hf⟩ := ih hr'
      exact ⟨j, by omega, hf⟩
    · rcases out_mem ho with ⟨e', _⟩ | ⟨_, a, b, hab, hq⟩
      · exact absurd e' e
      · have hq : 6 = seaR st fl br r a b := hq
        refine ⟨i, by omega, flo_has (by omega) hr' e hab ?_⟩
        cases hl : liI st a b fl r with
        | true => rfl
        | false => unfold seaR at hq; rw [if_pos hl] at hq; omega
end
def keyZ (r : Nat) : Int := if r = 6 then -1 else r
theorem keyZ_row {r : Nat} (h : r ≠ 6) : keyZ r = r := if_neg h
theorem keyZ_sw {r : Nat} (h : r < 6) : keyZ (swN r) = (r : Int) - 1 := by
  unfold swN keyZ
  by_cases h0 : r = 0
  · subst h0; rfl
  · rw [if_neg h0, if_neg (by omega)]; omega
theorem li_mono {st fl fl' : Int} {x y : Nat} {a b a' b' : Int} (h0 : 0 ≤ st) (h4 : st ≤ 4) (hx : x ≤ y) (hy : y < 6) (ha0 : 0 ≤ a') (ha : a' ≤ a) (ha2 : a ≤ 40) (hb0 : 0 ≤ b') (hb : b' ≤ b) (hb2 : b ≤ 40) (hf : fl ≤ fl') (h : liI st a' b' fl' y = true) : liI st a b fl x = true := by
  have m1 : dpF st a' y ≤ dpF st a y := dp_mono h0 h4 ha0 ha ha2 (by omega)
  obtain ⟨z, z0, z1, e1, hz⟩ := dpF_eq (a := a) (r := y) h0 h4 (by omega) ha2 (by omega)
  obtain ⟨z', z0', z1', e2, hz'⟩ := dpF_eq (a := a) (r := x) h0 h4 (by omega) ha2 (by omega)
  have hzz : z' ≤ z := by rw [hz, hz']; exact Int.mul_le_mul_of_nonneg_left (by omega) h0
  have m2 : dpF st a y ≤ dpF st a x := by rw [e1, e2]; split <;> split <;> omega
  obtain ⟨y1, y2, y3, e3, _⟩ := dpF_eq (a := a') (r := y) h0 h4 ha0 (by omega) (by omega)
  have b1 : dpF st a' y ≤ 40 := by rw [e3]; split <;> omega
  have b2 : dpF st a x ≤ 40 := by rw [e2]; split <;> omega
  have b3 : 0 ≤ dpF st a' y := by rw [e3]; split <;> omega
  have b4 : 0 ≤ dpF st a x := by rw [e2]; split <;> omega
  unfold liI at h ⊢
  rw [dp_eq] at h ⊢
  simp only [Bool.and_eq_true, decide_eq_true_eq] at h ⊢
  rw [wrapI (by omega) (by omega)] at h
  rw [wrapI (by omega) (by omega)]
  omega
section
variable {rw st : Int} {n : Nat} {w v w' v' : Nat → Sp} {fl br fl' br' : Int}
structure Holds2 (n : Nat) (w v w' v' : Nat → Sp) (fl br fl' br' : Int) : Prop where
  fl : fl ≤ fl'
  br : br ≤ br'
  sea : ∀ i, i < n → ∀ a' b', SeaIn w' v' i a' b' → ∃ a b, SeaIn w v i a b ∧ a' ≤ a ∧ b' ≤ b
theorem sea_bound (hS : SOK rw st n w v) {i : Nat} (hi : i < n) {a b : Int} (h : SeaIn w v i a b) : 0 ≤ a ∧ a ≤ 30 ∧ 0 ≤ b ∧ b ≤ 10 := by
  obtain ⟨w0, w1, w2, w3⟩ := hS.w i hi
  obtain ⟨v0, v1, v2, v3⟩ := hS.v i hi
  obtain ⟨h1, h2, h3, h4⟩ := h
  omega
theorem dom (hS : SOK rw st n w v) (hS' : SOK rw st n w' v') (hH : Holds2 n w v w' v' fl br fl' br') {x0 y0 : Nat} (hx0 : x0 ≤ y0) (hy0 : y0 < 6) : ∀ i, i ≤ n → ∀ y, (crs st w' v' fl' br' y0 i).testBit y = true → ∃ x, (crs st w v fl br x0 i).testBit x = true ∧ keyZ x ≤ keyZ y ∧ x ≤ 6 ∧ y ≤ 6 := by
  intro i
  induction i with
  | zero =>
    intro _ y hy
    obtain rfl := bit_pow (q := y0) hy
    exact ⟨x0, Nat.testBit_two_pow_self, by rw [keyZ_row (by omega), keyZ_row (by omega)]; omega, by omega, by omega⟩
  | succ i ih =>
    intro hi t ht
    obtain ⟨y, hy6, hy, ho⟩ := crs_mem (by omega) ht
    obtain ⟨x, hx, hk, hx6, _⟩ := ih (by omega) y hy
    rcases out_mem ho with ⟨e, e2⟩ | ⟨hne, a', b', hab, hq⟩
    · have e : y = 6 := e
      subst e
      subst e2
      have hx : x = 6 := by
        by_cases h : x = 6
        · exact h
        · rw [keyZ_row h] at hk; unfold keyZ at hk; rw [if_pos rfl] at hk; omega
      subst hx
      exact ⟨6, crs_has (by omega) (by assumption) (out_lost rfl), Int.le_refl _, by omega, by omega⟩
    · have hne : y ≠ 6 := hne
      have hq : t = seaR st fl' br' y a' b' := hq
      have hab : SeaIn w' v' i a' b' := hab
      have ht6 : t ≤ 6 := bit_lt7 (crs_lt (st := st) (w := w') (v := v') (fl := fl') (br := br') (row := y0) (by omega) (i + 1)) ht
      obtain ⟨a, b, hab2, la, lb⟩ := hH.sea i (by omega) a' b' hab
      by_cases hx' : x = 6
      · subst hx'
        refine ⟨6, crs_has (by omega) hx (out_lost rfl), ?_, by omega, ht6⟩
        unfold keyZ
        rw [if_pos rfl]
        split <;> omega
      · have hxy : x ≤ y := by rw [keyZ_row hx', keyZ_row hne] at hk; omega
        refine ⟨seaR st fl br x a b, crs_has (by omega) hx (out_has (k := ⟨fl, br, x, i⟩) hx' hab2).1, ?_, ?_, ht6⟩
        · obtain ⟨p1, p2, p3, p4⟩ := sea_bound hS (by omega) hab2
          obtain ⟨q1, q2, q3, q4⟩ := sea_bound hS' (by omega) hab
          have sx : keyZ (seaR st fl br x a b) ≤ x := by
            unfold seaR
            split
            · rw [keyZ_row hx']; omega
            · split
              · rw [keyZ_row hx']; omega
              · rw [keyZ_sw (by omega)]; omega
          rw [hq]
          cases hl : liI st a' b' fl' y with
          | false => rw [show seaR st fl' br' y a' b' = y from if_pos hl, keyZ_row hne]; omega
          | true =>
            have hl2 := li_mono (fl := fl) (x := x) (a := a) (b := b) hS.st0 hS.st4 hxy (by omega) q1 la (by omega) q3 lb (by omega) hH.fl hl
            by_cases hb : b' ≤ br'
            · rw [show seaR st fl' br' y a' b' = y from by unfold seaR; rw [if_neg (by rw [hl]; simp), if_pos hb], keyZ_row hne]; omega
            · have hbr := hH.br
              rw [show seaR st fl' br' y a' b' = swN y from by unfold seaR; rw [if_neg (by rw [hl]; simp), if_neg hb], show seaR st fl br x a b = swN x from by unfold seaR; rw [if_neg (by rw [hl2]; simp), if_neg (by omega)], keyZ_sw (by omega), keyZ_sw (by omega)]
              omega
        · unfold seaR
          split
          · exact hx6
          · split
            · exact hx6
            · exact swN_le hx6
theorem losN_zero {c : Nat} (h : c.testBit 6 = false) : losN c = 0 := by
  unfold losN
  rw [if_neg (fun e => by rw [e] at h; cases h), if_neg (by rw [h]; simp)]
theorem losN_bit {c : Nat} (h : losN c = 0) : c.testBit 6 = false := by
  cases hb : c.testBit 6 with
  | false => rfl
  | true =>
    unfold losN at h
    split at h
    · cases h
    · first | cases h | (rw [if_pos hb] at h; cases h)
theorem never_lost (hS : SOK rw st n w v) (hS' : SOK rw st n w' v') (hH : Holds2 n w v w' v' fl br fl' br') {x0 y0 : Nat} (hx0 : x0 ≤ y0) (hy0 : y0 < 6) (h : losN (crs st w v fl br x0 n) = 0) : losN (crs st w' v' fl' br' y0 n) = 0 := by
  refine losN_zero ?_
  cases hb : (crs st w' v' fl' br' y0 n).testBit 6 with
  | false => rfl
  | true =>
    obtain ⟨x, hx, hk, h6, _⟩ := dom hS hS' hH hx0 hy0 n (Nat.le_refl n) 6 hb
    have hx6 : x = 6 := by
      by_cases e : x = 6
      · exact e
      · rw [keyZ_row e] at hk; unfold keyZ at hk; rw [if_pos rfl] at hk; omega
    subst hx6
    rw [losN_bit h] at hx
    cases hx
theorem floats_before (hS : SOK rw st n w v) (hS' : SOK rw st n w' v') (hH : Holds2 n w v w' v' fl br fl' br') {x0 y0 : Nat} (hx0 : x0 ≤ y0) (hy0 : y0 < 6) {i : Nat} (hi : i < n) (h : (ofO st w' v' fl' br' i (crs st w' v' fl' br' y0 i)).fl = true) : ∃ j, j ≤ i ∧ (ofO st w v fl br j (crs st w v fl br x0 j)).fl = true := by
  obtain ⟨y, a', b', hy6, hy, hab, hl⟩ := flo_mem (by omega) h
  obtain ⟨x, hx, hk, hx6, _⟩ := dom hS hS' hH hx0 hy0 i (by omega) y hy
  by_cases e : x = 6
  · subst e
    obtain ⟨j, hj, hf⟩ := lost_floated (by omega) i hx
    exact ⟨j, by omega, hf⟩
  · have hxy : x ≤ y := by rw [keyZ_row e, keyZ_row (by omega)] at hk; omega
    obtain ⟨a, b, hab2, la, lb⟩ := hH.sea i hi a' b' hab
    obtain ⟨p1, p2, p3, p4⟩ := sea_bound hS hi hab2
    obtain ⟨q1, q2, q3, q4⟩ := sea_bound hS' hi hab
    exact ⟨i, Nat.le_refl i, flo_has (by omega) hx e hab2 (li_mono hS.st0 hS.st4 hxy hy6 q1 la (by omega) q3 lb (by omega) hH.fl hl)⟩
end
end Go.Ab
set_option maxRecDepth 100000
namespace Go.Ab
open Go Go.RowKit Go.Proofs
def p6a : Loc := .l (.r (.l (.r (.r (.r (.r (.r (.r (.r (.top 6))))))))))
def p6b : Loc := .l (.r (.l (.r (.r (.r (.r (.r (.r (.r (.r (.top 6)))))))))))
noncomputable def B6 : List TBw := [.dead, .list 1 .ro, .list 1 .ro, .list 1 .ro, .list 1 .ro, .cells SuL 25 .var, .dead, .dead, .cells (.hole (.hole (.hole .nil))) 36 .var]
noncomputable def T6a : Tw := ⟨157, mkS 157 [(2, .hole .nil), (3, .ptr 5 0 .nil), (7, .hole .nil), (8, .ptr 8 0 .nil), (9, .hole .nil), (11, .hole .nil), (86, .slice 9 0 .nil), (87, .hole .nil), (88, .hole .nil)], 10, B6 ++ [.list 3 .row]⟩
noncomputable def T6b : Tw := ⟨157, mkS 157 [(3, .ptr 5 0 .nil), (7, .hole .nil), (8, .ptr 8 0 .nil), (11, .hole .nil), (125, .slice 10 0 .nil), (126, .hole .nil), (127, .hole .nil)], 11, B6 ++ [.dead, .list 3 .row]⟩
noncomputable def h6a (rw st : Int) (n cw cv m cu hut bk fr : Nat) (mo : Int) (fl br : Int) (row : Nat) (tb ws vs us : List Value) (g : Nat → Int) (i : Nat) : Hw :=
  ⟨⟨[.int .u8 mo, I hut, I bk, I fr, I 3, I i, I rw, I st, I fl, I br, I row], [(3, 3), (n, cw), (n, cv), (m, cu)]⟩, [tb, ws, vs, us, ints 3 g], []⟩
noncomputable def h6b (rw st : Int) (n cw cv m cu hut fr : Nat) (fl br : Int) (row : Nat) (tb ws vs us : List Value) (g : Nat → Int) (i : Nat) : Hw :=
  ⟨⟨[I hut, I fr, I 3, I i, I rw, I st, I fl, I br, I row], [(3, 3), (n, cw), (n, cv), (m, cu)]⟩, [tb, ws, vs, us, ints 3 g], []⟩
end Go.Ab
set_option maxRecDepth 100000
namespace Go.Ab
open Go Go.RowKit Go.Proofs
section
variable {rw st : Int} {n : Nat} {w v : Nat → Sp} {fl br : Int} {row : Nat}
theorem holds_refl {fl br fl' br' : Int} (h1 : fl ≤ fl') (h2 : br ≤ br') : Holds2 n w v w v fl br fl' br' := ⟨h1, h2, fun _ _ a b h => ⟨a, b, h, Int.le_refl a, Int.le_refl b⟩⟩
theorem brk_iff (hS : SOK rw st n w v) (hr : row < 6) (b : Nat) (hb : b ≤ 10) : losN (crs st w v fl (b : Nat) row n) = 0 ↔ lstF (brkP st w v n fl row) 10 0 ≤ b := by
  have henough : brkP st w v n fl row (0 + 10) = true := by unfold brkP; rw [show ((0 + 10 : Nat) : Int) = 10 from rfl, brake_enough hS hr]; rfl
  obtain ⟨_, h10, hp, hlow⟩ := lstF_ok 10 0 henough
  constructor
  · intro h
    by_cases hlt : lstF (brkP st w v n fl row) 10 0 ≤ b
    · exact hlt
    · have := hlow b (Nat.zero_le _) (by omega)
      unfold brkP at this
      rw [h] at this
      cases this
  · intro h
    have hp : losN (crs st w v fl (lstF (brkP st w v n fl row) 10 0 : Nat) row n) = 0 := beq_iff_eq.1 hp
    exact never_lost hS hS (holds_refl (Int.le_refl fl) (by omega)) (Nat.le_refl row) hr hp
theorem hrS_ne {fl br : Int} {s : Nat} (h : s ≠ 0) : ∃ i, s.testBit i = true := Nat.exists_testBit_of_ne_zero h
theorem no_floats (hS : SOK rw st n w v) (hr : row < 6) {fl' : Int} (hf : fl ≤ fl') (h : hrS st w v fl br (selP 70) row n = 0) : hrS st w v fl' br (selP 70) row n = 0 := by
  by_cases h0 : hrS st w v fl' br (selP 70) row n = 0
  · exact h0
  · obtain ⟨i, hi⟩ := hrS_ne (fl := fl) (br := br) h0
    rw [hrS_bit] at hi
    simp only [Bool.and_eq_true, decide_eq_true_eq] at hi
    obtain ⟨j, hj, hfl⟩ := floats_before hS hS (holds_refl hf (Int.le_refl br)) (Nat.le_refl row) hr hi.1 hi.2
    have : (hrS st w v fl br (selP 70) row n).testBit j = true := by
      rw [hrS_bit, decide_eq_true (show j < n by omega)]
      exact hfl
    rw [h, Nat.zero_testBit] at this
    cases this
theorem flo_iff (hS : SOK rw st n w v) (hr : row < 6) (f : Nat) (hf : f ≤ 40) : hrS st w v (f : Nat) br (selP 70) row n = 0 ↔ lstF (floP st w v n br row) 40 0 ≤ f := by
  have henough : floP st w v n br row (0 + 40) = true := by unfold floP; rw [show ((0 + 40 : Nat) : Int) = 40 from rfl, floor_enough hS hr]; rfl
  obtain ⟨_, h40, hp, hlow⟩ := lstF_ok 40 0 henough
  constructor
  · intro h
    by_cases hlt : lstF (floP st w v n br row) 40 0 ≤ f
    · exact hlt
    · have := hlow f (Nat.zero_le _) (by omega)
      unfold floP at this
      rw [h] at this
      cases this
  · intro h
    have hp : hrS st w v (lstF (floP st w v n br row) 40 0 : Nat) br (selP 70) row n = 0 := beq_iff_eq.1 hp
    exact no_floats hS hr (by omega) hp
theorem brk_le (hS : SOK rw st n w v) (hr : row < 6) : lstF (brkP st w v n fl row) 10 0 ≤ 10 := by
  have henough : brkP st w v n fl row (0 + 10) = true := by unfold brkP; rw [show ((0 + 10 : Nat) : Int) = 10 from rfl, brake_enough hS hr]; rfl
  have := (lstF_ok 10 0 henough).2.1
  omega
theorem flo_le (hS : SOK rw st n w v) (hr : row < 6) : lstF (floP st w v n br row) 40 0 ≤ 40 := by
  have henough : floP st w v n br row (0 + 40) = true := by unfold floP; rw [show ((0 + 40 : Nat) : Int) = 40 from rfl, floor_enough hS hr]; rfl
  have := (lstF_ok 40 0 henough).2.1
  omega
end
end Go.Ab
