/- what the law calls: examples, contracts by what they return. -/
import Derived.Test.YtamfplmmfbbabaaGreatMU
import Derived.Test.YtamfplmmfbbabaaGreatMV
import Derived.Test.YtamfplmmfbbabaaGreatMS
import Derived.Test.YtamfplmmfbbabaaGreatMR
set_option maxRecDepth 100000
namespace Go.Ab
open Go Go.RowKit Go.Proofs
noncomputable def C12 : Con where
  A := .nil
  bs := []
  pre x := x = ⟨⟨[], []⟩, []⟩
  res _ := .ret (.bool true)
theorem C12_ok : ConOK Tryz.prog 7 C12 where
  calls := aw_ok.calls
  says x hp := by cases hp; exact aw_ok.says.mono fun r H hr => hr
  closed _ _ := rfl
  atoms x hp := by cases hp; intro cs hcs; cases hcs
  ro := rfl
  small := Nat.zero_le _
  glob := by rw [nglob]; exact Nat.zero_le _
theorem ints_succ (n : Nat) (g : Nat → Int) : ints (n + 1) g = ints n g ++ [I (g n)] := flatC_succ
theorem ints_atom (n : Nat) (g : Nat → Int) : ∀ v ∈ ints n g, atomic v = true := fun v hv => ints_atoms n g _ (by simp) v hv
/-- The number that stands in a hole. -/
def natAt (x : Hx) (m : Nat) : Nat := match x.hs.vs[m]? with | some (.int _ v) => v.toNat | _ => 0
/-- Follows, whichever moves are meant. -/
noncomputable def C18x (p : Int) (n c : Nat) (f : Nat → Mv) : Con where
  A := .agg (.hole (.slice 0 0 .nil)) (.hole (.hole .nil))
  bs := [.list 1 .ro]
  pre x := ∃ i j, i < n ∧ j < n ∧ x = ⟨⟨[I p, I (i : Nat), I (j : Nat)], [(n, c)]⟩, [mvs n f]⟩
  res x := .ret (.tuple ⟨[I (folV p n f (natAt x 1) (natAt x 2)), I 0]⟩)
theorem C18x_ok (p : Int) (n c : Nat) (f : Nat → Mv) (h0 : 0 < n) (hok : okH p n f = true) (hn : n ≤ 7) : ConOK Tryz.prog 8 (C18x p n c f) where
  calls := (C18_ok p 0 0 n c f hok h0 h0 hn).calls
  says x hp := by
    obtain ⟨i, j, hi, hj, rfl⟩ := hp
    exact (C18_ok p i j n c f hok hi hj hn).says _ rfl
  closed x hp := rfl
  atoms x hp := by obtain ⟨i, j, hi, hj, rfl⟩ := hp; exact mvs_atoms n f
  ro := rfl
  small := Nat.le_of_ble_eq_true rfl
  glob := by rw [nglob]; exact Nat.zero_le _
end Go.Ab

/- which sets tell what: bits, and what can follow. -/
set_option maxRecDepth 100000
namespace Go.Ab
open Go Go.RowKit Go.Proofs
theorem wrapsI (n : Int) (h0 : 0 ≤ n) (h1 : n < 2 ^ 62) : IntKind.i64.wrap n = n := wrapI (by omega) (by omega)
theorem or_nat (a b : Nat) (ha : a < 2 ^ 62) (hb : b < 2 ^ 62) : bits .or .i64 (a : Int) (b : Int) = ((a ||| b : Nat) : Int) := (bits_nat .i64 62 (by decide) wrapsI a b ha hb).2
theorem and_nat (a b : Nat) (ha : a < 2 ^ 62) (hb : b < 2 ^ 62) : bits .and .i64 (a : Int) (b : Int) = ((a &&& b : Nat) : Int) := (bits_nat .i64 62 (by decide) wrapsI a b ha hb).1
/-- The set, as a number. -/
def maskN (b : Nat → Bool) : Nat → Nat
  | 0 => 0
  | j + 1 => if b j then maskN b j ||| 2 ^ j else maskN b j
theorem maskN_lt (b : Nat → Bool) (j : Nat) : maskN b j < 2 ^ j := by
  induction j with
  | zero => simp [maskN]
  | succ j ih =>
    have h2 : 2 ^ (j + 1) = 2 ^ j + 2 ^ j := by rw [Nat.pow_succ]; omega
    simp only [maskN]
    split
    · exact Nat.or_lt_two_pow (by omega) (by omega)
    · omega
theorem maskN_bit (b : Nat → Bool) (j k : Nat) : (maskN b j).testBit k = (decide (k < j) && b k) := by
  induction j with
  | zero => simp [maskN]
  | succ j ih =>
    simp only [maskN]
    by_cases hk : k = j
    · subst hk
      cases hb : b k with
      | true => simp [hb, Nat.testBit_or, Nat.testBit_two_pow_self]
      | false => simp [hb, ih]
    · have hne : j ≠ k := fun h => hk h.symm
      have e : decide (k < j + 1) = decide (k < j) := by
        by_cases h : k < j
        · simp [h]; omega
        · simp [h]; omega
      rw [e]
      split
      · rw [Nat.testBit_or, ih, Nat.testBit_two_pow_of_ne hne, Bool.or_false]
      · exact ih
theorem one_nat (j : Nat) (h : j ≤ 61) : oneI j = ((2 ^ j : Nat) : Int) := by
  have h1 : 2 ^ j ≤ 2 ^ 61 := Nat.pow_le_pow_right (by omega) h
  have h2 : (2 : Nat) ^ 61 < 2 ^ 62 := by decide
  have e : (1 : Int) * 2 ^ j = ((2 ^ j : Nat) : Int) := by simp
  rw [oneI, e]
  have h3 : (2 : Nat) ^ 61 = 2305843009213693952 := by decide
  rw [h3] at h1
  generalize 2 ^ j = z at h1
  exact wrapI (by omega) (by omega)
theorem rowI_mask (b : Nat → Bool) (j : Nat) (h : j ≤ 61) : rowI b 0 j = (maskN b j : Int) := by
  induction j with
  | zero => rfl
  | succ j ih =>
    have hm := maskN_lt b j
    have hp : 2 ^ j ≤ 2 ^ 61 := Nat.pow_le_pow_right (by omega) (by omega)
    have h2 : (2 : Nat) ^ 61 < 2 ^ 62 := by decide
    simp only [rowI, maskN]
    split
    · rw [ih (by omega), one_nat j (by omega), joinI]
      have e0 : bits .or .i64 0 (maskN b j : Int) = (maskN b j : Int) := by
        have := or_nat 0 (maskN b j) (by decide) (by omega)
        simpa using this
      rw [e0, or_nat _ _ (by omega) (by omega)]
    · exact ih (by omega)
theorem hasI_mask (m j : Nat) (hm : m < 2 ^ 62) : hasI (m : Int) j = m.testBit j := by
  have e : (m : Int) / 2 ^ j = ((m / 2 ^ j : Nat) : Int) := by simp
  have hd : m / 2 ^ j < 2 ^ 62 := Nat.lt_of_le_of_lt (Nat.div_le_self _ _) hm
  simp only [hasI, e]
  have h1 := and_nat (m / 2 ^ j) 1 hd (by decide)
  rw [show ((1 : Nat) : Int) = 1 from rfl] at h1
  rw [h1, Nat.testBit_eq_decide_div_mod_eq, Nat.and_one_is_mod]
  have hmod : m / 2 ^ j % 2 = 0 ∨ m / 2 ^ j % 2 = 1 := by omega
  rcases hmod with h | h <;> simp [h]
theorem hasI_row (b : Nat → Bool) {n j : Nat} (hn : n ≤ 7) (hj : j < n) : hasI (rowI b 0 n) j = b j := by
  have h1 := maskN_lt b n
  have h2 : 2 ^ n ≤ 2 ^ 7 := Nat.pow_le_pow_right (by omega) hn
  have h3 : (2 : Nat) ^ 7 < 2 ^ 62 := by decide
  rw [rowI_mask b n (by omega), hasI_mask _ _ (by omega), maskN_bit]
  simp [hj]
theorem hasI_ord (sure : Bool) (p : Int) {n : Nat} (f : Nat → Mv) {i j : Nat} (hn : n ≤ 7) (hi : i < n) (hj : j < n) : hasI (ordF sure p n f n i) j = canB sure p f i j := by
  simp only [ordF, if_pos hi]
  exact hasI_row _ hn hj
end Go.Ab

/- what Follows tells, in numbers. -/
set_option maxRecDepth 100000
namespace Go.Ab
open Go Go.RowKit Go.Proofs
theorem allFrom_iff (b : Nat → Bool) : ∀ (r m : Nat), allFrom b r m = true → ∀ i, m ≤ i → i < m + r → b i = true := by
  intro r
  induction r with
  | zero => intro m _ i h1 h2; omega
  | succ r ih =>
    intro m h i h1 h2
    simp only [allFrom, Bool.and_eq_true] at h
    by_cases e : i = m
    · subst e; exact h.1
    · exact ih (m + 1) h.2 i (by omega) (by omega)
structure MvOK (m : Mv) : Prop where
  at0 : 0 ≤ m.at_
  at1 : m.at_ ≤ 200
  pl0 : 0 ≤ m.place
  pl1 : m.place ≤ 30
  lo1 : 1 ≤ m.lo
  lohi : m.lo ≤ m.hi
  hi1 : m.hi ≤ 20
theorem okMv_iff {m : Mv} (h : okMv m = true) : MvOK m := by
  simp only [okMv, Bool.and_eq_true, decide_eq_true_eq, Bool.not_eq_true', decide_eq_false_iff_not] at h
  obtain ⟨h1, h2, h3, h4, h5, h6, h7⟩ := h
  exact ⟨h1, h2, h3, h4, by omega, by omega, by omega⟩
structure HOK (p : Int) (n : Nat) (f : Nat → Mv) : Prop where
  p0 : 0 ≤ p
  p3 : p ≤ 3
  n7 : n ≤ 7
  mv : ∀ i, i < n → MvOK (f i)
theorem okH_iff {p : Int} {n : Nat} {f : Nat → Mv} (h : okH p n f = true) : HOK p n f := by
  simp only [okH, Bool.and_eq_true, decide_eq_true_eq, Bool.not_eq_true', decide_eq_false_iff_not] at h
  obtain ⟨h1, h2, h3, h4⟩ := h
  exact ⟨h1, h2, by omega, fun i hi => okMv_iff (allFrom_iff _ n 0 h4 i (by omega) (by omega))⟩
def distI (a b : Mv) : Int := if b.place - a.place > a.place - b.place then b.place - a.place else a.place - b.place
theorem distI_bounds {a b : Mv} (ha : MvOK a) (hb : MvOK b) : 0 ≤ distI a b ∧ distI a b ≤ 30 := by
  have := ha.pl0; have := ha.pl1; have := hb.pl0; have := hb.pl1
  simp only [distI]; split <;> omega
theorem distI_comm (a b : Mv) : distI a b = distI b a := by simp only [distI]; split <;> split <;> omega
theorem mul_bounds {p x : Int} (h0 : 0 ≤ p) (h3 : p ≤ 3) (hx : 0 ≤ x) (hx3 : x ≤ 30) : 0 ≤ p * x ∧ p * x ≤ 90 := by
  have : p = 0 ∨ p = 1 ∨ p = 2 ∨ p = 3 := by omega
  rcases this with rfl | rfl | rfl | rfl <;> omega
theorem canB_eq {p : Int} {n : Nat} {f : Nat → Mv} (h : HOK p n f) (sure : Bool) {i j : Nat} (hi : i < n) (hj : j < n) : canB sure p f i j = decide ((f i).at_ + cond sure (f i).hi (f i).lo + p * distI (f i) (f j) ≤ (f j).at_) := by
  have ha := h.mv i hi
  have hb := h.mv j hj
  have a1 := ha.at0; have a2 := ha.at1; have a3 := ha.pl0; have a4 := ha.pl1; have a5 := ha.lo1; have a6 := ha.lohi; have a7 := ha.hi1
  have b1 := hb.at0; have b2 := hb.at1; have b3 := hb.pl0; have b4 := hb.pl1
  have hL : 1 ≤ cond sure (f i).hi (f i).lo ∧ cond sure (f i).hi (f i).lo ≤ 20 := by cases sure <;> simp only [cond_true, cond_false] <;> omega
  have e1 : IntKind.i64.wrap ((f j).place - (f i).place) = (f j).place - (f i).place := wrapI (by omega) (by omega)
  have e2 : IntKind.i64.wrap ((f i).place - (f j).place) = (f i).place - (f j).place := wrapI (by omega) (by omega)
  have hd := distI_bounds ha hb
  have hm := mul_bounds h.p0 h.p3 hd.1 hd.2
  simp only [canB, canW, doneW, e1, e2]
  rw [show (if (f j).place - (f i).place > (f i).place - (f j).place then (f j).place - (f i).place else (f i).place - (f j).place) = distI (f i) (f j) from rfl]
  generalize cond sure (f i).hi (f i).lo = L at hL
  generalize p * distI (f i) (f j) = w at hm
  rw [wrapI (x := w) (by omega) (by omega), wrapI (x := (f i).at_ + L) (by omega) (by omega), wrapI (x := (f i).at_ + L + w) (by omega) (by omega)]
theorem both_can {p : Int} {n : Nat} {f : Nat → Mv} (h : HOK p n f) (s t : Bool) {i j : Nat} (hi : i < n) (hj : j < n) : canB s p f i j = true → canB t p f j i = false := by
  intro h1
  rw [canB_eq h t hj hi]
  rw [canB_eq h s hi hj] at h1
  have h1 := of_decide_eq_true h1
  have ha := h.mv i hi
  have hb := h.mv j hj
  have a5 := ha.lo1; have a6 := ha.lohi; have b5 := hb.lo1; have b6 := hb.lohi
  have hm := mul_bounds h.p0 h.p3 (distI_bounds ha hb).1 (distI_bounds ha hb).2
  rw [distI_comm (f j) (f i)]
  generalize p * distI (f i) (f j) = w at hm h1
  have hL : 1 ≤ cond s (f i).hi (f i).lo := by cases s <;> simp only [cond_true, cond_false] <;> omega
  have hL2 : 1 ≤ cond t (f j).hi (f j).lo := by cases t <;> simp only [cond_true, cond_false] <;> omega
  exact decide_eq_false (by omega)
theorem sure_some {p : Int} {n : Nat} {f : Nat → Mv} (h : HOK p n f) {i j : Nat} (hi : i < n) (hj : j < n) : canB true p f i j = true → canB false p f i j = true := by
  intro h1
  rw [canB_eq h _ hi hj] at h1 ⊢
  have h1 := of_decide_eq_true h1
  have a6 := (h.mv i hi).lohi
  simp only [cond_true, cond_false] at h1 ⊢
  exact decide_eq_true (by omega)
theorem folV_eq {p : Int} {n : Nat} {f : Nat → Mv} (h : HOK p n f) {i j : Nat} (hi : i < n) (hj : j < n) : folV p n f i j = if canB true p f i j then 2 else if canB false p f i j then 1 else 0 := by
  simp only [folV, hasI_ord true p f h.n7 hi hj, hasI_ord false p f h.n7 hi hj]
theorem folV_pos {p : Int} {n : Nat} {f : Nat → Mv} (h : HOK p n f) {i j : Nat} (hi : i < n) (hj : j < n) : decide (folV p n f i j > 0) = true → decide (folV p n f j i > 0) = true → False := by
  intro h1 h2
  have h1 := of_decide_eq_true h1
  have h2 := of_decide_eq_true h2
  rw [folV_eq h hi hj] at h1
  rw [folV_eq h hj hi] at h2
  have c1 := both_can h true true hi hj
  have c2 := both_can h true false hi hj
  have c3 := both_can h false true hi hj
  have c4 := both_can h false false hi hj
  revert h1 h2 c1 c2 c3 c4
  cases canB true p f i j <;> cases canB false p f i j <;> cases canB true p f j i <;> cases canB false p f j i <;> simp
theorem folV_can {p : Int} {n : Nat} {f : Nat → Mv} (h : HOK p n f) (sure : Bool) {i j : Nat} (hi : i < n) (hj : j < n) : decide (folV p n f i j < cond sure 2 1) = !canB sure p f i j := by
  rw [folV_eq h hi hj]
  have m := sure_some h hi hj
  revert m
  cases sure <;> cases canB true p f i j <;> cases canB false p f i j <;> simp
theorem badB_eq {p : Int} {n : Nat} {f : Nat → Mv} (h : HOK p n f) (sure : Bool) (g : Nat → Int) {i j : Nat} (hi : i < n) (hj : j < n) : badB g (ordF sure p n f n) i j = ((g i == g j) && (decide (folV p n f i j < cond sure 2 1) && decide (folV p n f j i < cond sure 2 1))) := by
  simp only [badB, linkB, hasI_ord sure p f h.n7 hi hj, hasI_ord sure p f h.n7 hj hi, folV_can h sure hi hj, folV_can h sure hj hi]
  cases canB sure p f i j <;> cases canB sure p f j i <;> simp
end Go.Ab

/- Maps by keys of numbers; stores into cells; the horses' work, move after move. -/
set_option maxRecDepth 100000
namespace Go.Ab
open Go Go.RowKit Go.Proofs
/-! ### Maps -/
section
variable {α : Type}
def getA : List (Int × α) → Int → Option α
  | [], _ => none
  | e :: l, h => if h = e.1 then some e.2 else getA l h
def setA : List (Int × α) → Int → α → List (Int × α)
  | [], h, a => [(h, a)]
  | e :: l, h, a => if h = e.1 then (h, a) :: l else e :: setA l h a
theorem get_set (M : List (Int × α)) (h h' : Int) (a : α) : getA (setA M h a) h' = if h' = h then some a else getA M h' := by
  induction M with
  | nil => simp only [setA, getA]
  | cons e l ih =>
    simp only [setA]
    split
    · rename_i he
      subst he
      simp only [getA]
      split <;> rfl
    · rename_i he
      simp only [getA, ih]
      by_cases h1 : h' = e.1
      · subst h1
        rw [if_pos rfl, if_neg (fun hh => he hh.symm), if_pos rfl]
      · rw [if_neg h1]
        split
        · rfl
        · rfl
def encM (enc : α → Value) (M : List (Int × α)) : List (Value × Value) := M.map fun e => (I e.1, enc e.2)
def fnd : List (Int × α) → Int → Nat → Option (Nat × α)
  | [], _, _ => none
  | e :: l, h, i => if h = e.1 then some (i, e.2) else fnd l h (i + 1)
theorem aEq3' (a b : Int) : aEq Tryz.prog 3 (I a) (I b) = some (a == b && true) := by kernel_rfl
theorem aEq3 (a b : Int) : aEq Tryz.prog 3 (I a) (I b) = some (decide (a = b)) := by
  rw [aEq3', Bool.and_true]
  rfl
theorem findA_enc (enc : α → Value) (M : List (Int × α)) (h : Int) (i : Nat) : findA Tryz.prog 3 (I h) (encM enc M) i = some ((fnd M h i).map fun x => (x.1, enc x.2)) := by
  induction M generalizing i with
  | nil => rfl
  | cons e l ih =>
    simp only [encM, List.map_cons, findA, fnd, aEq3, Option.bind_some]
    by_cases he : h = e.1
    · simp [he]
    · simp only [he, decide_false, cond_false, if_false]
      exact ih (i + 1)
theorem fnd_get (M : List (Int × α)) (h : Int) (i : Nat) : (fnd M h i).map (·.2) = getA M h := by
  induction M generalizing i with
  | nil => rfl
  | cons e l ih =>
    simp only [fnd, getA]
    split
    · rfl
    · exact ih (i + 1)
theorem fnd_none {M : List (Int × α)} {h : Int} {i : Nat} (hf : fnd M h i = none) (a : α) : setA M h a = M ++ [(h, a)] := by
  induction M generalizing i with
  | nil => rfl
  | cons e l ih =>
    simp only [fnd] at hf
    split at hf
    · cases hf
    · rename_i he
      simp only [setA, if_neg he, ih hf, List.cons_append]
theorem fnd_some {M : List (Int × α)} {h : Int} {i j : Nat} {b : α} (hf : fnd M h i = some (j, b)) (a : α) : ∃ d, j = i + d ∧ M[d]? = some (h, b) ∧ setA M h a = M.set d (h, a) := by
  induction M generalizing i with
  | nil => cases hf
  | cons e l ih =>
    simp only [fnd] at hf
    split at hf
    · rename_i he
      cases hf
      exact ⟨0, rfl, by simp [he], by simp [setA, he]⟩
    · rename_i he
      obtain ⟨d, h1, h2, h3⟩ := ih hf
      exact ⟨d + 1, by omega, by simpa using h2, by simp only [setA, if_neg he, h3, List.set_cons_succ]⟩
theorem lookC_enc (enc : α → Value) (M : List (Int × α)) (h : Int) {z v : Value} {ok : Bool} (hv : v = lookR z ok ((getA M h).map fun a => (0, enc a))) : LookC Tryz.prog 3 z (encM enc M) (I h) ok v := by
  refine ⟨?_⟩
  rw [findA_enc, Option.bind_some, hv]
  have := fnd_get M h 0
  cases hf : fnd M h 0 with
  | none => rw [hf] at this; rw [← this]; rfl
  | some x => rw [hf] at this; rw [← this]; rfl
theorem same_bits (h : Int) : Instr.sameBits 10000 (I h) (I h) = true := by simp [Instr.sameBits, I]
theorem setC_enc (enc : α → Value) (M : List (Int × α)) (h : Int) (a : α) : SetC Tryz.prog 3 (encM enc M) (I h) (enc a) (encM enc (setA M h a)) := by
  refine ⟨?_⟩
  rw [findA_enc, Option.bind_some]
  cases hf : fnd M h 0 with
  | none =>
    simp only [Option.map_none, fnd_none hf a, encM, List.map_append, List.map_cons, List.map_nil]
  | some x =>
    obtain ⟨j, b⟩ := x
    obtain ⟨d, h1, h2, h3⟩ := fnd_some hf a
    have hj : j = d := by omega
    subst hj
    have h4 : (encM enc M)[j]? = some (I h, enc b) := by simp only [encM, List.getElem?_map, h2, Option.map_some]
    simp only [Option.map_some, h4, same_bits, h3, and_true]
    rw [if_pos ⟨rfl, rfl⟩]
    simp only [encM, List.map_set]
theorem encM_cl {enc : α → Value} (he : ∀ a, cl 50 (enc a) = true) (M : List (Int × α)) : ∀ e ∈ encM enc M, cl 50 e.1 = true ∧ cl 50 e.2 = true := by
  intro e hm
  simp only [encM, List.mem_map] at hm
  obtain ⟨x, _, rfl⟩ := hm
  exact ⟨rfl, he _⟩
end
/-! ### Stores into cells -/
theorem flatC_congr {n : Nat} {g g' : Nat → List Value} (h : ∀ i, i < n → g i = g' i) : flatC n g = flatC n g' := by
  induction n with
  | zero => rfl
  | succ n ih => rw [flatC_succ, flatC_succ, ih (fun i hi => h i (by omega)), h n (by omega)]
theorem flatC_set {n k : Nat} {g : Nat → List Value} (hk : ∀ i, i < n → (g i).length = k) {i : Nat} (hi : i < n) {v : List Value} (hv : v.length = k) :
    (flatC n g).take (i * k) ++ v ++ (flatC n g).drop (i * k + k) = flatC n fun x => if x = i then v else g x := by
  induction n with
  | zero => omega
  | succ n ih =>
    have hl := flatC_len (n := n) (g := g) (k := k) fun i hi => hk i (by omega)
    rw [flatC_succ, flatC_succ]
    by_cases h : i = n
    · subst h
      rw [if_pos rfl, List.take_append_of_le_length (by omega), List.take_of_length_le (by omega), List.drop_append, List.drop_eq_nil_of_le (by omega), List.nil_append, hl, List.drop_eq_nil_of_le (by rw [hk i (by omega)]; omega), List.append_nil]
      congr 1
      exact flatC_congr fun x hx => by rw [if_neg (by omega)]
    · have h2 := ih (fun i hi => hk i (by omega)) (by omega)
      have h3 := flatC_bound (n := n) (k := k) (i := i) (by omega)
      rw [if_neg (fun e => h e.symm), List.take_append_of_le_length (by omega), List.drop_append_of_le_length (by omega), ← List.append_assoc, h2]
theorem ints_put {n i : Nat} (o : Nat → Int) (v : Int) (hi : i < n) : (ints n o).take (0 + i * 1) ++ [I v] ++ (ints n o).drop (0 + i * 1 + 1) = ints n (updF o i v) := by
  have h := flatC_set (n := n) (k := 1) (g := fun i => [I (o i)]) (fun _ _ => rfl) hi (v := [I v]) rfl
  rw [Nat.zero_add]
  refine (show _ = _ from h).trans ?_
  refine flatC_congr fun x _ => ?_
  simp only [updF]
  split <;> rfl
/-! ### The horses' work -/
/-- How long a horse walks. -/
def wkI (p : Int) (a b : Mv) : Int := p * (if a.place - b.place < 0 then b.place - a.place else a.place - b.place)
structure Prc where
  M : List (Int × (Nat × Int))
  o : Nat → Int
/-- When a move begins. -/
def begI (p : Int) (f : Nat → Mv) (lg : Nat → Int) (i : Nat) : Option (Nat × Int) → Int
  | none => (f i).at_
  | some x => if x.2 + lg x.1 + wkI p (f x.1) (f i) > (f i).at_ then x.2 + lg x.1 + wkI p (f x.1) (f i) else (f i).at_
def prc (p : Int) (f : Nat → Mv) (g lg : Nat → Int) (σ : Nat → Nat) : Nat → Prc
  | 0 => ⟨[], fun _ => 0⟩
  | k + 1 => ⟨setA (prc p f g lg σ k).M (g (σ k)) (σ k, begI p f lg (σ k) (getA (prc p f g lg σ k).M (g (σ k)))),
      updF (prc p f g lg σ k).o (σ k) (begI p f lg (σ k) (getA (prc p f g lg σ k).M (g (σ k))))⟩
theorem wkI_le {p : Int} {a b : Mv} (hp : 0 ≤ p ∧ p ≤ 3) (ha : 0 ≤ a.place ∧ a.place ≤ 30) (hb : 0 ≤ b.place ∧ b.place ≤ 30) : 0 ≤ wkI p a b ∧ wkI p a b ≤ 90 := by
  unfold wkI
  have key : ∀ x : Int, 0 ≤ x → x ≤ 30 → 0 ≤ p * x ∧ p * x ≤ 90 := fun x h1 h2 => by
    refine ⟨Int.mul_nonneg hp.1 h1, ?_⟩
    have h3 : p * x ≤ 3 * x := Int.mul_le_mul_of_nonneg_right hp.2 h1
    omega
  split
  · exact key _ (by omega) (by omega)
  · exact key _ (by omega) (by omega)
/-- What holds of the work so far. -/
structure PrcOK (n : Nat) (σ : Nat → Nat) (k : Nat) (s : Prc) : Prop where
  all : ∀ h x, getA s.M h = some x → x.1 < n ∧ s.o x.1 = x.2 ∧ doneB σ k x.1 = true ∧ 0 ≤ x.2 ∧ x.2 ≤ 200 + 110 * k
theorem begI_le {p : Int} {f : Nat → Mv} {lg : Nat → Int} {n k i : Nat} {σ : Nat → Nat} {s : Prc} (hs : PrcOK n σ k s) (hp : 0 ≤ p ∧ p ≤ 3) (hf : ∀ i, i < n → okMv (f i) = true) (hl : ∀ i, i < n → 0 ≤ lg i ∧ lg i ≤ 20) (hi : i < n) (h : Int) :
    (f i).at_ ≤ begI p f lg i (getA s.M h) ∧ 0 ≤ begI p f lg i (getA s.M h) ∧ begI p f lg i (getA s.M h) ≤ 200 + 110 * ((k : Int) + 1) := by
  have h1 := hf i hi
  simp only [okMv, Bool.and_eq_true, decide_eq_true_eq] at h1
  cases hg : getA s.M h with
  | none => simp only [begI]; omega
  | some x =>
    obtain ⟨a1, a2, a3, a4, a5⟩ := hs.all h x hg
    have h2 := hf x.1 a1
    simp only [okMv, Bool.and_eq_true, decide_eq_true_eq] at h2
    have h3 := wkI_le hp ⟨h2.2.2.1, h2.2.2.2.1⟩ ⟨h1.2.2.1, h1.2.2.2.1⟩
    have h4 := hl x.1 a1
    simp only [begI]
    split <;> omega
theorem prc_ok {p : Int} {f : Nat → Mv} {g lg : Nat → Int} {n : Nat} {A : Nat → Int} {σ : Nat → Nat} (hσ : Srt A n σ) (hp : 0 ≤ p ∧ p ≤ 3) (hf : ∀ i, i < n → okMv (f i) = true) (hl : ∀ i, i < n → 0 ≤ lg i ∧ lg i ≤ 20) (k : Nat) (hk : k ≤ n) : PrcOK n σ k (prc p f g lg σ k) := by
  induction k with
  | zero => exact ⟨fun h x hx => by cases hx⟩
  | succ k ih =>
    have ih := ih (by omega)
    have hi := hσ.lt k (by omega)
    obtain ⟨b1, b2, b3⟩ := begI_le (p := p) (lg := lg) ih hp hf hl hi (g (σ k))
    refine ⟨fun h x hx => ?_⟩
    simp only [prc] at hx ⊢
    rw [get_set] at hx
    split at hx
    · cases hx
      exact ⟨hi, updF_same _ _ _, by simp [doneB], b2, by omega⟩
    · obtain ⟨a1, a2, a3, a4, a5⟩ := ih.all h x hx
      have hne : x.1 ≠ σ k := fun e => by
        rw [e] at a3
        obtain ⟨j, h1, h2⟩ := doneB_iff.1 a3
        have := hσ.inj (by omega) (by omega) h2
        omega
      exact ⟨a1, by simp only [updF, if_neg hne]; exact a2, by simp [doneB, a3], a4, by omega⟩
/-- How late moves begin. -/
def lateF (p : Int) (f : Nat → Mv) (g lg : Nat → Int) (σ : Nat → Nat) (k i : Nat) : Int := if doneB σ k i then (prc p f g lg σ k).o i - (f i).at_ else 0
theorem lateF_succ {p : Int} {f : Nat → Mv} {g lg : Nat → Int} {σ : Nat → Nat} {k : Nat} : lateF p f g lg σ (k + 1) = updF (lateF p f g lg σ k) (σ k) (begI p f lg (σ k) (getA (prc p f g lg σ k).M (g (σ k))) - (f (σ k)).at_) := by
  funext i
  simp only [lateF, updF, doneB, prc]
  by_cases h : i = σ k
  · subst h
    simp
  · simp [h]
theorem lateF_end {p : Int} {f : Nat → Mv} {g lg : Nat → Int} {A : Nat → Int} {n : Nat} {σ : Nat → Nat} (hσ : Srt A n σ) {i : Nat} (hi : i < n) : lateF p f g lg σ n i = (prc p f g lg σ n).o i - (f i).at_ := by
  obtain ⟨j, h1, h2⟩ := hσ.all i hi
  simp only [lateF, doneB_iff.2 ⟨j, h1, h2⟩, if_true]
theorem doneB_succ {σ : Nat → Nat} {k : Nat} : doneB σ (k + 1) = fun i => if i = σ k then true else doneB σ k i := by
  funext i
  simp only [doneB]
  by_cases h : i = σ k <;> simp [h]
end Go.Ab

/- ABSTRACT MEMORY, 53: loops that go through some numbers; loops that may be left before. -/
namespace Go.Ab
open Go Go.RowKit
variable [TT] [PR]
section
variable {P : Program} {ro : Option Nat} {N : Nat} {V : Vx}
/-- A loop of n rounds. -/
theorem loop_forW (htt : TT.tt = true) (hV : VSound P N V) {p : Loc} {Ts : List Tw} {k n : Nat} {st : Nat → Nat × Hw} {e : AExit} (hk : ∀ T ∈ Ts, T.k = k) (hg : P.globals.size ≤ k) (he : e ≠ .normal ∧ exitOK e) (hcl : ∀ i, i ≤ n → ClW (st i).2)
    (round : ∀ i, i < n → ∀ R : Nat → AExit → Hw → Prop, R (st (i + 1)).1 .normal (st (i + 1)).2 → ∃ T hs, Ts[(st i).1]? = some T ∧ V.code ro (.l p) (leafW Ts R) (T.inst (st i).2) hs)
    (last : ∀ R : Nat → AExit → Hw → Prop, R (st n).1 e (st n).2 → ∃ T hs, Ts[(st n).1]? = some T ∧ V.code ro (.l p) (leafW Ts R) (T.inst (st n).2) hs)
    {T0 T1 : Tw} (h0 : Ts[(st 0).1]? = some T0) (h0k : T0.blocks.length ≤ k) (hs0 : k ≤ 1000000) (h1 : Ts[(st n).1]? = some T1) : LoopOW P ro p T0 (st 0).2 e T1 (st n).2 := by
  refine loop_vcW htt hV (Ts := Ts) (k := k) (X := Nat) (inv := fun i => i ≤ n) (μ := fun i => n - i) (st := st) (out := fun _ => (e, (st n).1, (st n).2)) hk hg (fun i hi => ?_) (Nat.zero_le n) (x := 0) h0 h0k hs0 h1
  by_cases h : i = n
  · subst h
    exact last _ ⟨⟨hcl i (Nat.le_refl i), he.2⟩, .inr ⟨he.1, rfl⟩⟩
  · exact round i (by omega) _ ⟨⟨hcl (i + 1) (by omega), trivial⟩, .inl ⟨rfl, i + 1, by omega, by show n - (i + 1) < n - i; omega, rfl, rfl⟩⟩
/-- What a loop comes to that may be left before. -/
def runX (ex : Nat → Option (AExit × Nat × Hw)) (fin : AExit × Nat × Hw) : Nat → Nat → AExit × Nat × Hw
  | 0, _ => fin
  | r + 1, i => match ex i with | some o => o | none => runX ex fin r (i + 1)
theorem loop_untilW (htt : TT.tt = true) (hV : VSound P N V) {p : Loc} {Ts : List Tw} {k n : Nat} {st : Nat → Nat × Hw} {e : AExit} {ex : Nat → Option (AExit × Nat × Hw)} (hk : ∀ T ∈ Ts, T.k = k) (hg : P.globals.size ≤ k) (he : e ≠ .normal ∧ exitOK e) (hcl : ∀ i, i ≤ n → ClW (st i).2)
    (hex : ∀ i o, i < n → ex i = some o → o.1 ≠ .normal ∧ exitOK o.1 ∧ ClW o.2.2)
    (round : ∀ i, i < n → ∀ R : Nat → AExit → Hw → Prop, (ex i = none → R (st (i + 1)).1 .normal (st (i + 1)).2) → (∀ o, ex i = some o → R o.2.1 o.1 o.2.2) → ∃ T hs, Ts[(st i).1]? = some T ∧ V.code ro (.l p) (leafW Ts R) (T.inst (st i).2) hs)
    (last : ∀ R : Nat → AExit → Hw → Prop, R (st n).1 e (st n).2 → ∃ T hs, Ts[(st n).1]? = some T ∧ V.code ro (.l p) (leafW Ts R) (T.inst (st n).2) hs)
    {s : Nat} (hsn : s ≤ n) {T0 T1 : Tw} (h0 : Ts[(st s).1]? = some T0) (h0k : T0.blocks.length ≤ k) (hs0 : k ≤ 1000000) (h1 : Ts[(runX ex (e, (st n).1, (st n).2) (n - s) s).2.1]? = some T1) :
    LoopOW P ro p T0 (st s).2 (runX ex (e, (st n).1, (st n).2) (n - s) s).1 T1 (runX ex (e, (st n).1, (st n).2) (n - s) s).2.2 := by
  refine loop_vcW htt hV (Ts := Ts) (k := k) (X := Nat) (inv := fun i => i ≤ n) (μ := fun i => n - i) (st := st) (out := fun i => runX ex (e, (st n).1, (st n).2) (n - i) i) hk hg (fun i hi => ?_) hsn (x := s) h0 h0k hs0 h1
  have step : i < n → runX ex (e, (st n).1, (st n).2) (n - i) i = match ex i with | some o => o | none => runX ex (e, (st n).1, (st n).2) (n - (i + 1)) (i + 1) := fun h => by
    have e1 : n - i = (n - (i + 1)) + 1 := by omega
    rw [e1]; rfl
  by_cases h : i = n
  · subst h
    refine last _ ⟨⟨hcl i (Nat.le_refl i), he.2⟩, .inr ⟨he.1, ?_⟩⟩
    simp only [Nat.sub_self, runX]
  · refine round i (by omega) _ (fun hx => ⟨⟨hcl (i + 1) (by omega), trivial⟩, .inl ⟨rfl, i + 1, by omega, by show n - (i + 1) < n - i; omega, rfl, ?_⟩⟩) (fun o hx => ⟨⟨(hex i o (by omega) hx).2.2, (hex i o (by omega) hx).2.1⟩, .inr ⟨(hex i o (by omega) hx).1, ?_⟩⟩)
    · have h2 := step (by omega)
      rw [hx] at h2
      exact h2.symm
    · have h2 := step (by omega)
      rw [hx] at h2
      exact h2
theorem runX_none {ex : Nat → Option (AExit × Nat × Hw)} {fin : AExit × Nat × Hw} : ∀ {r i : Nat}, (∀ j, i ≤ j → j < i + r → ex j = none) → runX ex fin r i = fin := by
  have _ := TT.tt
  have _ := PR.prog
  intro r
  induction r with
  | zero => intro i _; rfl
  | succ r ih =>
    intro i h
    simp only [runX, h i (Nat.le_refl i) (by omega)]
    exact ih fun j h1 h2 => h j (by omega) (by omega)
end
end Go.Ab

/- FORMS OF STATES AT LOOPS' HEADS: the sort. -/
set_option maxRecDepth 100000
namespace Go.Ab
open Go Go.RowKit Go.Proofs
noncomputable def m3 (ms js : List Value) : Mem := ⟨fillX [.cells ms 1 .ro, .dead, .cells js 63 .row] 0 .nil, 3⟩
noncomputable def cmpV : Value := .func (.func 106) #[] #[]
def p106i : Loc := .l (.r (.l (.l (.r (.l (.l (.r (.top 112))))))))
def p106o : Loc := .l (.r (.top 112))
noncomputable def T106i : Tw := ⟨53, mkS 53 [(0, .slice 2 0 .nil), (1, .val (I 0) .nil), (2, .hole .nil), (3, .func 106 .nil .nil .nil), (8, .hole .nil), (9, .hole .nil)], 3, [.dead, .dead, .list 63 .row]⟩
noncomputable def T106o : Tw := ⟨53, mkS 53 [(0, .slice 2 0 .nil), (1, .val (I 0) .nil), (2, .hole .nil), (3, .func 106 .nil .nil .nil), (8, .hole .nil)], 3, [.dead, .dead, .list 63 .row]⟩
/-- The jobs in an order. -/
noncomputable def ordC (n : Nat) (f : Nat → Mv) (τ : Nat → Nat) : List Value := flatC n fun i => jobV f (τ i)
end Go.Ab

/- the sort: insertion, by the program. -/
set_option maxRecDepth 100000
namespace Go.Ab
open Go Go.RowKit Go.Proofs
theorem b106i (i j n : Nat) (f : Nat → Mv) (τ : Nat → Nat) (js : List Value) (R : Nat → AExit → Hw → Prop)  : (vx.code none (.l p106i) (leafW [T106i] R) (T106i.inst ⟨⟨[I n, I i, I (j + 1 : Nat)], [(n, n)]⟩, [js], []⟩) ([(2, .split ((4, .val (.pointer (.some ⟨((2 : Nat)), ((0 : Nat) + (↑(j + (1 : Nat)) : Int).toNat * (5 : Nat)), .none⟩))) :: (0, .val (.agg ⟨[(.int IntKind.i64 ((f (τ (↑(j + (1 : Nat)) : Int).toNat)).at_)), (.int IntKind.i64 ((f (τ (↑(j + (1 : Nat)) : Int).toNat)).place)), (.int IntKind.i64 ((f (τ (↑(j + (1 : Nat)) : Int).toNat)).lo)), (.int IntKind.i64 ((f (τ (↑(j + (1 : Nat)) : Int).toNat)).hi)), (.int IntKind.i64 ((↑(τ (↑(j + (1 : Nat)) : Int).toNat) : Int)))]⟩)) :: (3, .val (.pointer (.some ⟨((2 : Nat)), ((0 : Nat) + (IntKind.i64.wrap ((↑(j + (1 : Nat)) : Int) - (1 : Int))).toNat * (5 : Nat)), .none⟩))) :: (0, .val (.agg ⟨[(.int IntKind.i64 ((f (τ (IntKind.i64.wrap ((↑(j + (1 : Nat)) : Int) - (1 : Int))).toNat)).at_)), (.int IntKind.i64 ((f (τ (IntKind.i64.wrap ((↑(j + (1 : Nat)) : Int) - (1 : Int))).toNat)).place)), (.int IntKind.i64 ((f (τ (IntKind.i64.wrap ((↑(j + (1 : Nat)) : Int) - (1 : Int))).toNat)).lo)), (.int IntKind.i64 ((f (τ (IntKind.i64.wrap ((↑(j + (1 : Nat)) : Int) - (1 : Int))).toNat)).hi)), (.int IntKind.i64 ((↑(τ (IntKind.i64.wrap ((↑(j + (1 : Nat)) : Int) - (1 : Int))).toNat) : Int)))]⟩)) :: (17, .val (.bool false)) :: (7, .val (.bool false)) :: [(8, .split ((14, .val (.pointer (.some ⟨((2 : Nat)), ((0 : Nat) + (IntKind.i64.wrap ((↑(j + (1 : Nat)) : Int) - (1 : Int))).toNat * (5 : Nat)), .none⟩))) :: (0, .val (.agg ⟨[(.int IntKind.i64 ((f (τ (IntKind.i64.wrap ((↑(j + (1 : Nat)) : Int) - (1 : Int))).toNat)).at_)), (.int IntKind.i64 ((f (τ (IntKind.i64.wrap ((↑(j + (1 : Nat)) : Int) - (1 : Int))).toNat)).place)), (.int IntKind.i64 ((f (τ (IntKind.i64.wrap ((↑(j + (1 : Nat)) : Int) - (1 : Int))).toNat)).lo)), (.int IntKind.i64 ((f (τ (IntKind.i64.wrap ((↑(j + (1 : Nat)) : Int) - (1 : Int))).toNat)).hi)), (.int IntKind.i64 ((↑(τ (IntKind.i64.wrap ((↑(j + (1 : Nat)) : Int) - (1 : Int))).toNat) : Int)))]⟩)) :: (2, .val (.pointer (.some ⟨((2 : Nat)), ((0 : Nat) + (↑(j + (1 : Nat)) : Int).toNat * (5 : Nat)), .none⟩))) :: (0, .val (.agg ⟨[(.int IntKind.i64 ((f (τ (↑(j + (1 : Nat)) : Int).toNat)).at_)), (.int IntKind.i64 ((f (τ (↑(j + (1 : Nat)) : Int).toNat)).place)), (.int IntKind.i64 ((f (τ (↑(j + (1 : Nat)) : Int).toNat)).lo)), (.int IntKind.i64 ((f (τ (↑(j + (1 : Nat)) : Int).toNat)).hi)), (.int IntKind.i64 ((↑(τ (↑(j + (1 : Nat)) : Int).toNat) : Int)))]⟩)) :: (0, .val (.pointer (.some ⟨((2 : Nat)), ((0 : Nat) + (↑(j + (1 : Nat)) : Int).toNat * (5 : Nat)), .none⟩))) :: (0, Hint.st) :: (0, .val (.pointer (.some ⟨((2 : Nat)), ((0 : Nat) + (IntKind.i64.wrap ((↑(j + (1 : Nat)) : Int) - (1 : Int))).toNat * (5 : Nat)), .none⟩))) :: (0, Hint.st) :: [(3, Hint.tm (0 : Nat) [])]) ([(3, .split ([(6, Hint.tm (0 : Nat) [])]) ([(6, Hint.tm (0 : Nat) [])]))]))]) ([(3, Hint.tm (0 : Nat) [])]))])) =
((((decide ((↑(j + (1 : Nat)) : Int) > (0 : Int))) = true → ((((((0 : Int) ≤ (↑(j + (1 : Nat)) : Int))) ∧ (((↑(j + (1 : Nat)) : Int) < (↑n : Int)))) ∧ (((.pointer (.some ⟨((2 : Nat)), ((0 : Nat) + (↑(j + (1 : Nat)) : Int).toNat * (5 : Nat)), .none⟩)) : Value) = (.pointer (.some ⟨((2 : Nat)), ((0 : Nat) + (↑(j + (1 : Nat)) : Int).toNat * (5 : Nat)), .none⟩)))) ∧
(((((0 : Nat) + (↑(j + (1 : Nat)) : Int).toNat * (5 : Nat) + (5 : Nat) ≤ js.length)) ∧ (((.agg ⟨[(.int IntKind.i64 ((f (τ (↑(j + (1 : Nat)) : Int).toNat)).at_)), (.int IntKind.i64 ((f (τ (↑(j + (1 : Nat)) : Int).toNat)).place)), (.int IntKind.i64 ((f (τ (↑(j + (1 : Nat)) : Int).toNat)).lo)), (.int IntKind.i64 ((f (τ (↑(j + (1 : Nat)) : Int).toNat)).hi)), (.int IntKind.i64 ((↑(τ (↑(j + (1 : Nat)) : Int).toNat) : Int)))]⟩) : Value) = (.agg ⟨(List.take ((5 : Nat)) (List.drop ((0 : Nat) + (↑(j + (1 : Nat)) : Int).toNat * (5 : Nat)) (js)))⟩))) ∧
((((((0 : Int) ≤ IntKind.i64.wrap ((↑(j + (1 : Nat)) : Int) - (1 : Int)))) ∧ ((IntKind.i64.wrap ((↑(j + (1 : Nat)) : Int) - (1 : Int)) < (↑n : Int)))) ∧ (((.pointer (.some ⟨((2 : Nat)), ((0 : Nat) + (IntKind.i64.wrap ((↑(j + (1 : Nat)) : Int) - (1 : Int))).toNat * (5 : Nat)), .none⟩)) : Value) = (.pointer (.some ⟨((2 : Nat)), ((0 : Nat) + (IntKind.i64.wrap ((↑(j + (1 : Nat)) : Int) - (1 : Int))).toNat * (5 : Nat)), .none⟩)))) ∧
(((((0 : Nat) + (IntKind.i64.wrap ((↑(j + (1 : Nat)) : Int) - (1 : Int))).toNat * (5 : Nat) + (5 : Nat) ≤ js.length)) ∧ (((.agg ⟨[(.int IntKind.i64 ((f (τ (IntKind.i64.wrap ((↑(j + (1 : Nat)) : Int) - (1 : Int))).toNat)).at_)), (.int IntKind.i64 ((f (τ (IntKind.i64.wrap ((↑(j + (1 : Nat)) : Int) - (1 : Int))).toNat)).place)), (.int IntKind.i64 ((f (τ (IntKind.i64.wrap ((↑(j + (1 : Nat)) : Int) - (1 : Int))).toNat)).lo)), (.int IntKind.i64 ((f (τ (IntKind.i64.wrap ((↑(j + (1 : Nat)) : Int) - (1 : Int))).toNat)).hi)), (.int IntKind.i64 ((↑(τ (IntKind.i64.wrap ((↑(j + (1 : Nat)) : Int) - (1 : Int))).toNat) : Int)))]⟩) : Value) = (.agg ⟨(List.take ((5 : Nat)) (List.drop ((0 : Nat) + (IntKind.i64.wrap ((↑(j + (1 : Nat)) : Int) - (1 : Int))).toNat * (5 : Nat)) (js)))⟩))) ∧
((((some (.bool ((f (τ (↑(j + (1 : Nat)) : Int).toNat)).at_ != (f (τ (↑(j + (1 : Nat)) : Int).toNat)).at_)) : Option Value) = some (.bool false))) ∧
((((some (.bool ((f (τ (IntKind.i64.wrap ((↑(j + (1 : Nat)) : Int) - (1 : Int))).toNat)).at_ !=   (f (τ (IntKind.i64.wrap ((↑(j + (1 : Nat)) : Int) - (1 : Int))).toNat)).at_)) : Option Value) = some (.bool false))) ∧
(((decide   ((f (τ (↑(j + (1 : Nat)) : Int).toNat)).at_ <     (f (τ (IntKind.i64.wrap ((↑(j + (1 : Nat)) : Int) - (1 : Int))).toNat)).at_)) = true → ((((((0 : Int) ≤ IntKind.i64.wrap ((↑(j + (1 : Nat)) : Int) - (1 : Int)))) ∧ ((IntKind.i64.wrap ((↑(j + (1 : Nat)) : Int) - (1 : Int)) < (↑n : Int)))) ∧ (((.pointer (.some ⟨((2 : Nat)), ((0 : Nat) + (IntKind.i64.wrap ((↑(j + (1 : Nat)) : Int) - (1 : Int))).toNat * (5 : Nat)), .none⟩)) : Value) = (.pointer (.some ⟨((2 : Nat)), ((0 : Nat) + (IntKind.i64.wrap ((↑(j + (1 : Nat)) : Int) - (1 : Int))).toNat * (5 : Nat)), .none⟩)))) ∧
(((((0 : Nat) + (IntKind.i64.wrap ((↑(j + (1 : Nat)) : Int) - (1 : Int))).toNat * (5 : Nat) + (5 : Nat) ≤ js.length)) ∧ (((.agg ⟨[(.int IntKind.i64 ((f (τ (IntKind.i64.wrap ((↑(j + (1 : Nat)) : Int) - (1 : Int))).toNat)).at_)), (.int IntKind.i64 ((f (τ (IntKind.i64.wrap ((↑(j + (1 : Nat)) : Int) - (1 : Int))).toNat)).place)), (.int IntKind.i64 ((f (τ (IntKind.i64.wrap ((↑(j + (1 : Nat)) : Int) - (1 : Int))).toNat)).lo)), (.int IntKind.i64 ((f (τ (IntKind.i64.wrap ((↑(j + (1 : Nat)) : Int) - (1 : Int))).toNat)).hi)), (.int IntKind.i64 ((↑(τ (IntKind.i64.wrap ((↑(j + (1 : Nat)) : Int) - (1 : Int))).toNat) : Int)))]⟩) : Value) = (.agg ⟨(List.take ((5 : Nat)) (List.drop ((0 : Nat) + (IntKind.i64.wrap ((↑(j + (1 : Nat)) : Int) - (1 : Int))).toNat * (5 : Nat)) (js)))⟩))) ∧
((((((0 : Int) ≤ (↑(j + (1 : Nat)) : Int))) ∧ (((↑(j + (1 : Nat)) : Int) < (↑n : Int)))) ∧ (((.pointer (.some ⟨((2 : Nat)), ((0 : Nat) + (↑(j + (1 : Nat)) : Int).toNat * (5 : Nat)), .none⟩)) : Value) = (.pointer (.some ⟨((2 : Nat)), ((0 : Nat) + (↑(j + (1 : Nat)) : Int).toNat * (5 : Nat)), .none⟩)))) ∧
(((((0 : Nat) + (↑(j + (1 : Nat)) : Int).toNat * (5 : Nat) + (5 : Nat) ≤ js.length)) ∧ (((.agg ⟨[(.int IntKind.i64 ((f (τ (↑(j + (1 : Nat)) : Int).toNat)).at_)), (.int IntKind.i64 ((f (τ (↑(j + (1 : Nat)) : Int).toNat)).place)), (.int IntKind.i64 ((f (τ (↑(j + (1 : Nat)) : Int).toNat)).lo)), (.int IntKind.i64 ((f (τ (↑(j + (1 : Nat)) : Int).toNat)).hi)), (.int IntKind.i64 ((↑(τ (↑(j + (1 : Nat)) : Int).toNat) : Int)))]⟩) : Value) = (.agg ⟨(List.take ((5 : Nat)) (List.drop ((0 : Nat) + (↑(j + (1 : Nat)) : Int).toNat * (5 : Nat)) (js)))⟩))) ∧
((((((0 : Int) ≤ (↑(j + (1 : Nat)) : Int))) ∧ (((↑(j + (1 : Nat)) : Int) < (↑n : Int)))) ∧ (((.pointer (.some ⟨((2 : Nat)), ((0 : Nat) + (↑(j + (1 : Nat)) : Int).toNat * (5 : Nat)), .none⟩)) : Value) = (.pointer (.some ⟨((2 : Nat)), ((0 : Nat) + (↑(j + (1 : Nat)) : Int).toNat * (5 : Nat)), .none⟩)))) ∧
((((0 : Nat) + (↑(j + (1 : Nat)) : Int).toNat * (5 : Nat) + (5 : Nat) ≤ js.length)) ∧ 
((((((0 : Int) ≤ IntKind.i64.wrap ((↑(j + (1 : Nat)) : Int) - (1 : Int)))) ∧ ((IntKind.i64.wrap ((↑(j + (1 : Nat)) : Int) - (1 : Int)) < (↑n : Int)))) ∧ (((.pointer (.some ⟨((2 : Nat)), ((0 : Nat) + (IntKind.i64.wrap ((↑(j + (1 : Nat)) : Int) - (1 : Int))).toNat * (5 : Nat)), .none⟩)) : Value) = (.pointer (.some ⟨((2 : Nat)), ((0 : Nat) + (IntKind.i64.wrap ((↑(j + (1 : Nat)) : Int) - (1 : Int))).toNat * (5 : Nat)), .none⟩)))) ∧
((((0 : Nat) + (IntKind.i64.wrap ((↑(j + (1 : Nat)) : Int) - (1 : Int))).toNat * (5 : Nat) + (5 : Nat) ≤   (List.take ((0 : Nat) + (↑(j + (1 : Nat)) : Int).toNat * (5 : Nat)) js ++         [Value.int IntKind.i64 (f (τ (IntKind.i64.wrap ((↑(j + (1 : Nat)) : Int) - (1 : Int))).toNat)).at_,           Value.int IntKind.i64 (f (τ (IntKind.i64.wrap ((↑(j + (1 : Nat)) : Int) - (1 : Int))).toNat)).place,           Value.int IntKind.i64 (f (τ (IntKind.i64.wrap ((↑(j + (1 : Nat)) : Int) - (1 : Int))).toNat)).lo,           Value.int IntKind.i64 (f (τ (IntKind.i64.wrap ((↑(j + (1 : Nat)) : Int) - (1 : Int))).toNat)).hi,           Value.int IntKind.i64 (↑(τ (IntKind.i64.wrap ((↑(j + (1 : Nat)) : Int) - (1 : Int))).toNat) : Int)] ++       List.drop ((0 : Nat) + (↑(j + (1 : Nat)) : Int).toNat * (5 : Nat) + (5 : Nat)) js).length)) ∧ 
R ((0 : Nat)) .normal ⟨⟨[(.int IntKind.i64 ((↑n : Int))), (.int IntKind.i64 ((↑i : Int))), (.int IntKind.i64 (IntKind.i64.wrap ((↑(j + (1 : Nat)) : Int) - (1 : Int))))], [⟨(n), (n)⟩]⟩, [(((List.take ((0 : Nat) + (IntKind.i64.wrap ((↑(j + (1 : Nat)) : Int) - (1 : Int))).toNat * (5 : Nat)) (((List.take ((0 : Nat) + (↑(j + (1 : Nat)) : Int).toNat * (5 : Nat)) (js)) ++ [(.int IntKind.i64 ((f (τ (IntKind.i64.wrap ((↑(j + (1 : Nat)) : Int) - (1 : Int))).toNat)).at_)), (.int IntKind.i64 ((f (τ (IntKind.i64.wrap ((↑(j + (1 : Nat)) : Int) - (1 : Int))).toNat)).place)), (.int IntKind.i64 ((f (τ (IntKind.i64.wrap ((↑(j + (1 : Nat)) : Int) - (1 : Int))).toNat)).lo)), (.int IntKind.i64 ((f (τ (IntKind.i64.wrap ((↑(j + (1 : Nat)) : Int) - (1 : Int))).toNat)).hi)), (.int IntKind.i64 ((↑(τ (IntKind.i64.wrap ((↑(j + (1 : Nat)) : Int) - (1 : Int))).toNat) : Int)))]) ++ (List.drop ((0 : Nat) + (↑(j + (1 : Nat)) : Int).toNat * (5 : Nat) + (5 : Nat)) (js)))) ++ [(.int IntKind.i64 ((f (τ (↑(j + (1 : Nat)) : Int).toNat)).at_)), (.int IntKind.i64 ((f (τ (↑(j + (1 : Nat)) : Int).toNat)).place)), (.int IntKind.i64 ((f (τ (↑(j + (1 : Nat)) : Int).toNat)).lo)), (.int IntKind.i64 ((f (τ (↑(j + (1 : Nat)) : Int).toNat)).hi)), (.int IntKind.i64 ((↑(τ (↑(j + (1 : Nat)) : Int).toNat) : Int)))]) ++ (List.drop ((0 : Nat) + (IntKind.i64.wrap ((↑(j + (1 : Nat)) : Int) - (1 : Int))).toNat * (5 : Nat) + (5 : Nat)) (((List.take ((0 : Nat) + (↑(j + (1 : Nat)) : Int).toNat * (5 : Nat)) (js)) ++ [(.int IntKind.i64 ((f (τ (IntKind.i64.wrap ((↑(j + (1 : Nat)) : Int) - (1 : Int))).toNat)).at_)), (.int IntKind.i64 ((f (τ (IntKind.i64.wrap ((↑(j + (1 : Nat)) : Int) - (1 : Int))).toNat)).place)), (.int IntKind.i64 ((f (τ (IntKind.i64.wrap ((↑(j + (1 : Nat)) : Int) - (1 : Int))).toNat)).lo)), (.int IntKind.i64 ((f (τ (IntKind.i64.wrap ((↑(j + (1 : Nat)) : Int) - (1 : Int))).toNat)).hi)), (.int IntKind.i64 ((↑(τ (IntKind.i64.wrap ((↑(j + (1 : Nat)) : Int) - (1 : Int))).toNat) : Int)))]) ++ (List.drop ((0 : Nat) + (↑(j + (1 : Nat)) : Int).toNat * (5 : Nat) + (5 : Nat)) (js)))))], []⟩))))))))) ∧
((decide   ((f (τ (↑(j + (1 : Nat)) : Int).toNat)).at_ <     (f (τ (IntKind.i64.wrap ((↑(j + (1 : Nat)) : Int) - (1 : Int))).toNat)).at_)) = false → (((decide   ((f (τ (↑(j + (1 : Nat)) : Int).toNat)).at_ >     (f (τ (IntKind.i64.wrap ((↑(j + (1 : Nat)) : Int) - (1 : Int))).toNat)).at_)) = true → R ((0 : Nat)) (.exit ((2 : Nat))) ⟨⟨[(.int IntKind.i64 ((↑n : Int))), (.int IntKind.i64 ((↑i : Int))), (.int IntKind.i64 ((↑(j + (1 : Nat)) : Int)))], [⟨(n), (n)⟩]⟩, [(js)], []⟩) ∧
((decide   ((f (τ (↑(j + (1 : Nat)) : Int).toNat)).at_ >     (f (τ (IntKind.i64.wrap ((↑(j + (1 : Nat)) : Int) - (1 : Int))).toNat)).at_)) = false → R ((0 : Nat)) (.exit ((2 : Nat))) ⟨⟨[(.int IntKind.i64 ((↑n : Int))), (.int IntKind.i64 ((↑i : Int))), (.int IntKind.i64 ((↑(j + (1 : Nat)) : Int)))], [⟨(n), (n)⟩]⟩, [(js)], []⟩))))))))))) ∧
((decide ((↑(j + (1 : Nat)) : Int) > (0 : Int))) = false → R ((0 : Nat)) (.exit ((2 : Nat))) ⟨⟨[(.int IntKind.i64 ((↑n : Int))), (.int IntKind.i64 ((↑i : Int))), (.int IntKind.i64 ((↑(j + (1 : Nat)) : Int)))], [⟨(n), (n)⟩]⟩, [(js)], []⟩))) := by kernel_rfl

theorem b106z (i n : Nat) (js : List Value) (R : Nat → AExit → Hw → Prop)  : (vx.code none (.l p106i) (leafW [T106i] R) (T106i.inst ⟨⟨[I n, I i, I (0 : Nat)], [(n, n)]⟩, [js], []⟩) ([(6, Hint.tm (0 : Nat) [])])) =
(R ((0 : Nat)) (.exit ((2 : Nat))) ⟨⟨[(.int IntKind.i64 ((↑n : Int))), (.int IntKind.i64 ((↑i : Int))), (.int IntKind.i64 ((↑(0 : Nat) : Int)))], [⟨(n), (n)⟩]⟩, [(js)], []⟩) := by kernel_rfl

theorem b106o (i j n : Nat) (js js' : List Value) (R : Nat → AExit → Hw → Prop)  : (vx.code none (.l p106o) (leafW [T106o] R) (T106o.inst ⟨⟨[I n, I i], [(n, n)]⟩, [js], []⟩) ([(2, .split ((3, Hint.loopW T106i (AExit.exit (2 : Nat)) T106i fun _ =>   { hs := { vs := [I (↑n : Int), I (↑i : Int), I (↑j : Int)], ns := [(n, n)] }, ls := [js'], es := [] }) :: [(3, Hint.tm (0 : Nat) [])]) ([(1, Hint.tm (0 : Nat) [])]))])) =
((((decide ((↑i : Int) < (↑n : Int))) = true → ((ClW ⟨⟨[(.int IntKind.i64 ((↑n : Int))), (.int IntKind.i64 ((↑i : Int))), (.int IntKind.i64 ((↑i : Int)))], [⟨(n), (n)⟩]⟩, [(js)], []⟩) ∧ (LoopOW Tryz.prog .none p106i (T106i) ⟨⟨[(.int IntKind.i64 ((↑n : Int))), (.int IntKind.i64 ((↑i : Int))), (.int IntKind.i64 ((↑i : Int)))], [⟨(n), (n)⟩]⟩, [(js)], []⟩ (.exit ((2 : Nat))) (T106i) ⟨⟨[(.int IntKind.i64 ((↑n : Int))), (.int IntKind.i64 ((↑i : Int))), (.int IntKind.i64 ((↑j : Int)))], [⟨(n), (n)⟩]⟩, [(js')], []⟩) ∧ 
R ((0 : Nat)) .normal ⟨⟨[(.int IntKind.i64 ((↑n : Int))), (.int IntKind.i64 (IntKind.i64.wrap ((↑i : Int) + (1 : Int))))], [⟨(n), (n)⟩]⟩, [(js')], []⟩)) ∧
((decide ((↑i : Int) < (↑n : Int))) = false → R ((0 : Nat)) (.exit ((0 : Nat))) ⟨⟨[(.int IntKind.i64 ((↑n : Int))), (.int IntKind.i64 ((↑i : Int)))], [⟨(n), (n)⟩]⟩, [(js)], []⟩))) := by kernel_rfl

theorem ordC_len (n : Nat) (f : Nat → Mv) (τ : Nat → Nat) : (ordC n f τ).length = n * 5 := flatC_len fun i _ => rfl
theorem ordC_part {n i : Nat} (f : Nat → Mv) (τ : Nat → Nat) (h : i < n) : ((ordC n f τ).drop (0 + i * 5)).take 5 = jobV f (τ i) := by
  rw [Nat.zero_add]; exact flatC_part (k := 5) (fun i _ => rfl) h
theorem ordC_atoms (n : Nat) (f : Nat → Mv) (τ : Nat → Nat) : ∀ v ∈ ordC n f τ, atomic v = true := by
  refine flatC_atomic fun i _ v hv => ?_
  simp only [jobV, List.mem_cons, List.not_mem_nil, or_false] at hv
  rcases hv with rfl | rfl | rfl | rfl | rfl <;> rfl
theorem ordC_put {n i : Nat} (f : Nat → Mv) (τ : Nat → Nat) (m : Nat) (h : i < n) : (ordC n f τ).take (0 + i * 5) ++ jobV f m ++ (ordC n f τ).drop (0 + i * 5 + 5) = ordC n f (fun x => if x = i then m else τ x) := by
  have e := flatC_set (n := n) (k := 5) (g := fun i => jobV f (τ i)) (fun _ _ => rfl) h (v := jobV f m) rfl
  rw [Nat.zero_add]
  refine (show _ = _ from e).trans ?_
  refine flatC_congr fun x _ => ?_
  simp only
  split <;> rfl
theorem ordC_swap {n j : Nat} (f : Nat → Mv) (τ : Nat → Nat) (h : j + 1 < n) :
    ((ordC n f τ).take (0 + (j + 1) * 5) ++ jobV f (τ j) ++ (ordC n f τ).drop (0 + (j + 1) * 5 + 5)).take (0 + j * 5) ++ jobV f (τ (j + 1)) ++ ((ordC n f τ).take (0 + (j + 1) * 5) ++ jobV f (τ j) ++ (ordC n f τ).drop (0 + (j + 1) * 5 + 5)).drop (0 + j * 5 + 5) = ordC n f (swp τ (j + 1) j) := by
  rw [ordC_put f τ (τ j) h, ordC_put f _ (τ (j + 1)) (show j < n by omega)]
  congr 1
  funext x
  simp only [swp]
  by_cases h1 : x = j
  · subst h1
    rw [if_pos rfl, if_neg (by omega), if_pos rfl]
  · rw [if_neg h1]
    by_cases h2 : x = j + 1
    · rw [if_pos h2, if_pos h2]
    · rw [if_neg h2, if_neg h2, if_neg h1]
/-- Where a job comes to lie. -/
def sinkJ (A : Nat → Int) : Nat → (Nat → Nat) → Nat
  | 0, _ => 0
  | j + 1, τ => if A (τ (j + 1)) < A (τ j) then sinkJ A j (swp τ (j + 1) j) else j + 1
noncomputable def h106i (n i : Nat) (f : Nat → Mv) (x : Nat × (Nat → Nat)) : Hw := ⟨⟨[I n, I i, I x.1], [(n, n)]⟩, [ordC n f x.2], []⟩
theorem cl1 {cs : List Value} (h : ∀ v ∈ cs, atomic v = true) {hs : Hs} : ClW ⟨hs, [cs], []⟩ := ⟨fun c hc => by simp only [List.mem_singleton] at hc; subst hc; exact h, fun es he => by cases he⟩
theorem round106i {n i j : Nat} {f : Nat → Mv} {τ : Nat → Nat} (hn : n ≤ 1000000) (hj : j + 1 < n) {R : Nat → AExit → Hw → Prop}
    (h1 : (f (τ (j + 1))).at_ < (f (τ j)).at_ → R 0 .normal (h106i n i f (j, swp τ (j + 1) j))) (h2 : ¬ (f (τ (j + 1))).at_ < (f (τ j)).at_ → R 0 (.exit 2) (h106i n i f (j + 1, τ))) :
    ∃ hs, vx.code none (.l p106i) (leafW [T106i] R) (T106i.inst (h106i n i f (j + 1, τ))) hs := by
  refine ⟨_, (b106i i j n f τ (ordC n f τ) R).mpr ?_⟩
  have hw : IntKind.i64.wrap (((j + 1 : Nat) : Int) - 1) = (j : Int) := by rw [wrapI (by omega) (by omega)]; omega
  rw [hw]
  simp only [Int.toNat_natCast]
  have e := ordC_swap f τ hj
  have e1 := ordC_put f τ (τ j) hj
  have el := ordC_len n f (fun x => if x = j + 1 then τ j else τ x)
  rw [← e1] at el
  simp only [h106i, ← e] at h1
  have l1 := flatC_bound (k := 5) hj
  have l2 := flatC_bound (k := 5) (show j < n by omega)
  repeat' (first | with_reducible apply And.intro | with_reducible intro)
  all_goals first
    | omega
    | rfl
    | (rw [ordC_len]; omega)
    | (rw [ordC_part f τ hj]; rfl)
    | (rw [ordC_part f τ (show j < n by omega)]; rfl)
    | (show _ ≤ ((ordC n f τ).take (0 + (j + 1) * 5) ++ jobV f (τ j) ++ (ordC n f τ).drop (0 + (j + 1) * 5 + 5)).length; rw [el]; omega)
    | (refine h1 ?_; simp_all; done)
    | (refine h2 ?_; simp_all; done)
    | (refine h2 ?_; simp_all; omega)
    | (simp; done)
theorem loop106i {n i : Nat} {f : Nat → Mv} {τ : Nat → Nat} (hn : n ≤ 1000000) (hi : i < n) : LoopOW Tryz.prog none p106i T106i (h106i n i f (i, τ)) (.exit 2) T106i (h106i n i f (sinkJ (fun i => (f i).at_) i τ, sink (fun i => (f i).at_) i τ)) := by
  refine loop_vcW (Ts := [T106i]) (k := 3) (X := Nat × (Nat → Nat)) (inv := fun x => x.1 ≤ i) (μ := fun x => x.1) (st := fun x => (0, h106i n i f x)) (out := fun x => (.exit 2, 0, h106i n i f (sinkJ (fun i => (f i).at_) x.1 x.2, sink (fun i => (f i).at_) x.1 x.2))) rfl vx_sound (by simp [T106i]) (by rw [nglob]; omega) (fun x hx => ?_) (x := (i, τ)) (Nat.le_refl i) rfl (Nat.le_of_ble_eq_true rfl) (by decide) rfl
  obtain ⟨j, τ⟩ := x
  cases j with
  | zero => exact ⟨T106i, _, rfl, (b106z i n (ordC n f τ) _).mpr ⟨⟨cl1 (ordC_atoms n f τ), trivial⟩, .inr ⟨by simp, rfl⟩⟩⟩
  | succ j =>
    have hj : j + 1 ≤ i := hx
    obtain ⟨hs, h⟩ := round106i (n := n) (i := i) (j := j) (f := f) (τ := τ) hn (by omega) (R := RoundW (fun x => x.1 ≤ i) (fun x => x.1) (fun x => (0, h106i n i f x)) (fun x => (.exit 2, 0, h106i n i f (sinkJ (fun i => (f i).at_) x.1 x.2, sink (fun i => (f i).at_) x.1 x.2))) (j + 1, τ))
      (fun h => ⟨⟨cl1 (ordC_atoms n f _), trivial⟩, .inl ⟨rfl, (j, swp τ (j + 1) j), by show j ≤ i; omega, Nat.lt_succ_self j, rfl, by simp only [sinkJ, sink, if_pos h]⟩⟩)
      (fun h => ⟨⟨cl1 (ordC_atoms n f _), trivial⟩, .inr ⟨by simp, by simp only [sinkJ, sink, if_neg h]⟩⟩)
    exact ⟨T106i, hs, rfl, h⟩
noncomputable def h106o (n : Nat) (f : Nat → Mv) (i : Nat) : Hw := ⟨⟨[I n, I i], [(n, n)]⟩, [ordC n f (srt (fun i => (f i).at_) i)], []⟩
theorem srt1 (A : Nat → Int) : srt A 1 = srt A 0 := rfl
/-- From the second job on: i jobs are in order. -/
theorem loop106o {n : Nat} {f : Nat → Mv} (h0 : 0 < n) (hn : n ≤ 1000000) : LoopOW Tryz.prog none p106o T106o (h106o n f 1) (.exit 0) T106o (h106o n f n) := by
  have := loop_forW (P := Tryz.prog) (ro := none) (p := p106o) (Ts := [T106o]) (k := 3) (n := n - 1) (st := fun i => (0, h106o n f (i + 1))) (e := .exit 0) rfl vx_sound (by simp [T106o]) (by rw [nglob]; omega) ⟨by simp, trivial⟩ (fun i hi => cl1 (ordC_atoms n f _))
    (fun i hi R hR => ?_) (fun R hR => ?_) (T0 := T106o) (T1 := T106o) rfl (Nat.le_of_ble_eq_true rfl) (by decide) rfl
  · have e : n - 1 + 1 = n := by omega
    simp only [e] at this
    exact this
  · refine ⟨T106o, _, rfl, (b106o (i + 1) (sinkJ (fun i => (f i).at_) (i + 1) (srt (fun i => (f i).at_) (i + 1))) n (ordC n f (srt (fun i => (f i).at_) (i + 1))) (ordC n f (srt (fun i => (f i).at_) (i + 2))) R).mpr ⟨fun h => ?_, fun h => ?_⟩⟩
    · have hw : IntKind.i64.wrap (((i + 1 : Nat) : Int) + 1) = ((i + 1 + 1 : Nat) : Int) := wrapI (by omega) (by omega)
      rw [hw]
      exact ⟨cl1 (ordC_atoms n f _), loop106i hn (by omega), hR⟩
    · have h := of_decide_eq_false h
      omega
  · have e : n - 1 + 1 = n := by omega
    simp only [e] at hR ⊢
    refine ⟨T106o, _, rfl, (b106o n 0 n (ordC n f (srt (fun i => (f i).at_) n)) [] R).mpr ⟨fun h => ?_, fun h => hR⟩⟩
    have h := of_decide_eq_true h
    omega
end Go.Ab

/- package horse: the moves in the order in which horses do them. -/
set_option maxRecDepth 100000
namespace Go.Ab
open Go Go.RowKit Go.Proofs
theorem f91 (p : Int) (n c : Nat) (f : Nat → Mv) (js : List Value) (R : Hx → Prop)  : (vx.call 98 [hV p n c] (retN (rowT 1 63) R) (m1 (mvs n f)) ((4, Hint.conN (C49 p n c f)) :: (15, .val (.bool false)) :: (9, Hint.loopW T106o (AExit.exit (0 : Nat)) T106o fun _ =>   { hs := { vs := [I (↑n : Int), I (↑n : Int)], ns := [(n, n)] }, ls := [js], es := [] }) :: (3, .val (.bool false)) :: [(3, Hint.tm (0 : Nat) [((1 : Nat), (2 : Nat))])])) =
(((ConNOK Tryz.prog ((32 : Nat)) (C49 p n c f)) ∧ (ConN.pre (C49 p n c f) ⟨⟨[(.int IntKind.i64 (p))], [⟨(n), (c)⟩]⟩, [(mvs n f)]⟩) ∧ 
((((some (.bool (decide ((20 : Int) ≤ (↑n : Int)))) : Option Value) = some (.bool false))) ∧
((ClW ⟨⟨[(.int IntKind.i64 ((↑n : Int))), (.int IntKind.i64 (IntKind.i64.wrap ((0 : Int) + (1 : Int))))], [⟨(n), (n)⟩]⟩, [(jobsC n f)], []⟩) ∧ (LoopOW Tryz.prog .none p106o (T106o) ⟨⟨[(.int IntKind.i64 ((↑n : Int))), (.int IntKind.i64 (IntKind.i64.wrap ((0 : Int) + (1 : Int))))], [⟨(n), (n)⟩]⟩, [(jobsC n f)], []⟩ (.exit ((0 : Nat))) (T106o) ⟨⟨[(.int IntKind.i64 ((↑n : Int))), (.int IntKind.i64 ((↑n : Int)))], [⟨(n), (n)⟩]⟩, [(js)], []⟩) ∧ 
((((some (.bool (decide ((20 : Int) < (↑n : Int)))) : Option Value) = some (.bool false))) ∧
R ⟨⟨[], [⟨(n), (n)⟩]⟩, [(js)]⟩))))) := by kernel_rfl

def atF (f : Nat → Mv) (i : Nat) : Int := (f i).at_
noncomputable def C91 (p : Int) (n c : Nat) (f : Nat → Mv) : ConN where
  A := .agg (.hole (.slice 0 0 .nil)) .nil
  bs := [.list 1 .ro]
  pre x := x = ⟨⟨[I p], [(n, c)]⟩, [mvs n f]⟩
  news _ := [(ordC n f (srt (atF f) n), 63)]
  one := true
  res _ := [.sl 0 n]
theorem C91_ok (p : Int) (n c : Nat) (f : Nat → Mv) (h0 : 0 < n) (hn : n ≤ 7) : ConNOK Tryz.prog 98 (C91 p n c f) := by
  refine conRow_of rfl vx_sound (C := C91 p n c f) (n := n) (cells := ordC n f (srt (atF f) n)) (e := 63) ⟨⟨[I p], [(n, c)]⟩, [mvs n f]⟩ (fun x => Iff.rfl) rfl rfl rfl ⟨_, (f91 p n c f (ordC n f (srt (atF f) n)) _).mpr ⟨C49_ok p n c f h0 (by omega), rfl, ?_, cl1 (jobsC_atoms n f), loop106o h0 (by omega), ?_, rfl⟩⟩ (mvs_atoms n f) (ordC_atoms n f _) rfl (Nat.le_of_ble_eq_true rfl) (by rw [nglob]; exact Nat.zero_le _)
  · rw [decide_eq_false (by omega)]
  · rw [decide_eq_false (by omega)]
end Go.Ab

/- FORMS OF STATES AT LOOPS' HEADS: late. -/
set_option maxRecDepth 100000
namespace Go.Ab
open Go Go.RowKit Go.Proofs
def p70 : Loc := .l (.r (.l (.r (.r (.r (.top 81))))))
noncomputable def T70 (sure : Bool) : Tw := ⟨72, mkS 72 [(1, .slice 1 0 .nil), (2, .iface (trI sure) (.agg .nil .nil) .nil), (3, .ptr 2 0 .nil), (7, .map 3 .nil), (8, .slice 4 0 .nil), (20, .slice 5 0 .nil), (21, .hole .nil), (22, .hole .nil)], 6, [.dead, .list 3 .ro, .cells (.hole (.slice 0 0 .nil)) 54 .var, .map, .list 3 .row, .list 63 .row]⟩
noncomputable def finV (f : Nat → Mv) (i : Nat) (m : Int) : Value := .agg ⟨[I (f i).at_, I (f i).place, I (f i).lo, I (f i).hi, I i, I m]⟩
noncomputable def finZ : Value := .agg ⟨[I 0, I 0, I 0, I 0, I 0, I 0]⟩
end Go.Ab

/- package horse: how late moves begin: its loop. -/
set_option maxRecDepth 100000
namespace Go.Ab
open Go Go.RowKit Go.Proofs
theorem b70tn (p : Int) (n c d i : Nat) (f : Nat → Mv) (g : Nat → Int) (σ : Nat → Nat) (ps ls js : List Value) (es es' : List (Value × Value)) (R : Nat → AExit → Hw → Prop)  : (vx.code none (.l p70) (leafW [T70 true] R) ((T70 true).inst ⟨⟨[I n, I i, I p], [(n, d), (n, n), (n, n), (n, c)]⟩, [ps, ls, js], [es]⟩) ([(0, .split ((1, .val (.pointer (.some ⟨((5 : Nat)), ((0 : Nat) + i * (5 : Nat)), .none⟩))) :: (0, .val (.agg ⟨[(.int IntKind.i64 ((f (σ i)).at_)), (.int IntKind.i64 ((f (σ i)).place)), (.int IntKind.i64 ((f (σ i)).lo)), (.int IntKind.i64 ((f (σ i)).hi)), (.int IntKind.i64 ((↑(σ i) : Int)))]⟩)) :: (5, .val (.pointer (.some ⟨((1 : Nat)), ((0 : Nat) + (↑(σ i) : Int).toNat * (1 : Nat)), .none⟩))) :: (0, .val (.int IntKind.i64 (g (↑(σ i) : Int).toNat))) :: (7, .val (.tuple ⟨[(.agg ⟨[(.int IntKind.i64 ((0 : Int))), (.int IntKind.i64 ((0 : Int))), (.int IntKind.i64 ((0 : Int))), (.int IntKind.i64 ((0 : Int))), (.int IntKind.i64 ((0 : Int))), (.int IntKind.i64 ((0 : Int)))]⟩), (.bool false)]⟩)) :: (16, .val (.pointer (.some ⟨((4 : Nat)), ((0 : Nat) + (↑(σ i) : Int).toNat * (1 : Nat)), .none⟩))) :: (0, Hint.st) :: (15, Hint.again) :: (2, Hint.mset es') :: [(2, Hint.tm (0 : Nat) [])]) ([(1, Hint.tm (0 : Nat) [])]))])) =
((((decide ((↑i : Int) < (↑n : Int))) = true → ((((((0 : Int) ≤ (↑i : Int))) ∧ (((↑i : Int) < (↑n : Int)))) ∧ (((.pointer (.some ⟨((5 : Nat)), ((0 : Nat) + i * (5 : Nat)), .none⟩)) : Value) = (.pointer (.some ⟨((5 : Nat)), ((0 : Nat) + i * (5 : Nat)), .none⟩)))) ∧
(((((0 : Nat) + i * (5 : Nat) + (5 : Nat) ≤ js.length)) ∧ (((.agg ⟨[(.int IntKind.i64 ((f (σ i)).at_)), (.int IntKind.i64 ((f (σ i)).place)), (.int IntKind.i64 ((f (σ i)).lo)), (.int IntKind.i64 ((f (σ i)).hi)), (.int IntKind.i64 ((↑(σ i) : Int)))]⟩) : Value) = (.agg ⟨(List.take ((5 : Nat)) (List.drop ((0 : Nat) + i * (5 : Nat)) (js)))⟩))) ∧
((((((0 : Int) ≤ (↑(σ i) : Int))) ∧ (((↑(σ i) : Int) < (↑n : Int)))) ∧ (((.pointer (.some ⟨((1 : Nat)), ((0 : Nat) + (↑(σ i) : Int).toNat * (1 : Nat)), .none⟩)) : Value) = (.pointer (.some ⟨((1 : Nat)), ((0 : Nat) + (↑(σ i) : Int).toNat * (1 : Nat)), .none⟩)))) ∧
(((ps[(0 : Nat) + (↑(σ i) : Int).toNat * (1 : Nat)]? = some (.int IntKind.i64 (g (↑(σ i) : Int).toNat)))) ∧
((LookC Tryz.prog (OfNat.ofNat (3 : Nat)) (.agg ⟨[(.int IntKind.i64 ((0 : Int))), (.int IntKind.i64 ((0 : Int))), (.int IntKind.i64 ((0 : Int))), (.int IntKind.i64 ((0 : Int))), (.int IntKind.i64 ((0 : Int))), (.int IntKind.i64 ((0 : Int)))]⟩) (es) (.int IntKind.i64 (g (↑(σ i) : Int).toNat)) true (.tuple ⟨[(.agg ⟨[(.int IntKind.i64 ((0 : Int))), (.int IntKind.i64 ((0 : Int))), (.int IntKind.i64 ((0 : Int))), (.int IntKind.i64 ((0 : Int))), (.int IntKind.i64 ((0 : Int))), (.int IntKind.i64 ((0 : Int)))]⟩), (.bool false)]⟩)) ∧
((((((0 : Int) ≤ (↑(σ i) : Int))) ∧ (((↑(σ i) : Int) < (↑n : Int)))) ∧ (((.pointer (.some ⟨((4 : Nat)), ((0 : Nat) + (↑(σ i) : Int).toNat * (1 : Nat)), .none⟩)) : Value) = (.pointer (.some ⟨((4 : Nat)), ((0 : Nat) + (↑(σ i) : Int).toNat * (1 : Nat)), .none⟩)))) ∧
((((0 : Nat) + (↑(σ i) : Int).toNat * (1 : Nat) + (1 : Nat) ≤ ls.length)) ∧ 
((((((5 : Nat) ≤ (5 : Nat))) ∧ (((.agg ⟨[(.int IntKind.i64 ((f (σ i)).at_)), (.int IntKind.i64 ((f (σ i)).place)), (.int IntKind.i64 ((f (σ i)).lo)), (.int IntKind.i64 ((f (σ i)).hi)), (.int IntKind.i64 ((↑(σ i) : Int)))]⟩) : Value) = (.agg ⟨[(.int IntKind.i64 ((f (σ i)).at_)), (.int IntKind.i64 ((f (σ i)).place)), (.int IntKind.i64 ((f (σ i)).lo)), (.int IntKind.i64 ((f (σ i)).hi)), (.int IntKind.i64 ((↑(σ i) : Int)))]⟩))) ∧ (True)) ∧ 
((SetC Tryz.prog (OfNat.ofNat (3 : Nat)) (es) (.int IntKind.i64 (g (↑(σ i) : Int).toNat)) (.agg ⟨[(.int IntKind.i64 ((f (σ i)).at_)), (.int IntKind.i64 ((f (σ i)).place)), (.int IntKind.i64 ((f (σ i)).lo)), (.int IntKind.i64 ((f (σ i)).hi)), (.int IntKind.i64 ((↑(σ i) : Int))), (.int IntKind.i64 (IntKind.i64.wrap ((f (σ i)).at_ + (f (σ i)).hi)))]⟩) (es')) ∧ 
R ((0 : Nat)) .normal ⟨⟨[(.int IntKind.i64 ((↑n : Int))), (.int IntKind.i64 (IntKind.i64.wrap ((↑i : Int) + (1 : Int)))), (.int IntKind.i64 (p))], [⟨(n), (d)⟩, ⟨(n), (n)⟩, ⟨(n), (n)⟩, ⟨(n), (c)⟩]⟩, [(ps), (((List.take ((0 : Nat) + (↑(σ i) : Int).toNat * (1 : Nat)) (ls)) ++ [(.int IntKind.i64 (IntKind.i64.wrap ((f (σ i)).at_ - (f (σ i)).at_)))]) ++ (List.drop ((0 : Nat) + (↑(σ i) : Int).toNat * (1 : Nat) + (1 : Nat)) (ls))), (js)], [(es')]⟩)))))))))) ∧
((decide ((↑i : Int) < (↑n : Int))) = false → R ((0 : Nat)) (.exit ((0 : Nat))) ⟨⟨[(.int IntKind.i64 ((↑n : Int))), (.int IntKind.i64 ((↑i : Int))), (.int IntKind.i64 (p))], [⟨(n), (d)⟩, ⟨(n), (n)⟩, ⟨(n), (n)⟩, ⟨(n), (c)⟩]⟩, [(ps), (ls), (js)], [(es)]⟩))) := by kernel_rfl

theorem b70ts (p : Int) (n c d i i' : Nat) (mm : Int) (f : Nat → Mv) (g : Nat → Int) (σ : Nat → Nat) (ps ls js : List Value) (es es' : List (Value × Value)) (R : Nat → AExit → Hw → Prop)  : (vx.code none (.l p70) (leafW [T70 true] R) ((T70 true).inst ⟨⟨[I n, I i, I p], [(n, d), (n, n), (n, n), (n, c)]⟩, [ps, ls, js], [es]⟩) ([(0, .split ((1, .val (.pointer (.some ⟨((5 : Nat)), ((0 : Nat) + i * (5 : Nat)), .none⟩))) :: (0, .val (.agg ⟨[(.int IntKind.i64 ((f (σ i)).at_)), (.int IntKind.i64 ((f (σ i)).place)), (.int IntKind.i64 ((f (σ i)).lo)), (.int IntKind.i64 ((f (σ i)).hi)), (.int IntKind.i64 ((↑(σ i) : Int)))]⟩)) :: (5, .val (.pointer (.some ⟨((1 : Nat)), ((0 : Nat) + (↑(σ i) : Int).toNat * (1 : Nat)), .none⟩))) :: (0, .val (.int IntKind.i64 (g (↑(σ i) : Int).toNat))) :: (7, .val (.tuple ⟨[(.agg ⟨[(.int IntKind.i64 ((f i').at_)), (.int IntKind.i64 ((f i').place)), (.int IntKind.i64 ((f i').lo)), (.int IntKind.i64 ((f i').hi)), (.int IntKind.i64 ((↑i' : Int))), (.int IntKind.i64 (mm))]⟩), (.bool true)]⟩)) :: (40, Hint.again) :: (11, .val (.pointer (.some ⟨((4 : Nat)), ((0 : Nat) + (↑(σ i) : Int).toNat * (1 : Nat)), .none⟩))) :: (0, Hint.st) :: (15, Hint.again) :: (2, Hint.mset es') :: [(2, Hint.tm (0 : Nat) [])]) ([(1, Hint.tm (0 : Nat) [])]))])) =
((((decide ((↑i : Int) < (↑n : Int))) = true → ((((((0 : Int) ≤ (↑i : Int))) ∧ (((↑i : Int) < (↑n : Int)))) ∧ (((.pointer (.some ⟨((5 : Nat)), ((0 : Nat) + i * (5 : Nat)), .none⟩)) : Value) = (.pointer (.some ⟨((5 : Nat)), ((0 : Nat) + i * (5 : Nat)), .none⟩)))) ∧
(((((0 : Nat) + i * (5 : Nat) + (5 : Nat) ≤ js.length)) ∧ (((.agg ⟨[(.int IntKind.i64 ((f (σ i)).at_)), (.int IntKind.i64 ((f (σ i)).place)), (.int IntKind.i64 ((f (σ i)).lo)), (.int IntKind.i64 ((f (σ i)).hi)), (.int IntKind.i64 ((↑(σ i) : Int)))]⟩) : Value) = (.agg ⟨(List.take ((5 : Nat)) (List.drop ((0 : Nat) + i * (5 : Nat)) (js)))⟩))) ∧
((((((0 : Int) ≤ (↑(σ i) : Int))) ∧ (((↑(σ i) : Int) < (↑n : Int)))) ∧ (((.pointer (.some ⟨((1 : Nat)), ((0 : Nat) + (↑(σ i) : Int).toNat * (1 : Nat)), .none⟩)) : Value) = (.pointer (.some ⟨((1 : Nat)), ((0 : Nat) + (↑(σ i) : Int).toNat * (1 : Nat)), .none⟩)))) ∧
(((ps[(0 : Nat) + (↑(σ i) : Int).toNat * (1 : Nat)]? = some (.int IntKind.i64 (g (↑(σ i) : Int).toNat)))) ∧
((LookC Tryz.prog (OfNat.ofNat (3 : Nat)) (.agg ⟨[(.int IntKind.i64 ((0 : Int))), (.int IntKind.i64 ((0 : Int))), (.int IntKind.i64 ((0 : Int))), (.int IntKind.i64 ((0 : Int))), (.int IntKind.i64 ((0 : Int))), (.int IntKind.i64 ((0 : Int)))]⟩) (es) (.int IntKind.i64 (g (↑(σ i) : Int).toNat)) true (.tuple ⟨[(.agg ⟨[(.int IntKind.i64 ((f i').at_)), (.int IntKind.i64 ((f i').place)), (.int IntKind.i64 ((f i').lo)), (.int IntKind.i64 ((f i').hi)), (.int IntKind.i64 ((↑i' : Int))), (.int IntKind.i64 (mm))]⟩), (.bool true)]⟩)) ∧
(((((some (.int IntKind.i64 (mm)) : Option Value) = some (.int IntKind.i64 (mm)))) ∧ (True)) ∧ 
((((((0 : Int) ≤ (↑(σ i) : Int))) ∧ (((↑(σ i) : Int) < (↑n : Int)))) ∧ (((.pointer (.some ⟨((4 : Nat)), ((0 : Nat) + (↑(σ i) : Int).toNat * (1 : Nat)), .none⟩)) : Value) = (.pointer (.some ⟨((4 : Nat)), ((0 : Nat) + (↑(σ i) : Int).toNat * (1 : Nat)), .none⟩)))) ∧
((((0 : Nat) + (↑(σ i) : Int).toNat * (1 : Nat) + (1 : Nat) ≤ ls.length)) ∧ 
((((((5 : Nat) ≤ (5 : Nat))) ∧ (((.agg ⟨[(.int IntKind.i64 ((f (σ i)).at_)), (.int IntKind.i64 ((f (σ i)).place)), (.int IntKind.i64 ((f (σ i)).lo)), (.int IntKind.i64 ((f (σ i)).hi)), (.int IntKind.i64 ((↑(σ i) : Int)))]⟩) : Value) = (.agg ⟨[(.int IntKind.i64 ((f (σ i)).at_)), (.int IntKind.i64 ((f (σ i)).place)), (.int IntKind.i64 ((f (σ i)).lo)), (.int IntKind.i64 ((f (σ i)).hi)), (.int IntKind.i64 ((↑(σ i) : Int)))]⟩))) ∧ (True)) ∧ 
((SetC Tryz.prog (OfNat.ofNat (3 : Nat)) (es) (.int IntKind.i64 (g (↑(σ i) : Int).toNat)) (.agg ⟨[(.int IntKind.i64 ((f (σ i)).at_)), (.int IntKind.i64 ((f (σ i)).place)), (.int IntKind.i64 ((f (σ i)).lo)), (.int IntKind.i64 ((f (σ i)).hi)), (.int IntKind.i64 ((↑(σ i) : Int))), (.int IntKind.i64 (IntKind.i64.wrap   ((if         IntKind.i64.wrap             (mm +               IntKind.i64.wrap                 (p *                   if                       IntKind.i64.wrap ((f (σ i)).place - (f i').place) >                         IntKind.i64.wrap ((f i').place - (f (σ i)).place) then                     IntKind.i64.wrap ((f (σ i)).place - (f i').place)                   else IntKind.i64.wrap ((f i').place - (f (σ i)).place))) >           (f (σ i)).at_ then       IntKind.i64.wrap         (mm +           IntKind.i64.wrap             (p *               if                   IntKind.i64.wrap ((f (σ i)).place - (f i').place) >                     IntKind.i64.wrap ((f i').place - (f (σ i)).place) then                 IntKind.i64.wrap ((f (σ i)).place - (f i').place)               else IntKind.i64.wrap ((f i').place - (f (σ i)).place)))     else (f (σ i)).at_) +     (f (σ i)).hi)))]⟩) (es')) ∧ 
R ((0 : Nat)) .normal ⟨⟨[(.int IntKind.i64 ((↑n : Int))), (.int IntKind.i64 (IntKind.i64.wrap ((↑i : Int) + (1 : Int)))), (.int IntKind.i64 (p))], [⟨(n), (d)⟩, ⟨(n), (n)⟩, ⟨(n), (n)⟩, ⟨(n), (c)⟩]⟩, [(ps), (((List.take ((0 : Nat) + (↑(σ i) : Int).toNat * (1 : Nat)) (ls)) ++ [(.int IntKind.i64 (IntKind.i64.wrap   ((if         IntKind.i64.wrap             (mm +               IntKind.i64.wrap                 (p *                   if                       IntKind.i64.wrap ((f (σ i)).place - (f i').place) >                         IntKind.i64.wrap ((f i').place - (f (σ i)).place) then                     IntKind.i64.wrap ((f (σ i)).place - (f i').place)                   else IntKind.i64.wrap ((f i').place - (f (σ i)).place))) >           (f (σ i)).at_ then       IntKind.i64.wrap         (mm +           IntKind.i64.wrap             (p *               if                   IntKind.i64.wrap ((f (σ i)).place - (f i').place) >                     IntKind.i64.wrap ((f i').place - (f (σ i)).place) then                 IntKind.i64.wrap ((f (σ i)).place - (f i').place)               else IntKind.i64.wrap ((f i').place - (f (σ i)).place)))     else (f (σ i)).at_) -     (f (σ i)).at_)))]) ++ (List.drop ((0 : Nat) + (↑(σ i) : Int).toNat * (1 : Nat) + (1 : Nat)) (ls))), (js)], [(es')]⟩))))))))))) ∧
((decide ((↑i : Int) < (↑n : Int))) = false → R ((0 : Nat)) (.exit ((0 : Nat))) ⟨⟨[(.int IntKind.i64 ((↑n : Int))), (.int IntKind.i64 ((↑i : Int))), (.int IntKind.i64 (p))], [⟨(n), (d)⟩, ⟨(n), (n)⟩, ⟨(n), (n)⟩, ⟨(n), (c)⟩]⟩, [(ps), (ls), (js)], [(es)]⟩))) := by kernel_rfl

theorem b70fn (p : Int) (n c d i : Nat) (f : Nat → Mv) (g : Nat → Int) (σ : Nat → Nat) (ps ls js : List Value) (es es' : List (Value × Value)) (R : Nat → AExit → Hw → Prop)  : (vx.code none (.l p70) (leafW [T70 false] R) ((T70 false).inst ⟨⟨[I n, I i, I p], [(n, d), (n, n), (n, n), (n, c)]⟩, [ps, ls, js], [es]⟩) ([(0, .split ((1, .val (.pointer (.some ⟨((5 : Nat)), ((0 : Nat) + i * (5 : Nat)), .none⟩))) :: (0, .val (.agg ⟨[(.int IntKind.i64 ((f (σ i)).at_)), (.int IntKind.i64 ((f (σ i)).place)), (.int IntKind.i64 ((f (σ i)).lo)), (.int IntKind.i64 ((f (σ i)).hi)), (.int IntKind.i64 ((↑(σ i) : Int)))]⟩)) :: (5, .val (.pointer (.some ⟨((1 : Nat)), ((0 : Nat) + (↑(σ i) : Int).toNat * (1 : Nat)), .none⟩))) :: (0, .val (.int IntKind.i64 (g (↑(σ i) : Int).toNat))) :: (7, .val (.tuple ⟨[(.agg ⟨[(.int IntKind.i64 ((0 : Int))), (.int IntKind.i64 ((0 : Int))), (.int IntKind.i64 ((0 : Int))), (.int IntKind.i64 ((0 : Int))), (.int IntKind.i64 ((0 : Int))), (.int IntKind.i64 ((0 : Int)))]⟩), (.bool false)]⟩)) :: (16, .val (.pointer (.some ⟨((4 : Nat)), ((0 : Nat) + (↑(σ i) : Int).toNat * (1 : Nat)), .none⟩))) :: (0, Hint.st) :: (15, Hint.again) :: (2, Hint.mset es') :: [(2, Hint.tm (0 : Nat) [])]) ([(1, Hint.tm (0 : Nat) [])]))])) =
((((decide ((↑i : Int) < (↑n : Int))) = true → ((((((0 : Int) ≤ (↑i : Int))) ∧ (((↑i : Int) < (↑n : Int)))) ∧ (((.pointer (.some ⟨((5 : Nat)), ((0 : Nat) + i * (5 : Nat)), .none⟩)) : Value) = (.pointer (.some ⟨((5 : Nat)), ((0 : Nat) + i * (5 : Nat)), .none⟩)))) ∧
(((((0 : Nat) + i * (5 : Nat) + (5 : Nat) ≤ js.length)) ∧ (((.agg ⟨[(.int IntKind.i64 ((f (σ i)).at_)), (.int IntKind.i64 ((f (σ i)).place)), (.int IntKind.i64 ((f (σ i)).lo)), (.int IntKind.i64 ((f (σ i)).hi)), (.int IntKind.i64 ((↑(σ i) : Int)))]⟩) : Value) = (.agg ⟨(List.take ((5 : Nat)) (List.drop ((0 : Nat) + i * (5 : Nat)) (js)))⟩))) ∧
((((((0 : Int) ≤ (↑(σ i) : Int))) ∧ (((↑(σ i) : Int) < (↑n : Int)))) ∧ (((.pointer (.some ⟨((1 : Nat)), ((0 : Nat) + (↑(σ i) : Int).toNat * (1 : Nat)), .none⟩)) : Value) = (.pointer (.some ⟨((1 : Nat)), ((0 : Nat) + (↑(σ i) : Int).toNat * (1 : Nat)), .none⟩)))) ∧
(((ps[(0 : Nat) + (↑(σ i) : Int).toNat * (1 : Nat)]? = some (.int IntKind.i64 (g (↑(σ i) : Int).toNat)))) ∧
((LookC Tryz.prog (OfNat.ofNat (3 : Nat)) (.agg ⟨[(.int IntKind.i64 ((0 : Int))), (.int IntKind.i64 ((0 : Int))), (.int IntKind.i64 ((0 : Int))), (.int IntKind.i64 ((0 : Int))), (.int IntKind.i64 ((0 : Int))), (.int IntKind.i64 ((0 : Int)))]⟩) (es) (.int IntKind.i64 (g (↑(σ i) : Int).toNat)) true (.tuple ⟨[(.agg ⟨[(.int IntKind.i64 ((0 : Int))), (.int IntKind.i64 ((0 : Int))), (.int IntKind.i64 ((0 : Int))), (.int IntKind.i64 ((0 : Int))), (.int IntKind.i64 ((0 : Int))), (.int IntKind.i64 ((0 : Int)))]⟩), (.bool false)]⟩)) ∧
((((((0 : Int) ≤ (↑(σ i) : Int))) ∧ (((↑(σ i) : Int) < (↑n : Int)))) ∧ (((.pointer (.some ⟨((4 : Nat)), ((0 : Nat) + (↑(σ i) : Int).toNat * (1 : Nat)), .none⟩)) : Value) = (.pointer (.some ⟨((4 : Nat)), ((0 : Nat) + (↑(σ i) : Int).toNat * (1 : Nat)), .none⟩)))) ∧
((((0 : Nat) + (↑(σ i) : Int).toNat * (1 : Nat) + (1 : Nat) ≤ ls.length)) ∧ 
((((((5 : Nat) ≤ (5 : Nat))) ∧ (((.agg ⟨[(.int IntKind.i64 ((f (σ i)).at_)), (.int IntKind.i64 ((f (σ i)).place)), (.int IntKind.i64 ((f (σ i)).lo)), (.int IntKind.i64 ((f (σ i)).hi)), (.int IntKind.i64 ((↑(σ i) : Int)))]⟩) : Value) = (.agg ⟨[(.int IntKind.i64 ((f (σ i)).at_)), (.int IntKind.i64 ((f (σ i)).place)), (.int IntKind.i64 ((f (σ i)).lo)), (.int IntKind.i64 ((f (σ i)).hi)), (.int IntKind.i64 ((↑(σ i) : Int)))]⟩))) ∧ (True)) ∧ 
((SetC Tryz.prog (OfNat.ofNat (3 : Nat)) (es) (.int IntKind.i64 (g (↑(σ i) : Int).toNat)) (.agg ⟨[(.int IntKind.i64 ((f (σ i)).at_)), (.int IntKind.i64 ((f (σ i)).place)), (.int IntKind.i64 ((f (σ i)).lo)), (.int IntKind.i64 ((f (σ i)).hi)), (.int IntKind.i64 ((↑(σ i) : Int))), (.int IntKind.i64 (IntKind.i64.wrap ((f (σ i)).at_ + (f (σ i)).lo)))]⟩) (es')) ∧ 
R ((0 : Nat)) .normal ⟨⟨[(.int IntKind.i64 ((↑n : Int))), (.int IntKind.i64 (IntKind.i64.wrap ((↑i : Int) + (1 : Int)))), (.int IntKind.i64 (p))], [⟨(n), (d)⟩, ⟨(n), (n)⟩, ⟨(n), (n)⟩, ⟨(n), (c)⟩]⟩, [(ps), (((List.take ((0 : Nat) + (↑(σ i) : Int).toNat * (1 : Nat)) (ls)) ++ [(.int IntKind.i64 (IntKind.i64.wrap ((f (σ i)).at_ - (f (σ i)).at_)))]) ++ (List.drop ((0 : Nat) + (↑(σ i) : Int).toNat * (1 : Nat) + (1 : Nat)) (ls))), (js)], [(es')]⟩)))))))))) ∧
((decide ((↑i : Int) < (↑n : Int))) = false → R ((0 : Nat)) (.exit ((0 : Nat))) ⟨⟨[(.int IntKind.i64 ((↑n : Int))), (.int IntKind.i64 ((↑i : Int))), (.int IntKind.i64 (p))], [⟨(n), (d)⟩, ⟨(n), (n)⟩, ⟨(n), (n)⟩, ⟨(n), (c)⟩]⟩, [(ps), (ls), (js)], [(es)]⟩))) := by kernel_rfl

theorem b70fs (p : Int) (n c d i i' : Nat) (mm : Int) (f : Nat → Mv) (g : Nat → Int) (σ : Nat → Nat) (ps ls js : List Value) (es es' : List (Value × Value)) (R : Nat → AExit → Hw → Prop)  : (vx.code none (.l p70) (leafW [T70 false] R) ((T70 false).inst ⟨⟨[I n, I i, I p], [(n, d), (n, n), (n, n), (n, c)]⟩, [ps, ls, js], [es]⟩) ([(0, .split ((1, .val (.pointer (.some ⟨((5 : Nat)), ((0 : Nat) + i * (5 : Nat)), .none⟩))) :: (0, .val (.agg ⟨[(.int IntKind.i64 ((f (σ i)).at_)), (.int IntKind.i64 ((f (σ i)).place)), (.int IntKind.i64 ((f (σ i)).lo)), (.int IntKind.i64 ((f (σ i)).hi)), (.int IntKind.i64 ((↑(σ i) : Int)))]⟩)) :: (5, .val (.pointer (.some ⟨((1 : Nat)), ((0 : Nat) + (↑(σ i) : Int).toNat * (1 : Nat)), .none⟩))) :: (0, .val (.int IntKind.i64 (g (↑(σ i) : Int).toNat))) :: (7, .val (.tuple ⟨[(.agg ⟨[(.int IntKind.i64 ((f i').at_)), (.int IntKind.i64 ((f i').place)), (.int IntKind.i64 ((f i').lo)), (.int IntKind.i64 ((f i').hi)), (.int IntKind.i64 ((↑i' : Int))), (.int IntKind.i64 (mm))]⟩), (.bool true)]⟩)) :: (40, Hint.again) :: (11, .val (.pointer (.some ⟨((4 : Nat)), ((0 : Nat) + (↑(σ i) : Int).toNat * (1 : Nat)), .none⟩))) :: (0, Hint.st) :: (15, Hint.again) :: (2, Hint.mset es') :: [(2, Hint.tm (0 : Nat) [])]) ([(1, Hint.tm (0 : Nat) [])]))])) =
((((decide ((↑i : Int) < (↑n : Int))) = true → ((((((0 : Int) ≤ (↑i : Int))) ∧ (((↑i : Int) < (↑n : Int)))) ∧ (((.pointer (.some ⟨((5 : Nat)), ((0 : Nat) + i * (5 : Nat)), .none⟩)) : Value) = (.pointer (.some ⟨((5 : Nat)), ((0 : Nat) + i * (5 : Nat)), .none⟩)))) ∧
(((((0 : Nat) + i * (5 : Nat) + (5 : Nat) ≤ js.length)) ∧ (((.agg ⟨[(.int IntKind.i64 ((f (σ i)).at_)), (.int IntKind.i64 ((f (σ i)).place)), (.int IntKind.i64 ((f (σ i)).lo)), (.int IntKind.i64 ((f (σ i)).hi)), (.int IntKind.i64 ((↑(σ i) : Int)))]⟩) : Value) = (.agg ⟨(List.take ((5 : Nat)) (List.drop ((0 : Nat) + i * (5 : Nat)) (js)))⟩))) ∧
((((((0 : Int) ≤ (↑(σ i) : Int))) ∧ (((↑(σ i) : Int) < (↑n : Int)))) ∧ (((.pointer (.some ⟨((1 : Nat)), ((0 : Nat) + (↑(σ i) : Int).toNat * (1 : Nat)), .none⟩)) : Value) = (.pointer (.some ⟨((1 : Nat)), ((0 : Nat) + (↑(σ i) : Int).toNat * (1 : Nat)), .none⟩)))) ∧
(((ps[(0 : Nat) + (↑(σ i) : Int).toNat * (1 : Nat)]? = some (.int IntKind.i64 (g (↑(σ i) : Int).toNat)))) ∧
((LookC Tryz.prog (OfNat.ofNat (3 : Nat)) (.agg ⟨[(.int IntKind.i64 ((0 : Int))), (.int IntKind.i64 ((0 : Int))), (.int IntKind.i64 ((0 : Int))), (.int IntKind.i64 ((0 : Int))), (.int IntKind.i64 ((0 : Int))), (.int IntKind.i64 ((0 : Int)))]⟩) (es) (.int IntKind.i64 (g (↑(σ i) : Int).toNat)) true (.tuple ⟨[(.agg ⟨[(.int IntKind.i64 ((f i').at_)), (.int IntKind.i64 ((f i').place)), (.int IntKind.i64 ((f i').lo)), (.int IntKind.i64 ((f i').hi)), (.int IntKind.i64 ((↑i' : Int))), (.int IntKind.i64 (mm))]⟩), (.bool true)]⟩)) ∧
(((((some (.int IntKind.i64 (mm)) : Option Value) = some (.int IntKind.i64 (mm)))) ∧ (True)) ∧ 
((((((0 : Int) ≤ (↑(σ i) : Int))) ∧ (((↑(σ i) : Int) < (↑n : Int)))) ∧ (((.pointer (.some ⟨((4 : Nat)), ((0 : Nat) + (↑(σ i) : Int).toNat * (1 : Nat)), .none⟩)) : Value) = (.pointer (.some ⟨((4 : Nat)), ((0 : Nat) + (↑(σ i) : Int).toNat * (1 : Nat)), .none⟩)))) ∧
((((0 : Nat) + (↑(σ i) : Int).toNat * (1 : Nat) + (1 : Nat) ≤ ls.length)) ∧ 
((((((5 : Nat) ≤ (5 : Nat))) ∧ (((.agg ⟨[(.int IntKind.i64 ((f (σ i)).at_)), (.int IntKind.i64 ((f (σ i)).place)), (.int IntKind.i64 ((f (σ i)).lo)), (.int IntKind.i64 ((f (σ i)).hi)), (.int IntKind.i64 ((↑(σ i) : Int)))]⟩) : Value) = (.agg ⟨[(.int IntKind.i64 ((f (σ i)).at_)), (.int IntKind.i64 ((f (σ i)).place)), (.int IntKind.i64 ((f (σ i)).lo)), (.int IntKind.i64 ((f (σ i)).hi)), (.int IntKind.i64 ((↑(σ i) : Int)))]⟩))) ∧ (True)) ∧ 
((SetC Tryz.prog (OfNat.ofNat (3 : Nat)) (es) (.int IntKind.i64 (g (↑(σ i) : Int).toNat)) (.agg ⟨[(.int IntKind.i64 ((f (σ i)).at_)), (.int IntKind.i64 ((f (σ i)).place)), (.int IntKind.i64 ((f (σ i)).lo)), (.int IntKind.i64 ((f (σ i)).hi)), (.int IntKind.i64 ((↑(σ i) : Int))), (.int IntKind.i64 (IntKind.i64.wrap   ((if         IntKind.i64.wrap             (mm +               IntKind.i64.wrap                 (p *                   if                       IntKind.i64.wrap ((f (σ i)).place - (f i').place) >                         IntKind.i64.wrap ((f i').place - (f (σ i)).place) then                     IntKind.i64.wrap ((f (σ i)).place - (f i').place)                   else IntKind.i64.wrap ((f i').place - (f (σ i)).place))) >           (f (σ i)).at_ then       IntKind.i64.wrap         (mm +           IntKind.i64.wrap             (p *               if                   IntKind.i64.wrap ((f (σ i)).place - (f i').place) >                     IntKind.i64.wrap ((f i').place - (f (σ i)).place) then                 IntKind.i64.wrap ((f (σ i)).place - (f i').place)               else IntKind.i64.wrap ((f i').place - (f (σ i)).place)))     else (f (σ i)).at_) +     (f (σ i)).lo)))]⟩) (es')) ∧ 
R ((0 : Nat)) .normal ⟨⟨[(.int IntKind.i64 ((↑n : Int))), (.int IntKind.i64 (IntKind.i64.wrap ((↑i : Int) + (1 : Int)))), (.int IntKind.i64 (p))], [⟨(n), (d)⟩, ⟨(n), (n)⟩, ⟨(n), (n)⟩, ⟨(n), (c)⟩]⟩, [(ps), (((List.take ((0 : Nat) + (↑(σ i) : Int).toNat * (1 : Nat)) (ls)) ++ [(.int IntKind.i64 (IntKind.i64.wrap   ((if         IntKind.i64.wrap             (mm +               IntKind.i64.wrap                 (p *                   if                       IntKind.i64.wrap ((f (σ i)).place - (f i').place) >                         IntKind.i64.wrap ((f i').place - (f (σ i)).place) then                     IntKind.i64.wrap ((f (σ i)).place - (f i').place)                   else IntKind.i64.wrap ((f i').place - (f (σ i)).place))) >           (f (σ i)).at_ then       IntKind.i64.wrap         (mm +           IntKind.i64.wrap             (p *               if                   IntKind.i64.wrap ((f (σ i)).place - (f i').place) >                     IntKind.i64.wrap ((f i').place - (f (σ i)).place) then                 IntKind.i64.wrap ((f (σ i)).place - (f i').place)               else IntKind.i64.wrap ((f i').place - (f (σ i)).place)))     else (f (σ i)).at_) -     (f (σ i)).at_)))]) ++ (List.drop ((0 : Nat) + (↑(σ i) : Int).toNat * (1 : Nat) + (1 : Nat)) (ls))), (js)], [(es')]⟩))))))))))) ∧
((decide ((↑i : Int) < (↑n : Int))) = false → R ((0 : Nat)) (.exit ((0 : Nat))) ⟨⟨[(.int IntKind.i64 ((↑n : Int))), (.int IntKind.i64 ((↑i : Int))), (.int IntKind.i64 (p))], [⟨(n), (d)⟩, ⟨(n), (n)⟩, ⟨(n), (n)⟩, ⟨(n), (c)⟩]⟩, [(ps), (ls), (js)], [(es)]⟩))) := by kernel_rfl

theorem okH_mv {p : Int} {n : Nat} {f : Nat → Mv} (h : okH p n f = true) : ∀ i, i < n → okMv (f i) = true := fun i hi => by
  simp only [okH, Bool.and_eq_true] at h
  exact allFrom_iff _ n 0 h.2.2.2 i (by omega) (by omega)
/-- How long moves take in the two truths that matter. -/
def lgS (sure : Bool) (f : Nat → Mv) (i : Nat) : Int := cond sure (f i).hi (f i).lo
theorem lgS_le {p : Int} {n : Nat} {f : Nat → Mv} (h : okH p n f = true) (sure : Bool) : ∀ i, i < n → 0 ≤ lgS sure f i ∧ lgS sure f i ≤ 20 := fun i hi => by
  have h1 := (okH_iff h).mv i hi
  have := h1.lo1; have := h1.lohi; have := h1.hi1
  cases sure <;> simp only [lgS, cond_true, cond_false] <;> omega
theorem walkW {p : Int} {a b : Mv} (hp : 0 ≤ p ∧ p ≤ 3) (ha : MvOK a) (hb : MvOK b) :
    IntKind.i64.wrap (p * if IntKind.i64.wrap (b.place - a.place) > IntKind.i64.wrap (a.place - b.place) then IntKind.i64.wrap (b.place - a.place) else IntKind.i64.wrap (a.place - b.place)) = wkI p a b := by
  have a1 := ha.pl0; have a2 := ha.pl1; have b1 := hb.pl0; have b2 := hb.pl1
  have e1 : IntKind.i64.wrap (b.place - a.place) = b.place - a.place := wrapI (by omega) (by omega)
  have e2 : IntKind.i64.wrap (a.place - b.place) = a.place - b.place := wrapI (by omega) (by omega)
  rw [e1, e2]
  have hw := wkI_le hp ⟨a1, a2⟩ ⟨b1, b2⟩
  have e3 : (if b.place - a.place > a.place - b.place then b.place - a.place else a.place - b.place) = (if a.place - b.place < 0 then b.place - a.place else a.place - b.place) := by split <;> split <;> omega
  rw [e3]
  exact wrapI (by unfold wkI at hw; omega) (by unfold wkI at hw; omega)
noncomputable def encL (f : Nat → Mv) (lg : Nat → Int) (x : Nat × Int) : Value := finV f x.1 (x.2 + lg x.1)
theorem encL_cl (f : Nat → Mv) (lg : Nat → Int) (x : Nat × Int) : cl 50 (encL f lg x) = true := rfl
noncomputable def h70 (sure : Bool) (p : Int) (n c d : Nat) (f : Nat → Mv) (g : Nat → Int) (i : Nat) : Hw :=
  ⟨⟨[I n, I i, I p], [(n, d), (n, n), (n, n), (n, c)]⟩, [ints n g, ints n (lateF p f g (lgS sure f) (srt (atF f) n) i), ordC n f (srt (atF f) n)], [encM (encL f (lgS sure f)) (prc p f g (lgS sure f) (srt (atF f) n) i).M]⟩
theorem h70_cl (sure : Bool) (p : Int) (n c d : Nat) (f : Nat → Mv) (g : Nat → Int) (i : Nat) : ClW (h70 sure p n c d f g i) := by
  refine ⟨fun cs hcs => ?_, fun es hes => ?_⟩
  · simp only [h70, List.mem_cons, List.not_mem_nil, or_false] at hcs
    rcases hcs with rfl | rfl | rfl
    · exact ints_atom n _
    · exact ints_atom n _
    · exact ordC_atoms n f _
  · simp only [h70, List.mem_singleton] at hes
    subst hes
    exact encM_cl (encL_cl f _) _
theorem round70 (sure : Bool) {p : Int} {n c d : Nat} {f : Nat → Mv} {g : Nat → Int} {i : Nat} (hok : okH p n f = true) (hi : i < n) {R : Nat → AExit → Hw → Prop} (hR : R 0 .normal (h70 sure p n c d f g (i + 1))) :
    ∃ hs, vx.code none (.l p70) (leafW [T70 sure] R) ((T70 sure).inst (h70 sure p n c d f g i)) hs := by
  have hH := okH_iff hok
  have h7 := hH.n7
  have hp : 0 ≤ p ∧ p ≤ 3 := ⟨hH.p0, hH.p3⟩
  have hs := srt_ok (atF f) n
  generalize hσ : srt (atF f) n = σ at hs
  have hP := prc_ok (g := g) hs hp (okH_mv hok) (lgS_le hok sure) i (by omega)
  have hall := hP.all
  have hj := hs.lt i hi
  have hm := hH.mv (σ i) hj
  have a1 := hm.at0; have a2 := hm.at1
  have hl := lgS_le hok sure (σ i) hj
  have hb := begI_le hP hp (okH_mv hok) (lgS_le hok sure) hj (g (σ i))
  have hw : IntKind.i64.wrap ((i : Int) + 1) = ((i + 1 : Nat) : Int) := wrapI (by omega) (by omega)
  simp only [h70, hσ, lateF_succ, prc] at hR
  simp only [h70, hσ]
  have e4 := ints_put (n := n) (lateF p f g (lgS sure f) σ i) (begI p f (lgS sure f) (σ i) (getA (prc p f g (lgS sure f) σ i).M (g (σ i))) - (f (σ i)).at_) hj
  rw [← e4] at hR
  have hset := setC_enc (encL f (lgS sure f)) (prc p f g (lgS sure f) σ i).M (g (σ i)) (σ i, begI p f (lgS sure f) (σ i) (getA (prc p f g (lgS sure f) σ i).M (g (σ i))))
  have hlook := fun (z v : Value) hv => lookC_enc (encL f (lgS sure f)) (prc p f g (lgS sure f) σ i).M (g (σ i)) (z := z) (v := v) (ok := true) hv
  generalize (prc p f g (lgS sure f) σ i).M = M at hR hset hlook hb hall
  have l1 := flatC_bound (k := 5) hi
  cases hg : getA M (g (σ i)) with
  | none =>
    rw [hg] at hR hset hlook
    simp only [begI, encL] at hR hset
    have w1 : IntKind.i64.wrap ((f (σ i)).at_ + lgS sure f (σ i)) = (f (σ i)).at_ + lgS sure f (σ i) := wrapI (by omega) (by omega)
    have w2 : IntKind.i64.wrap ((f (σ i)).at_ - (f (σ i)).at_) = (f (σ i)).at_ - (f (σ i)).at_ := wrapI (by omega) (by omega)
    cases sure
    · simp only [lgS, cond_false] at w1
      refine ⟨_, (b70fn p n c d i f g σ (ints n g) (ints n (lateF p f g (lgS false f) σ i)) (ordC n f σ) (encM (encL f (lgS false f)) M) (encM (encL f (lgS false f)) (setA M (g (σ i)) (σ i, (f (σ i)).at_))) R).mpr ⟨fun _ => ?_, fun h => absurd hi (by simpa using h)⟩⟩
      simp only [Int.toNat_natCast]
      rw [hw, w1, w2]
      repeat' (first | with_reducible apply And.intro | with_reducible intro)
      all_goals first
        | trivial
        | omega
        | rfl
        | (rw [ordC_len]; omega)
        | (rw [ordC_part f σ hi]; rfl)
        | exact ints_get g hj
        | exact hlook _ _ rfl
        | (rw [ints_len]; omega)
        | exact hset
        | exact hR
    · simp only [lgS, cond_true] at w1
      refine ⟨_, (b70tn p n c d i f g σ (ints n g) (ints n (lateF p f g (lgS true f) σ i)) (ordC n f σ) (encM (encL f (lgS true f)) M) (encM (encL f (lgS true f)) (setA M (g (σ i)) (σ i, (f (σ i)).at_))) R).mpr ⟨fun _ => ?_, fun h => absurd hi (by simpa using h)⟩⟩
      simp only [Int.toNat_natCast]
      rw [hw, w1, w2]
      repeat' (first | with_reducible apply And.intro | with_reducible intro)
      all_goals first
        | trivial
        | omega
        | rfl
        | (rw [ordC_len]; omega)
        | (rw [ordC_part f σ hi]; rfl)
        | exact ints_get g hj
        | exact hlook _ _ rfl
        | (rw [ints_len]; omega)
        | exact hset
        | exact hR
  | some x =>
    obtain ⟨x1, x2, x3, x4, x5⟩ := hall _ x hg
    obtain ⟨i', b'⟩ := x
    simp only at x1 x4 x5
    have hl' := lgS_le hok sure i' x1
    have hwk := walkW hp (hH.mv i' x1) hm
    have hwl := wkI_le hp ⟨(hH.mv i' x1).pl0, (hH.mv i' x1).pl1⟩ ⟨hm.pl0, hm.pl1⟩
    have w0 : IntKind.i64.wrap (b' + lgS sure f i' + wkI p (f i') (f (σ i))) = b' + lgS sure f i' + wkI p (f i') (f (σ i)) := wrapI (by omega) (by omega)
    rw [hg] at hR hset hlook hb
    have hdef : (if b' + lgS sure f i' + wkI p (f i') (f (σ i)) > (f (σ i)).at_ then b' + lgS sure f i' + wkI p (f i') (f (σ i)) else (f (σ i)).at_) = begI p f (lgS sure f) (σ i) (some (i', b')) := rfl
    generalize begI p f (lgS sure f) (σ i) (some (i', b')) = B at hR hset hb hdef
    have w1 : IntKind.i64.wrap (B + lgS sure f (σ i)) = B + lgS sure f (σ i) := wrapI (by omega) (by omega)
    have w2 : IntKind.i64.wrap (B - (f (σ i)).at_) = B - (f (σ i)).at_ := wrapI (by omega) (by omega)
    simp only [encL] at hset
    cases sure
    · refine ⟨_, (b70fs p n c d i i' (b' + lgS false f i') f g σ (ints n g) (ints n (lateF p f g (lgS false f) σ i)) (ordC n f σ) (encM (encL f (lgS false f)) M) (encM (encL f (lgS false f)) (setA M (g (σ i)) (σ i, B))) R).mpr ⟨fun _ => ?_, fun h => absurd hi (by simpa using h)⟩⟩
      simp only [Int.toNat_natCast]
      have w1' : IntKind.i64.wrap (B + (f (σ i)).lo) = B + (f (σ i)).lo := w1
      rw [hw, hwk, w0, hdef, w1', w2]
      repeat' (first | with_reducible apply And.intro | with_reducible intro)
      all_goals first
        | trivial
        | omega
        | rfl
        | (rw [ordC_len]; omega)
        | (rw [ordC_part f σ hi]; rfl)
        | exact ints_get g hj
        | exact hlook _ _ rfl
        | (rw [ints_len]; omega)
        | exact hset
        | exact hR
    · refine ⟨_, (b70ts p n c d i i' (b' + lgS true f i') f g σ (ints n g) (ints n (lateF p f g (lgS true f) σ i)) (ordC n f σ) (encM (encL f (lgS true f)) M) (encM (encL f (lgS true f)) (setA M (g (σ i)) (σ i, B))) R).mpr ⟨fun _ => ?_, fun h => absurd hi (by simpa using h)⟩⟩
      simp only [Int.toNat_natCast]
      have w1' : IntKind.i64.wrap (B + (f (σ i)).hi) = B + (f (σ i)).hi := w1
      rw [hw, hwk, w0, hdef, w1', w2]
      repeat' (first | with_reducible apply And.intro | with_reducible intro)
      all_goals first
        | trivial
        | omega
        | rfl
        | (rw [ordC_len]; omega)
        | (rw [ordC_part f σ hi]; rfl)
        | exact ints_get g hj
        | exact hlook _ _ rfl
        | (rw [ints_len]; omega)
        | exact hset
        | exact hR
theorem loop70 (sure : Bool) {p : Int} {n c d : Nat} {f : Nat → Mv} {g : Nat → Int} (hok : okH p n f = true) : LoopOW Tryz.prog none p70 (T70 sure) (h70 sure p n c d f g 0) (.exit 0) (T70 sure) (h70 sure p n c d f g n) := by
  have h7 := (okH_iff hok).n7
  refine loop_forW (Ts := [T70 sure]) (k := 6) (n := n) (st := fun i => (0, h70 sure p n c d f g i)) (e := .exit 0) rfl vx_sound (by intro T hT; simp only [List.mem_singleton] at hT; subst hT; rfl) (by rw [nglob]; omega) ⟨by simp, trivial⟩ (fun i hi => h70_cl sure p n c d f g i)
    (fun i hi R hR => ?_) (fun R hR => ?_) (T0 := T70 sure) (T1 := T70 sure) rfl (Nat.le_of_ble_eq_true rfl) (by decide) rfl
  · obtain ⟨hs, h⟩ := round70 sure hok hi hR
    exact ⟨T70 sure, hs, rfl, h⟩
  · cases sure
    · exact ⟨T70 false, _, rfl, (b70fn p n c d n f g (fun i => i) (ints n g) _ _ _ [] R).mpr ⟨fun h => absurd (of_decide_eq_true h) (by omega), fun _ => hR⟩⟩
    · exact ⟨T70 true, _, rfl, (b70tn p n c d n f g (fun i => i) (ints n g) _ _ _ [] R).mpr ⟨fun h => absurd (of_decide_eq_true h) (by omega), fun _ => hR⟩⟩
theorem f70t (p : Int) (n c d : Nat) (f : Nat → Mv) (ps ls js : List Value) (es : List (Value × Value)) (R : Hx → Prop)  : (vx.call 81 [hV p n c, slV 1 n d, .iface (trI true) (.agg ⟨[]⟩)] (retN (rowT 2 3) R) (m2 (mvs n f) ps) ((7, Hint.mk n (ints n fun _ => (0 : Int))) :: (2, Hint.conN (C91 p n c f)) :: (2, Hint.loopW (T70 true) (AExit.exit (0 : Nat)) (T70 true) fun _ =>   { hs := { vs := [I (↑n : Int), I (↑n : Int), I p], ns := [(n, d), (n, n), (n, n), (n, c)] }, ls := [ps, ls, js],     es := [es] }) :: [(2, Hint.tm (0 : Nat) [((2 : Nat), (4 : Nat))])])) =
(((((((↑n : Int) = (↑n : Int))) ∧ (((↑n : Int) = (↑n : Int)))) ∧ (((((↑n : Int) ≤ (2 : Int) ^ (40 : Nat))) ∧ (((↑(8 : Nat) : Int) * (↑n : Int) ≤ (2 : Int) ^ (48 : Nat)))) ∧ ((zCells [Value.int IntKind.i64 (0 : Int)] (n * (1 : Nat)) = ints n fun _ => (0 : Int))))) ∧ 
((ConNOK Tryz.prog ((98 : Nat)) (C91 p n c f)) ∧ (ConN.pre (C91 p n c f) ⟨⟨[(.int IntKind.i64 (p))], [⟨(n), (c)⟩]⟩, [(mvs n f)]⟩) ∧ 
((ClW ⟨⟨[(.int IntKind.i64 ((↑n : Int))), (.int IntKind.i64 ((0 : Int))), (.int IntKind.i64 (p))], [⟨(n), (d)⟩, ⟨(n), (n)⟩, ⟨(n), (n)⟩, ⟨(n), (c)⟩]⟩, [(ps), (ints n fun _ => (0 : Int)), (ordC n f (srt (atF f) n))], [[]]⟩) ∧ (LoopOW Tryz.prog .none p70 (T70 true) ⟨⟨[(.int IntKind.i64 ((↑n : Int))), (.int IntKind.i64 ((0 : Int))), (.int IntKind.i64 (p))], [⟨(n), (d)⟩, ⟨(n), (n)⟩, ⟨(n), (n)⟩, ⟨(n), (c)⟩]⟩, [(ps), (ints n fun _ => (0 : Int)), (ordC n f (srt (atF f) n))], [[]]⟩ (.exit ((0 : Nat))) (T70 true) ⟨⟨[(.int IntKind.i64 ((↑n : Int))), (.int IntKind.i64 ((↑n : Int))), (.int IntKind.i64 (p))], [⟨(n), (d)⟩, ⟨(n), (n)⟩, ⟨(n), (n)⟩, ⟨(n), (c)⟩]⟩, [(ps), (ls), (js)], [(es)]⟩) ∧ 
R ⟨⟨[], [⟨(n), (n)⟩]⟩, [(ls)]⟩)))) := by kernel_rfl

theorem f70f (p : Int) (n c d : Nat) (f : Nat → Mv) (ps ls js : List Value) (es : List (Value × Value)) (R : Hx → Prop)  : (vx.call 81 [hV p n c, slV 1 n d, .iface (trI false) (.agg ⟨[]⟩)] (retN (rowT 2 3) R) (m2 (mvs n f) ps) ((7, Hint.mk n (ints n fun _ => (0 : Int))) :: (2, Hint.conN (C91 p n c f)) :: (2, Hint.loopW (T70 false) (AExit.exit (0 : Nat)) (T70 false) fun _ =>   { hs := { vs := [I (↑n : Int), I (↑n : Int), I p], ns := [(n, d), (n, n), (n, n), (n, c)] }, ls := [ps, ls, js],     es := [es] }) :: [(2, Hint.tm (0 : Nat) [((2 : Nat), (4 : Nat))])])) =
(((((((↑n : Int) = (↑n : Int))) ∧ (((↑n : Int) = (↑n : Int)))) ∧ (((((↑n : Int) ≤ (2 : Int) ^ (40 : Nat))) ∧ (((↑(8 : Nat) : Int) * (↑n : Int) ≤ (2 : Int) ^ (48 : Nat)))) ∧ ((zCells [Value.int IntKind.i64 (0 : Int)] (n * (1 : Nat)) = ints n fun _ => (0 : Int))))) ∧ 
((ConNOK Tryz.prog ((98 : Nat)) (C91 p n c f)) ∧ (ConN.pre (C91 p n c f) ⟨⟨[(.int IntKind.i64 (p))], [⟨(n), (c)⟩]⟩, [(mvs n f)]⟩) ∧ 
((ClW ⟨⟨[(.int IntKind.i64 ((↑n : Int))), (.int IntKind.i64 ((0 : Int))), (.int IntKind.i64 (p))], [⟨(n), (d)⟩, ⟨(n), (n)⟩, ⟨(n), (n)⟩, ⟨(n), (c)⟩]⟩, [(ps), (ints n fun _ => (0 : Int)), (ordC n f (srt (atF f) n))], [[]]⟩) ∧ (LoopOW Tryz.prog .none p70 (T70 false) ⟨⟨[(.int IntKind.i64 ((↑n : Int))), (.int IntKind.i64 ((0 : Int))), (.int IntKind.i64 (p))], [⟨(n), (d)⟩, ⟨(n), (n)⟩, ⟨(n), (n)⟩, ⟨(n), (c)⟩]⟩, [(ps), (ints n fun _ => (0 : Int)), (ordC n f (srt (atF f) n))], [[]]⟩ (.exit ((0 : Nat))) (T70 false) ⟨⟨[(.int IntKind.i64 ((↑n : Int))), (.int IntKind.i64 ((↑n : Int))), (.int IntKind.i64 (p))], [⟨(n), (d)⟩, ⟨(n), (n)⟩, ⟨(n), (n)⟩, ⟨(n), (c)⟩]⟩, [(ps), (ls), (js)], [(es)]⟩) ∧ 
R ⟨⟨[], [⟨(n), (n)⟩]⟩, [(ls)]⟩)))) := by kernel_rfl

theorem ints_cons (n : Nat) (g : Nat → Int) : ints n g = (List.range n).map fun i => I (g i) := by
  simp only [ints, flatC]
  exact List.map_eq_flatMap.symm
theorem zCells_ints (n : Nat) : zCells [Value.int IntKind.i64 (0 : Int)] (n * 1) = ints n fun _ => (0 : Int) := by
  rw [Nat.mul_one, ints_cons]
  simp only [zCells, List.length_singleton, Nat.mod_one]
  rfl
/-- How late moves begin. -/
noncomputable def latS (sure : Bool) (p : Int) (n : Nat) (f : Nat → Mv) (g : Nat → Int) : Nat → Int := lateF p f g (lgS sure f) (srt (atF f) n) n
noncomputable def C70 (sure : Bool) (p : Int) (n c d : Nat) (f : Nat → Mv) (g : Nat → Int) : ConN where
  A := .agg (.hole (.slice 0 0 .nil)) (.slice 1 0 (.iface (trI sure) (.agg .nil .nil) .nil))
  bs := [.list 1 .ro, .list 3 .ro]
  pre x := x = ⟨⟨[I p], [(n, c), (n, d)]⟩, [mvs n f, ints n g]⟩
  news _ := [(ints n (latS sure p n f g), 3)]
  one := true
  res _ := [.sl 0 n]
theorem C70_ok (sure : Bool) (p : Int) (n c d : Nat) (f : Nat → Mv) (g : Nat → Int) (h0 : 0 < n) (hok : okH p n f = true) : ConNOK Tryz.prog 81 (C70 sure p n c d f g) := by
  have h7 := (okH_iff hok).n7
  have hl := loop70 sure (c := c) (d := d) (g := g) hok
  have hc := h70_cl sure p n c d f g 0
  have e0 : lateF p f g (lgS sure f) (srt (atF f) n) 0 = fun _ => 0 := by funext i; simp [lateF, doneB]
  simp only [h70, e0] at hl hc
  refine conRow_of rfl vx_sound (C := C70 sure p n c d f g) (n := n) (cells := ints n (latS sure p n f g)) (e := 3) ⟨⟨[I p], [(n, c), (n, d)]⟩, [mvs n f, ints n g]⟩ (fun x => Iff.rfl) rfl rfl rfl ?_ ?_ (ints_atom n _) rfl (Nat.le_of_ble_eq_true rfl) (by rw [nglob]; exact Nat.zero_le _)
  · cases sure
    · exact ⟨_, (f70f p n c d f (ints n g) (ints n (latS false p n f g)) (ordC n f (srt (atF f) n)) (encM (encL f (lgS false f)) (prc p f g (lgS false f) (srt (atF f) n) n).M) _).mpr ⟨⟨⟨rfl, rfl⟩, ⟨by omega, by omega⟩, zCells_ints n⟩, C91_ok p n c f h0 h7, rfl, hc, hl, rfl⟩⟩
    · exact ⟨_, (f70t p n c d f (ints n g) (ints n (latS true p n f g)) (ordC n f (srt (atF f) n)) (encM (encL f (lgS true f)) (prc p f g (lgS true f) (srt (atF f) n) n).M) _).mpr ⟨⟨⟨rfl, rfl⟩, ⟨by omega, by omega⟩, zCells_ints n⟩, C91_ok p n c f h0 h7, rfl, hc, hl, rfl⟩⟩
  · intro cs hcs
    simp only [List.mem_cons, List.not_mem_nil, or_false] at hcs
    rcases hcs with rfl | rfl
    · exact mvs_atoms n f _ (by simp)
    · exact ints_atoms n g _ (by simp)
end Go.Ab

/- FORMS OF STATES AT LOOPS' HEADS: lateness, busy, truly. -/
set_option maxRecDepth 100000
namespace Go.Ab
open Go Go.RowKit Go.Proofs
def p40 : Loc := .l (.r (.l (.r (.r (.r (.top 47))))))
noncomputable def T40a : Tw := ⟨38, mkS 38 [(5, .slice 3 0 .nil), (6, .slice 4 0 .nil), (7, .val nilS .nil), (20, .hole .nil), (21, .hole .nil)], 5, [.dead, .dead, .dead, .list 3 .row, .list 3 .row]⟩
noncomputable def T40b : Tw := ⟨38, mkS 38 [(5, .slice 3 0 .nil), (6, .slice 4 0 .nil), (7, .slice 5 0 .nil), (20, .hole .nil), (21, .hole .nil)], 5, [.dead, .dead, .dead, .list 3 .row, .list 3 .row, .list 37 .row]⟩
def p54 : Loc := .l (.r (.l (.r (.r (.top 52)))))
noncomputable def T54 (sure : Bool) : Tw := ⟨33, mkS 33 [(1, .hole .nil), (2, .iface (trI sure) (.agg .nil .nil) .nil), (7, .hole .nil), (12, .slice 0 0 .nil), (13, .hole .nil), (14, .hole .nil)], 2, [.list 1 .ro, .dead]⟩
noncomputable def bools (n : Nat) (b : Nat → Bool) : List Value := flatC n fun i => [.bool (b i)]
noncomputable def m3t (ms ps ls : List Value) : Mem := ⟨fillX [.cells ms 1 .ro, .cells ps 3 .ro, .cells ls 3 .ro] 0 .nil, 3⟩
end Go.Ab

/- package horse: lateness; busy. -/
set_option maxRecDepth 100000
namespace Go.Ab
open Go Go.RowKit Go.Proofs
theorem b40a (n i : Nat) (gl gm : Nat → Int) (xs bs : List Value) (R : Nat → AExit → Hw → Prop)  : (vx.code none (.l p40) (leafW [T40a, T40b] R) (T40a.inst ⟨⟨[I n, I i], [(n, n), (n, n)]⟩, [xs, bs], []⟩) ([(0, .split ((6, .val (.pointer (.some ⟨((3 : Nat)), ((0 : Nat) + i * (1 : Nat)), .none⟩))) :: (0, .val (.int IntKind.i64 (gl i))) :: (2, .val (.pointer (.some ⟨((4 : Nat)), ((0 : Nat) + i * (1 : Nat)), .none⟩))) :: (0, .val (.int IntKind.i64 (gm i))) :: [(5, Hint.tm (1 : Nat) [((5 : Nat), (6 : Nat))])]) ([(1, Hint.tm (0 : Nat) [])]))])) =
((((decide ((↑i : Int) < (↑n : Int))) = true → ((((((0 : Int) ≤ (↑i : Int))) ∧ (((↑i : Int) < (↑n : Int)))) ∧ (((.pointer (.some ⟨((3 : Nat)), ((0 : Nat) + i * (1 : Nat)), .none⟩)) : Value) = (.pointer (.some ⟨((3 : Nat)), ((0 : Nat) + i * (1 : Nat)), .none⟩)))) ∧
(((xs[(0 : Nat) + i * (1 : Nat)]? = some (.int IntKind.i64 (gl i)))) ∧
((((((0 : Int) ≤ (↑i : Int))) ∧ (((↑i : Int) < (↑n : Int)))) ∧ (((.pointer (.some ⟨((4 : Nat)), ((0 : Nat) + i * (1 : Nat)), .none⟩)) : Value) = (.pointer (.some ⟨((4 : Nat)), ((0 : Nat) + i * (1 : Nat)), .none⟩)))) ∧
(((bs[(0 : Nat) + i * (1 : Nat)]? = some (.int IntKind.i64 (gm i)))) ∧
R ((1 : Nat)) .normal ⟨⟨[(.int IntKind.i64 ((↑n : Int))), (.int IntKind.i64 (IntKind.i64.wrap ((↑i : Int) + (1 : Int))))], [⟨(n), (n)⟩, ⟨(n), (n)⟩, ⟨((1 : Nat)), ((1 : Nat))⟩]⟩, [(xs), (bs), [(.int IntKind.i64 (gl i)), (.int IntKind.i64 (gm i))]], []⟩))))) ∧
((decide ((↑i : Int) < (↑n : Int))) = false → R ((0 : Nat)) (.exit ((0 : Nat))) ⟨⟨[(.int IntKind.i64 ((↑n : Int))), (.int IntKind.i64 ((↑i : Int)))], [⟨(n), (n)⟩, ⟨(n), (n)⟩]⟩, [(xs), (bs)], []⟩))) := by kernel_rfl

theorem b40b (n i : Nat) (gl gm : Nat → Int) (xs bs ls : List Value) (R : Nat → AExit → Hw → Prop)  : (vx.code none (.l p40) (leafW [T40a, T40b] R) (T40b.inst ⟨⟨[I n, I i], [(n, n), (n, n), (i, i)]⟩, [xs, bs, ls], []⟩) ([(0, .split ((6, .val (.pointer (.some ⟨((3 : Nat)), ((0 : Nat) + i * (1 : Nat)), .none⟩))) :: (0, .val (.int IntKind.i64 (gl i))) :: (2, .val (.pointer (.some ⟨((4 : Nat)), ((0 : Nat) + i * (1 : Nat)), .none⟩))) :: (0, .val (.int IntKind.i64 (gm i))) :: (1, Hint.grow) :: [(3, Hint.tm (1 : Nat) [((5 : Nat), (7 : Nat))])]) ([(1, Hint.tm (1 : Nat) [((5 : Nat), (5 : Nat))])]))])) =
((((decide ((↑i : Int) < (↑n : Int))) = true → ((((((0 : Int) ≤ (↑i : Int))) ∧ (((↑i : Int) < (↑n : Int)))) ∧ (((.pointer (.some ⟨((3 : Nat)), ((0 : Nat) + i * (1 : Nat)), .none⟩)) : Value) = (.pointer (.some ⟨((3 : Nat)), ((0 : Nat) + i * (1 : Nat)), .none⟩)))) ∧
(((xs[(0 : Nat) + i * (1 : Nat)]? = some (.int IntKind.i64 (gl i)))) ∧
((((((0 : Int) ≤ (↑i : Int))) ∧ (((↑i : Int) < (↑n : Int)))) ∧ (((.pointer (.some ⟨((4 : Nat)), ((0 : Nat) + i * (1 : Nat)), .none⟩)) : Value) = (.pointer (.some ⟨((4 : Nat)), ((0 : Nat) + i * (1 : Nat)), .none⟩)))) ∧
(((bs[(0 : Nat) + i * (1 : Nat)]? = some (.int IntKind.i64 (gm i)))) ∧
((((¬i + (1 : Nat) ≤ i)) ∧ (((i * (2 : Nat) = ls.length)) ∧ ((((i + (1 : Nat)) * (16 : Nat) ≤ (140737488355328 : Nat))) ∧ ((i + (1 : Nat) ≤ (4611686018427387904 : Nat)))))) ∧ 
R ((1 : Nat)) .normal ⟨⟨[(.int IntKind.i64 ((↑n : Int))), (.int IntKind.i64 (IntKind.i64.wrap ((↑i : Int) + (1 : Int))))], [⟨(n), (n)⟩, ⟨(n), (n)⟩, ⟨(i + (1 : Nat)), (i + (1 : Nat))⟩]⟩, [(xs), (bs), ((List.take (i * (2 : Nat)) (ls)) ++ [(.int IntKind.i64 (gl i)), (.int IntKind.i64 (gm i))])], []⟩)))))) ∧
((decide ((↑i : Int) < (↑n : Int))) = false → R ((1 : Nat)) (.exit ((0 : Nat))) ⟨⟨[(.int IntKind.i64 ((↑n : Int))), (.int IntKind.i64 ((↑i : Int)))], [⟨(n), (n)⟩, ⟨(n), (n)⟩, ⟨(i), (i)⟩]⟩, [(xs), (bs), (ls)], []⟩))) := by kernel_rfl

theorem f40 (p : Int) (n c d : Nat) (f : Nat → Mv) (g : Nat → Int) (xs bs ls : List Value) (R : Hx → Prop)  : (vx.call 47 [hV p n c, slV 1 n d] (retN (rowT 2 37) R) (m2 (mvs n f) (ints n g)) ((11, Hint.conN (C70 false p n c d f g)) :: (0, Hint.again) :: (0, Hint.conN (C70 true p n c d f g)) :: (6, Hint.loopW T40a (AExit.exit (0 : Nat)) T40b fun _ =>   { hs := { vs := [I (↑n : Int), I (↑n : Int)], ns := [(n, n), (n, n), (n, n)] }, ls := [xs, bs, ls], es := [] }) :: [(2, Hint.tm (0 : Nat) [((2 : Nat), (5 : Nat))])])) =
(((ConNOK Tryz.prog ((81 : Nat)) (C70 false p n c d f g)) ∧ (ConN.pre (C70 false p n c d f g) ⟨⟨[(.int IntKind.i64 (p))], [⟨(n), (c)⟩, ⟨(n), (d)⟩]⟩, [(mvs n f), (ints n g)]⟩) ∧ 
((((((2 : Nat) ≤ (2 : Nat))) ∧ (((.agg ⟨[(.int IntKind.i64 (p)), (.slice (.some ⟨((0 : Nat)), ((0 : Nat)), .none⟩) (n) (c))]⟩) : Value) = (.agg ⟨[(.int IntKind.i64 (p)), (.slice (.some ⟨((0 : Nat)), ((0 : Nat)), .none⟩) (n) (c))]⟩))) ∧ (True)) ∧ 
((ConNOK Tryz.prog ((81 : Nat)) (C70 true p n c d f g)) ∧ (ConN.pre (C70 true p n c d f g) ⟨⟨[(.int IntKind.i64 (p))], [⟨(n), (c)⟩, ⟨(n), (d)⟩]⟩, [(mvs n f), (ints n g)]⟩) ∧ 
((ClW ⟨⟨[(.int IntKind.i64 ((↑n : Int))), (.int IntKind.i64 ((0 : Int)))], [⟨(n), (n)⟩, ⟨(n), (n)⟩]⟩, [(ints n (latS false p n f g)), (ints n (latS true p n f g))], []⟩) ∧ (LoopOW Tryz.prog .none p40 (T40a) ⟨⟨[(.int IntKind.i64 ((↑n : Int))), (.int IntKind.i64 ((0 : Int)))], [⟨(n), (n)⟩, ⟨(n), (n)⟩]⟩, [(ints n (latS false p n f g)), (ints n (latS true p n f g))], []⟩ (.exit ((0 : Nat))) (T40b) ⟨⟨[(.int IntKind.i64 ((↑n : Int))), (.int IntKind.i64 ((↑n : Int)))], [⟨(n), (n)⟩, ⟨(n), (n)⟩, ⟨(n), (n)⟩]⟩, [(xs), (bs), (ls)], []⟩) ∧ 
R ⟨⟨[], [⟨(n), (n)⟩]⟩, [(ls)]⟩))))) := by kernel_rfl

theorem b54t (m : Int) (n c i : Nat) (k : Int) (f : Nat → Mv) (ms : List Value) (R : Nat → AExit → Hw → Prop)  : (vx.code none (.l p54) (leafW [T54 true] R) ((T54 true).inst ⟨⟨[I m, I k, I n, I i], [(n, c)]⟩, [ms], []⟩) ([(0, .split ((1, .val (.pointer (.some ⟨((0 : Nat)), ((0 : Nat) + i * (4 : Nat)), .none⟩))) :: (0, .val (.agg ⟨[(.int IntKind.i64 ((f i).at_)), (.int IntKind.i64 ((f i).place)), (.int IntKind.i64 ((f i).lo)), (.int IntKind.i64 ((f i).hi))]⟩)) :: (17, Hint.again) :: [(6, .split ([(3, .split ([(8, Hint.tm (0 : Nat) [])]) ([(5, Hint.tm (0 : Nat) [])]))]) ([(6, Hint.tm (0 : Nat) [])]))]) ([(1, Hint.tm (0 : Nat) [])]))])) =
((((decide ((↑i : Int) < (↑n : Int))) = true → ((((((0 : Int) ≤ (↑i : Int))) ∧ (((↑i : Int) < (↑n : Int)))) ∧ (((.pointer (.some ⟨((0 : Nat)), ((0 : Nat) + i * (4 : Nat)), .none⟩)) : Value) = (.pointer (.some ⟨((0 : Nat)), ((0 : Nat) + i * (4 : Nat)), .none⟩)))) ∧
(((((0 : Nat) + i * (4 : Nat) + (4 : Nat) ≤ ms.length)) ∧ (((.agg ⟨[(.int IntKind.i64 ((f i).at_)), (.int IntKind.i64 ((f i).place)), (.int IntKind.i64 ((f i).lo)), (.int IntKind.i64 ((f i).hi))]⟩) : Value) = (.agg ⟨(List.take ((4 : Nat)) (List.drop ((0 : Nat) + i * (4 : Nat)) (ms)))⟩))) ∧
(((((some (.int IntKind.i64 ((f i).at_)) : Option Value) = some (.int IntKind.i64 ((f i).at_)))) ∧ ((((some (.int IntKind.i64 ((f i).at_)) : Option Value) = some (.int IntKind.i64 ((f i).at_)))) ∧ (True))) ∧ 
(((decide ((f i).at_ ≤ m)) = true → (((decide (m ≤ IntKind.i64.wrap (IntKind.i64.wrap ((f i).at_ + (f i).hi) - (1 : Int)))) = true → R ((0 : Nat)) .normal ⟨⟨[(.int IntKind.i64 (m)), (.int IntKind.i64 (IntKind.i64.wrap (k + (1 : Int)))), (.int IntKind.i64 ((↑n : Int))), (.int IntKind.i64 (IntKind.i64.wrap ((↑i : Int) + (1 : Int))))], [⟨(n), (c)⟩]⟩, [(ms)], []⟩) ∧
((decide (m ≤ IntKind.i64.wrap (IntKind.i64.wrap ((f i).at_ + (f i).hi) - (1 : Int)))) = false → R ((0 : Nat)) .normal ⟨⟨[(.int IntKind.i64 (m)), (.int IntKind.i64 (k)), (.int IntKind.i64 ((↑n : Int))), (.int IntKind.i64 (IntKind.i64.wrap ((↑i : Int) + (1 : Int))))], [⟨(n), (c)⟩]⟩, [(ms)], []⟩))) ∧
((decide ((f i).at_ ≤ m)) = false → R ((0 : Nat)) .normal ⟨⟨[(.int IntKind.i64 (m)), (.int IntKind.i64 (k)), (.int IntKind.i64 ((↑n : Int))), (.int IntKind.i64 (IntKind.i64.wrap ((↑i : Int) + (1 : Int))))], [⟨(n), (c)⟩]⟩, [(ms)], []⟩)))))) ∧
((decide ((↑i : Int) < (↑n : Int))) = false → R ((0 : Nat)) (.exit ((0 : Nat))) ⟨⟨[(.int IntKind.i64 (m)), (.int IntKind.i64 (k)), (.int IntKind.i64 ((↑n : Int))), (.int IntKind.i64 ((↑i : Int)))], [⟨(n), (c)⟩]⟩, [(ms)], []⟩))) := by kernel_rfl

theorem b54f (m : Int) (n c i : Nat) (k : Int) (f : Nat → Mv) (ms : List Value) (R : Nat → AExit → Hw → Prop)  : (vx.code none (.l p54) (leafW [T54 false] R) ((T54 false).inst ⟨⟨[I m, I k, I n, I i], [(n, c)]⟩, [ms], []⟩) ([(0, .split ((1, .val (.pointer (.some ⟨((0 : Nat)), ((0 : Nat) + i * (4 : Nat)), .none⟩))) :: (0, .val (.agg ⟨[(.int IntKind.i64 ((f i).at_)), (.int IntKind.i64 ((f i).place)), (.int IntKind.i64 ((f i).lo)), (.int IntKind.i64 ((f i).hi))]⟩)) :: (17, Hint.again) :: [(6, .split ([(3, .split ([(8, Hint.tm (0 : Nat) [])]) ([(5, Hint.tm (0 : Nat) [])]))]) ([(6, Hint.tm (0 : Nat) [])]))]) ([(1, Hint.tm (0 : Nat) [])]))])) =
((((decide ((↑i : Int) < (↑n : Int))) = true → ((((((0 : Int) ≤ (↑i : Int))) ∧ (((↑i : Int) < (↑n : Int)))) ∧ (((.pointer (.some ⟨((0 : Nat)), ((0 : Nat) + i * (4 : Nat)), .none⟩)) : Value) = (.pointer (.some ⟨((0 : Nat)), ((0 : Nat) + i * (4 : Nat)), .none⟩)))) ∧
(((((0 : Nat) + i * (4 : Nat) + (4 : Nat) ≤ ms.length)) ∧ (((.agg ⟨[(.int IntKind.i64 ((f i).at_)), (.int IntKind.i64 ((f i).place)), (.int IntKind.i64 ((f i).lo)), (.int IntKind.i64 ((f i).hi))]⟩) : Value) = (.agg ⟨(List.take ((4 : Nat)) (List.drop ((0 : Nat) + i * (4 : Nat)) (ms)))⟩))) ∧
(((((some (.int IntKind.i64 ((f i).at_)) : Option Value) = some (.int IntKind.i64 ((f i).at_)))) ∧ ((((some (.int IntKind.i64 ((f i).at_)) : Option Value) = some (.int IntKind.i64 ((f i).at_)))) ∧ (True))) ∧ 
(((decide ((f i).at_ ≤ m)) = true → (((decide (m ≤ IntKind.i64.wrap (IntKind.i64.wrap ((f i).at_ + (f i).lo) - (1 : Int)))) = true → R ((0 : Nat)) .normal ⟨⟨[(.int IntKind.i64 (m)), (.int IntKind.i64 (IntKind.i64.wrap (k + (1 : Int)))), (.int IntKind.i64 ((↑n : Int))), (.int IntKind.i64 (IntKind.i64.wrap ((↑i : Int) + (1 : Int))))], [⟨(n), (c)⟩]⟩, [(ms)], []⟩) ∧
((decide (m ≤ IntKind.i64.wrap (IntKind.i64.wrap ((f i).at_ + (f i).lo) - (1 : Int)))) = false → R ((0 : Nat)) .normal ⟨⟨[(.int IntKind.i64 (m)), (.int IntKind.i64 (k)), (.int IntKind.i64 ((↑n : Int))), (.int IntKind.i64 (IntKind.i64.wrap ((↑i : Int) + (1 : Int))))], [⟨(n), (c)⟩]⟩, [(ms)], []⟩))) ∧
((decide ((f i).at_ ≤ m)) = false → R ((0 : Nat)) .normal ⟨⟨[(.int IntKind.i64 (m)), (.int IntKind.i64 (k)), (.int IntKind.i64 ((↑n : Int))), (.int IntKind.i64 (IntKind.i64.wrap ((↑i : Int) + (1 : Int))))], [⟨(n), (c)⟩]⟩, [(ms)], []⟩)))))) ∧
((decide ((↑i : Int) < (↑n : Int))) = false → R ((0 : Nat)) (.exit ((0 : Nat))) ⟨⟨[(.int IntKind.i64 (m)), (.int IntKind.i64 (k)), (.int IntKind.i64 ((↑n : Int))), (.int IntKind.i64 ((↑i : Int)))], [⟨(n), (c)⟩]⟩, [(ms)], []⟩))) := by kernel_rfl

theorem f54t (p m k : Int) (n c : Nat) (ms : List Value) (R : ARes → Prop)  : (vx.call 52 [hV p n c, I m, .iface (trI true) (.agg ⟨[]⟩)] (retK R) (m1 ms) ((9, Hint.loopW (T54 true) (AExit.exit (0 : Nat)) (T54 true) fun _ =>   { hs := { vs := [I m, I k, I (↑n : Int), I (↑n : Int)], ns := [(n, c)] }, ls := [ms], es := [] }) :: [])) =
(((ClW ⟨⟨[(.int IntKind.i64 (m)), (.int IntKind.i64 ((0 : Int))), (.int IntKind.i64 ((↑n : Int))), (.int IntKind.i64 ((0 : Int)))], [⟨(n), (c)⟩]⟩, [(ms)], []⟩) ∧ (LoopOW Tryz.prog .none p54 (T54 true) ⟨⟨[(.int IntKind.i64 (m)), (.int IntKind.i64 ((0 : Int))), (.int IntKind.i64 ((↑n : Int))), (.int IntKind.i64 ((0 : Int)))], [⟨(n), (c)⟩]⟩, [(ms)], []⟩ (.exit ((0 : Nat))) (T54 true) ⟨⟨[(.int IntKind.i64 (m)), (.int IntKind.i64 (k)), (.int IntKind.i64 ((↑n : Int))), (.int IntKind.i64 ((↑n : Int)))], [⟨(n), (c)⟩]⟩, [(ms)], []⟩) ∧ 
R (.ret (.int IntKind.i64 (k))))) := by kernel_rfl

theorem f54f (p m k : Int) (n c : Nat) (ms : List Value) (R : ARes → Prop)  : (vx.call 52 [hV p n c, I m, .iface (trI false) (.agg ⟨[]⟩)] (retK R) (m1 ms) ((9, Hint.loopW (T54 false) (AExit.exit (0 : Nat)) (T54 false) fun _ =>   { hs := { vs := [I m, I k, I (↑n : Int), I (↑n : Int)], ns := [(n, c)] }, ls := [ms], es := [] }) :: [])) =
(((ClW ⟨⟨[(.int IntKind.i64 (m)), (.int IntKind.i64 ((0 : Int))), (.int IntKind.i64 ((↑n : Int))), (.int IntKind.i64 ((0 : Int)))], [⟨(n), (c)⟩]⟩, [(ms)], []⟩) ∧ (LoopOW Tryz.prog .none p54 (T54 false) ⟨⟨[(.int IntKind.i64 (m)), (.int IntKind.i64 ((0 : Int))), (.int IntKind.i64 ((↑n : Int))), (.int IntKind.i64 ((0 : Int)))], [⟨(n), (c)⟩]⟩, [(ms)], []⟩ (.exit ((0 : Nat))) (T54 false) ⟨⟨[(.int IntKind.i64 (m)), (.int IntKind.i64 (k)), (.int IntKind.i64 ((↑n : Int))), (.int IntKind.i64 ((↑n : Int)))], [⟨(n), (c)⟩]⟩, [(ms)], []⟩) ∧ 
R (.ret (.int IntKind.i64 (k))))) := by kernel_rfl

/-! ### lateness -/
noncomputable def spansC (n : Nat) (a b : Nat → Int) : List Value := flatC n fun i => [I (a i), I (b i)]
theorem spansC_len (n : Nat) (a b : Nat → Int) : (spansC n a b).length = n * 2 := flatC_len fun i _ => rfl
theorem spansC_atoms (n : Nat) (a b : Nat → Int) : ∀ v ∈ spansC n a b, atomic v = true := by
  refine flatC_atomic fun i _ v hv => ?_
  simp only [List.mem_cons, List.not_mem_nil, or_false] at hv
  rcases hv with rfl | rfl <;> rfl
theorem spansC_succ (n : Nat) (a b : Nat → Int) : spansC (n + 1) a b = spansC n a b ++ [I (a n), I (b n)] := flatC_succ
theorem clL {hs : Hs} {ls : List (List Value)} (h : ∀ cs ∈ ls, ∀ v ∈ cs, atomic v = true) : ClW ⟨hs, ls, []⟩ := ⟨h, fun es he => by cases he⟩
noncomputable def st40 (n : Nat) (a b : Nat → Int) (i : Nat) : Nat × Hw := if i = 0 then (0, ⟨⟨[I n, I (0 : Nat)], [(n, n), (n, n)]⟩, [ints n a, ints n b], []⟩) else (1, ⟨⟨[I n, I i], [(n, n), (n, n), (i, i)]⟩, [ints n a, ints n b, spansC i a b], []⟩)
theorem st40_cl (n : Nat) (a b : Nat → Int) (i : Nat) : ClW (st40 n a b i).2 := by
  simp only [st40]
  split
  · refine clL fun cs hcs => ?_
    simp only [List.mem_cons, List.not_mem_nil, or_false] at hcs
    rcases hcs with rfl | rfl
    · exact ints_atom n _
    · exact ints_atom n _
  · refine clL fun cs hcs => ?_
    simp only [List.mem_cons, List.not_mem_nil, or_false] at hcs
    rcases hcs with rfl | rfl | rfl
    · exact ints_atom n _
    · exact ints_atom n _
    · exact spansC_atoms i _ _
theorem loop40 (n : Nat) (a b : Nat → Int) (h0 : 0 < n) (hn : n ≤ 1000000) : LoopOW Tryz.prog none p40 T40a ⟨⟨[I n, I (0 : Nat)], [(n, n), (n, n)]⟩, [ints n a, ints n b], []⟩ (.exit 0) T40b ⟨⟨[I n, I n], [(n, n), (n, n), (n, n)]⟩, [ints n a, ints n b, spansC n a b], []⟩ := by
  have hst : ∀ i, 0 < i → st40 n a b i = (1, ⟨⟨[I n, I i], [(n, n), (n, n), (i, i)]⟩, [ints n a, ints n b, spansC i a b], []⟩) := fun i hi => by simp only [st40, if_neg (show ¬ i = 0 by omega)]
  have := loop_forW (P := Tryz.prog) (ro := none) (p := p40) (Ts := [T40a, T40b]) (k := 5) (n := n) (st := st40 n a b) (e := .exit 0) rfl vx_sound (by simp [T40a, T40b]) (by rw [nglob]; omega) ⟨by simp, trivial⟩ (fun i _ => st40_cl n a b i)
    (fun i hi R hR => ?_) (fun R hR => ?_) (T0 := T40a) (T1 := T40b) rfl (Nat.le_of_ble_eq_true rfl) (by decide) (by rw [hst n h0]; rfl)
  · rw [hst n h0] at this
    exact this
  · have hw : IntKind.i64.wrap ((i : Int) + 1) = ((i + 1 : Nat) : Int) := wrapI (by omega) (by omega)
    rw [hst (i + 1) (by omega)] at hR
    by_cases hz : i = 0
    · subst hz
      refine ⟨T40a, _, rfl, (b40a n 0 a b (ints n a) (ints n b) R).mpr ⟨fun _ => ?_, fun h => absurd hi (by simpa using h)⟩⟩
      rw [hw]
      exact ⟨⟨⟨by omega, by omega⟩, rfl⟩, ints_get a hi, ⟨⟨by omega, by omega⟩, rfl⟩, ints_get b hi, hR⟩
    · rw [hst i (by omega)]
      refine ⟨T40b, _, rfl, (b40b n i a b (ints n a) (ints n b) (spansC i a b) R).mpr ⟨fun _ => ?_, fun h => absurd hi (by simpa using h)⟩⟩
      have hl := spansC_len i a b
      rw [hw, List.take_of_length_le (by omega)]
      rw [spansC_succ] at hR
      exact ⟨⟨⟨by omega, by omega⟩, rfl⟩, ints_get a hi, ⟨⟨by omega, by omega⟩, rfl⟩, ints_get b hi, ⟨by omega, by omega, by omega, by omega⟩, hR⟩
  · rw [hst n h0] at hR ⊢
    exact ⟨T40b, _, rfl, (b40b n n a b (ints n a) (ints n b) (spansC n a b) R).mpr ⟨fun h => absurd (of_decide_eq_true h) (by omega), fun _ => hR⟩⟩
noncomputable def C40 (p : Int) (n c d : Nat) (f : Nat → Mv) (g : Nat → Int) : ConN where
  A := .agg (.hole (.slice 0 0 .nil)) (.slice 1 0 .nil)
  bs := [.list 1 .ro, .list 3 .ro]
  pre x := x = ⟨⟨[I p], [(n, c), (n, d)]⟩, [mvs n f, ints n g]⟩
  news _ := [(spansC n (latS false p n f g) (latS true p n f g), 37)]
  one := true
  res _ := [.sl 0 n]
theorem two_atoms {n : Nat} {f : Nat → Mv} {g : Nat → Int} : Atoms [mvs n f, ints n g] := fun cs hcs => by
  simp only [List.mem_cons, List.not_mem_nil, or_false] at hcs
  rcases hcs with rfl | rfl
  · exact mvs_atoms n f _ (by simp)
  · exact ints_atoms n g _ (by simp)
theorem C40_ok (p : Int) (n c d : Nat) (f : Nat → Mv) (g : Nat → Int) (h0 : 0 < n) (hok : okH p n f = true) : ConNOK Tryz.prog 47 (C40 p n c d f g) := by
  have h7 := (okH_iff hok).n7
  have hl := loop40 n (latS false p n f g) (latS true p n f g) h0 (by omega)
  have hc := st40_cl n (latS false p n f g) (latS true p n f g) 0
  refine conRow_of rfl vx_sound (C := C40 p n c d f g) (n := n) (cells := spansC n (latS false p n f g) (latS true p n f g)) (e := 37) ⟨⟨[I p], [(n, c), (n, d)]⟩, [mvs n f, ints n g]⟩ (fun x => Iff.rfl) rfl rfl rfl ?_ two_atoms (spansC_atoms n _ _) rfl (Nat.le_of_ble_eq_true rfl) (by rw [nglob]; exact Nat.zero_le _)
  refine ⟨_, (f40 p n c d f g (ints n (latS false p n f g)) (ints n (latS true p n f g)) (spansC n (latS false p n f g) (latS true p n f g)) _).mpr ?_⟩
  repeat' (first | with_reducible apply And.intro | with_reducible intro)
  all_goals first | exact C70_ok _ p n c d f g h0 hok | trivial | exact hc | exact hl | rfl
/-! ### busy -/
/-- How many of the first i are such. -/
def cntN (b : Nat → Bool) : Nat → Nat
  | 0 => 0
  | i + 1 => if b i then cntN b i + 1 else cntN b i
theorem cntN_le (b : Nat → Bool) (i : Nat) : cntN b i ≤ i := by
  induction i with
  | zero => exact Nat.le_refl 0
  | succ i ih => simp only [cntN]; split <;> omega
/-- Under way. -/
def undB (m : Int) (f : Nat → Mv) (lg : Nat → Int) (i : Nat) : Bool := decide ((f i).at_ ≤ m) && decide (m < (f i).at_ + lg i)
noncomputable def h54 (m : Int) (n c : Nat) (f : Nat → Mv) (lg : Nat → Int) (i : Nat) : Hw := ⟨⟨[I m, I (cntN (undB m f lg) i : Nat), I n, I i], [(n, c)]⟩, [mvs n f], []⟩
theorem mvs_atom (n : Nat) (f : Nat → Mv) : ∀ v ∈ mvs n f, atomic v = true := fun v hv => mvs_atoms n f _ (by simp) v hv
theorem round54 (sure : Bool) {p m : Int} {n c : Nat} {f : Nat → Mv} {i : Nat} (hok : okH p n f = true) (hi : i < n) {R : Nat → AExit → Hw → Prop} (hR : R 0 .normal (h54 m n c f (lgS sure f) (i + 1))) :
    ∃ hs, vx.code none (.l p54) (leafW [T54 sure] R) ((T54 sure).inst (h54 m n c f (lgS sure f) i)) hs := by
  have hH := okH_iff hok
  have h7 := hH.n7
  have hm := hH.mv i hi
  have a1 := hm.at0; have a2 := hm.at1; have a3 := hm.lo1; have a4 := hm.lohi; have a5 := hm.hi1
  have hl := lgS_le hok sure i hi
  have hc := cntN_le (undB m f (lgS sure f)) i
  have hw : IntKind.i64.wrap ((i : Int) + 1) = ((i + 1 : Nat) : Int) := wrapI (by omega) (by omega)
  have hw2 : IntKind.i64.wrap (((cntN (undB m f (lgS sure f)) i : Nat) : Int) + 1) = ((cntN (undB m f (lgS sure f)) i + 1 : Nat) : Int) := wrapI (by omega) (by omega)
  have w1 : IntKind.i64.wrap (IntKind.i64.wrap ((f i).at_ + lgS sure f i) - 1) = (f i).at_ + lgS sure f i - 1 := by
    rw [wrapI (x := (f i).at_ + lgS sure f i) (by omega) (by omega)]
    exact wrapI (by omega) (by omega)
  have l1 := flatC_bound (k := 4) hi
  simp only [h54, cntN] at hR
  simp only [h54]
  have hu : undB m f (lgS sure f) i = (decide ((f i).at_ ≤ m) && decide (m ≤ (f i).at_ + lgS sure f i - 1)) := by
    simp only [undB]
    congr 1
    exact decide_eq_decide.2 (by omega)
  rw [hu] at hR
  generalize cntN (undB m f (lgS sure f)) i = k at hR hw2
  cases sure
  · refine ⟨_, (b54f m n c i k f (mvs n f) R).mpr ⟨fun _ => ?_, fun h => absurd hi (by simpa using h)⟩⟩
    have w1' : IntKind.i64.wrap (IntKind.i64.wrap ((f i).at_ + (f i).lo) - 1) = (f i).at_ + lgS false f i - 1 := w1
    rw [hw, hw2, w1']
    repeat' (first | with_reducible apply And.intro | with_reducible intro)
    all_goals first
      | trivial
      | omega
      | rfl
      | (rw [mvs_len]; omega)
      | (rw [mvs_part f hi]; rfl)
      | (simp only [*, Bool.and_true, Bool.and_false, Bool.false_and, if_true, if_false, Bool.false_eq_true] at hR; exact hR)
  · refine ⟨_, (b54t m n c i k f (mvs n f) R).mpr ⟨fun _ => ?_, fun h => absurd hi (by simpa using h)⟩⟩
    have w1' : IntKind.i64.wrap (IntKind.i64.wrap ((f i).at_ + (f i).hi) - 1) = (f i).at_ + lgS true f i - 1 := w1
    rw [hw, hw2, w1']
    repeat' (first | with_reducible apply And.intro | with_reducible intro)
    all_goals first
      | trivial
      | omega
      | rfl
      | (rw [mvs_len]; omega)
      | (rw [mvs_part f hi]; rfl)
      | (simp only [*, Bool.and_true, Bool.and_false, Bool.false_and, if_true, if_false, Bool.false_eq_true] at hR; exact hR)
theorem loop54 (sure : Bool) {p m : Int} {n c : Nat} {f : Nat → Mv} (hok : okH p n f = true) : LoopOW Tryz.prog none p54 (T54 sure) (h54 m n c f (lgS sure f) 0) (.exit 0) (T54 sure) (h54 m n c f (lgS sure f) n) := by
  refine loop_forW (Ts := [T54 sure]) (k := 2) (n := n) (st := fun i => (0, h54 m n c f (lgS sure f) i)) (e := .exit 0) rfl vx_sound (by intro T hT; simp only [List.mem_singleton] at hT; subst hT; rfl) (by rw [nglob]; omega) ⟨by simp, trivial⟩ (fun i hi => cl1 (mvs_atom n f))
    (fun i hi R hR => ?_) (fun R hR => ?_) (T0 := T54 sure) (T1 := T54 sure) rfl (Nat.le_of_ble_eq_true rfl) (by decide) rfl
  · obtain ⟨hs, h⟩ := round54 sure hok hi hR
    exact ⟨T54 sure, hs, rfl, h⟩
  · cases sure
    · exact ⟨T54 false, _, rfl, (b54f m n c n _ f (mvs n f) R).mpr ⟨fun h => absurd (of_decide_eq_true h) (by omega), fun _ => hR⟩⟩
    · exact ⟨T54 true, _, rfl, (b54t m n c n _ f (mvs n f) R).mpr ⟨fun h => absurd (of_decide_eq_true h) (by omega), fun _ => hR⟩⟩
noncomputable def C54 (sure : Bool) (p m : Int) (n c : Nat) (f : Nat → Mv) : Con where
  A := .agg (.hole (.slice 0 0 .nil)) (.hole (.iface (trI sure) (.agg .nil .nil) .nil))
  bs := [.list 1 .ro]
  pre x := x = ⟨⟨[I p, I m], [(n, c)]⟩, [mvs n f]⟩
  res _ := .ret (I (cntN (undB m f (lgS sure f)) n : Nat))
theorem C54_ok (sure : Bool) (p m : Int) (n c : Nat) (f : Nat → Mv) (hok : okH p n f = true) : ConOK Tryz.prog 52 (C54 sure p m n c f) := by
  refine con_of vx_sound ⟨⟨[I p, I m], [(n, c)]⟩, [mvs n f]⟩ (fun x hx => ?_) rfl (fun _ _ => rfl) (fun x hx => by cases hx; exact mvs_atoms n f) rfl (Nat.le_of_ble_eq_true rfl) (by rw [nglob]; exact Nat.zero_le _)
  cases hx
  have hl := loop54 sure (m := m) (c := c) hok
  cases sure
  · exact ⟨_, (f54f p m (cntN (undB m f (lgS false f)) n : Nat) n c (mvs n f) _).mpr ⟨cl1 (mvs_atom n f), hl, rfl⟩⟩
  · exact ⟨_, (f54t p m (cntN (undB m f (lgS true f)) n : Nat) n c (mvs n f) _).mpr ⟨cl1 (mvs_atom n f), hl, rfl⟩⟩
end Go.Ab

/- ABSTRACT MEMORY, 54: contracts of one new row, and a number beside it. -/
namespace Go.Ab
open Go Go.RowKit
noncomputable def rowT2 (N : Nat) (e : TypeId) : Tm := ⟨1, [some (.tuple (.slice N 0 (.hole .nil)) .nil)], N, List.replicate N .dead ++ [.list e .row]⟩
variable [TT] [PR] {P : Program}
theorem conRow2_of {N : Nat} {V : Vx} (htt : TT.tt = true) (hV : VSound P N V) {f : FuncId} {C : ConN} {e : TypeId} {cells : List Value} {n : Nat} {z : Int} (x0 : Hx) (hx0 : ∀ x, C.pre x ↔ x = x0) (hone : C.one = false) (hres : C.res x0 = [.sl 0 n, .cv (.int .i64 z)]) (hnews : C.news x0 = [(cells, e)])
    (h : ∃ hs, V.call f (C.con.args x0) (retN (rowT2 C.bs.length e) fun y => y = ⟨⟨[.int .i64 z], [(n, n)]⟩, [cells]⟩) (C.con.mem x0) hs) (ha : Atoms x0.ls) (hat : ∀ v ∈ cells, atomic v = true)
    (hr : allRo C.bs = true) (hs : C.bs.length ≤ 100000) (hg : P.globals.size ≤ C.bs.length) : ConNOK P f C where
  calls := by obtain ⟨hs, hv⟩ := h; exact (hV.call hv).1
  says x hp := by
    cases (hx0 x).1 hp
    obtain ⟨hs', hv⟩ := h
    have hlen : (rowT2 C.bs.length e).blocks.length = C.bs.length + 1 := by simp [rowT2]
    have hval : ((rowT2 C.bs.length e).inst ⟨⟨[.int .i64 z], [(n, n)]⟩, [cells]⟩).a.f 0 = some (.tuple ⟨[.slice (some ⟨C.bs.length, 0, none⟩) n n, .int .i64 z]⟩) := rfl
    refine (retN_says htt hV (T := rowT2 C.bs.length e) rfl (by exact hg) (fun j hj => ?_) (fun cs hcs => by simp only [List.mem_singleton] at hcs; subst hcs; exact hat) hv hval).mono ?_
    · have hj' : C.bs.length ≤ j := hj
      have := Con.mem_H (C := C.con) (x := x0) (by show C.bs.length ≤ _; omega) j
      rw [this, List.getElem?_eq_none (by rw [instB_len]; exact hj')]
      rfl
    · rintro r H' ⟨rfl, rfl⟩
      refine ⟨?_, fun t cs e' ht => ?_⟩
      · rw [hone, hres]; rfl
      · rw [hnews] at ht
        match t, ht with
        | 0, ht =>
          simp only [List.getElem?_cons_zero, Option.some.injEq, Prod.mk.injEq] at ht
          obtain ⟨rfl, rfl⟩ := ht
          rw [Nat.add_zero, Tm.inst_H (by rw [hlen]; omega)]
          have key : ∀ (k : Nat) (h : Hx), (instB (List.replicate k .dead ++ [.list e .row]) h).1[k]? = some (.cells (h.ls.headD []) e .row) := by
            intro k
            induction k with
            | zero => intro h; rfl
            | succ k ih => intro h; exact ih h
          show Option.map XB.a ((instB (List.replicate C.bs.length .dead ++ [.list e .row]) _).1[C.bs.length]?) = _
          rw [key]
          rfl
  closed x hp := by cases (hx0 x).1 hp; rw [hres, hnews]; exact ⟨rfl, fun h => (by rw [hone] at h; cases h)⟩
  atoms x hp := by
    cases (hx0 x).1 hp
    refine ⟨ha, fun y hy => ?_⟩
    rw [hnews] at hy
    simp only [List.mem_singleton] at hy
    subst hy
    exact hat
  ro := hr
  small := by omega
  glob := hg
end Go.Ab

/- package horse: Late, Busy, Follows, Leave: what is told, and what is refused. -/
set_option maxRecDepth 100000
namespace Go.Ab
open Go Go.RowKit Go.Proofs
theorem f15 (p : Int) (n c d : Nat) (f : Nat → Mv) (g : Nat → Int) (R : Hx → Prop)  : (vx.call 12 [hV p n c, slV 1 n d] (retN (rowT2 2 37) R) (m2 (mvs n f) (ints n g)) ((19, Hint.con (C68t p n c f)) :: (11, Hint.con (C39t p n c f n d g)) :: (6, Hint.conN (C40 p n c d f g)) :: [(9, Hint.tm (0 : Nat) [((2 : Nat), (9 : Nat))])])) =
(((ConOK Tryz.prog ((71 : Nat)) (C68t p n c f)) ∧ (Con.pre (C68t p n c f) ⟨⟨[(.int IntKind.i64 (p))], [⟨(n), (c)⟩]⟩, [(mvs n f)]⟩) ∧ 
((ConOK Tryz.prog ((39 : Nat)) (C39t p n c f n d g)) ∧ (Con.pre (C39t p n c f n d g) ⟨⟨[(.int IntKind.i64 (p))], [⟨(n), (c)⟩, ⟨(n), (d)⟩]⟩, [(mvs n f), (ints n g)]⟩) ∧ 
((ConNOK Tryz.prog ((47 : Nat)) (C40 p n c d f g)) ∧ (ConN.pre (C40 p n c d f g) ⟨⟨[(.int IntKind.i64 (p))], [⟨(n), (c)⟩, ⟨(n), (d)⟩]⟩, [(mvs n f), (ints n g)]⟩) ∧ 
R ⟨⟨[(.int IntKind.i64 ((0 : Int)))], [⟨(n), (n)⟩]⟩, [(spansC n (latS false p n f g) (latS true p n f g))]⟩)))) := by kernel_rfl

theorem f19 (p m : Int) (n c : Nat) (f : Nat → Mv) (R : ARes → Prop)  : (vx.call 14 [hV p n c, I m] (retK R) (m1 (mvs n f)) ((19, Hint.con (C68t p n c f)) :: [(17, .split ([(3, .split ((15, Hint.con (C54 false p m n c f)) :: (0, Hint.again) :: (0, Hint.con (C54 true p m n c f)) :: []) ([]))]) ([]))])) =
(((ConOK Tryz.prog ((71 : Nat)) (C68t p n c f)) ∧ (Con.pre (C68t p n c f) ⟨⟨[(.int IntKind.i64 (p))], [⟨(n), (c)⟩]⟩, [(mvs n f)]⟩) ∧ 
(((decide ((0 : Int) ≤ m)) = true → (((decide (m ≤ (220 : Int))) = true → ((ConOK Tryz.prog ((52 : Nat)) (C54 false p m n c f)) ∧ (Con.pre (C54 false p m n c f) ⟨⟨[(.int IntKind.i64 (p)), (.int IntKind.i64 (m))], [⟨(n), (c)⟩]⟩, [(mvs n f)]⟩) ∧ 
(((((some (.int IntKind.i64 (m)) : Option Value) = some (.int IntKind.i64 (m)))) ∧ (((((2 : Nat) ≤ (2 : Nat))) ∧ (((.agg ⟨[(.int IntKind.i64 (p)), (.slice (.some ⟨((0 : Nat)), ((0 : Nat)), .none⟩) (n) (c))]⟩) : Value) = (.agg ⟨[(.int IntKind.i64 (p)), (.slice (.some ⟨((0 : Nat)), ((0 : Nat)), .none⟩) (n) (c))]⟩))) ∧ (True))) ∧ 
((ConOK Tryz.prog ((52 : Nat)) (C54 true p m n c f)) ∧ (Con.pre (C54 true p m n c f) ⟨⟨[(.int IntKind.i64 (p)), (.int IntKind.i64 (m))], [⟨(n), (c)⟩]⟩, [(mvs n f)]⟩) ∧ 
R (.ret (.tuple ⟨[(.agg ⟨[(.int IntKind.i64 ((↑(cntN (undB m f (lgS false f)) n) : Int))), (.int IntKind.i64 ((↑(cntN (undB m f (lgS true f)) n) : Int)))]⟩), (.int IntKind.i64 ((0 : Int)))]⟩)))))) ∧
((decide (m ≤ (220 : Int))) = false → R (.ret (.tuple ⟨[(.agg ⟨[(.int IntKind.i64 ((0 : Int))), (.int IntKind.i64 ((0 : Int)))]⟩), (.int IntKind.i64 ((2 : Int)))]⟩))))) ∧
((decide ((0 : Int) ≤ m)) = false → R (.ret (.tuple ⟨[(.agg ⟨[(.int IntKind.i64 ((0 : Int))), (.int IntKind.i64 ((0 : Int)))]⟩), (.int IntKind.i64 ((2 : Int)))]⟩)))))) := by kernel_rfl

theorem f15e (p : Int) (n c k d : Nat) (f : Nat → Mv) (g : Nat → Int) (R : ARes → Prop)  : (vx.call 12 [hV p n c, slV 1 k d] (retK R) (m2 (mvs n f) (ints k g)) ((19, Hint.con (C68t p n c f)) :: (11, Hint.con ((C39 p n c f k d g).when (ARes.ret (Value.bool false)))) :: [])) =
(((ConOK Tryz.prog ((71 : Nat)) (C68t p n c f)) ∧ (Con.pre (C68t p n c f) ⟨⟨[(.int IntKind.i64 (p))], [⟨(n), (c)⟩]⟩, [(mvs n f)]⟩) ∧ 
((ConOK Tryz.prog ((39 : Nat)) ((C39 p n c f k d g).when (ARes.ret (Value.bool false)))) ∧ (Con.pre ((C39 p n c f k d g).when (ARes.ret (Value.bool false))) ⟨⟨[(.int IntKind.i64 (p))], [⟨(n), (c)⟩, ⟨(k), (d)⟩]⟩, [(mvs n f), (ints k g)]⟩) ∧ 
R (.ret (.tuple ⟨[(.slice .none ((0 : Nat)) ((0 : Nat))), (.int IntKind.i64 ((2 : Int)))]⟩))))) := by kernel_rfl

theorem f15a (p : Int) (n c : Nat) (f : Nat → Mv) (R : ARes → Prop)  : (vx.call 12 [hV p n c, nilS] (retK R) (m1 (mvs n f)) ((19, Hint.con ((C68 p n c f).when (ARes.ret (Value.bool false)))) :: [])) =
(((ConOK Tryz.prog ((71 : Nat)) ((C68 p n c f).when (ARes.ret (Value.bool false)))) ∧ (Con.pre ((C68 p n c f).when (ARes.ret (Value.bool false))) ⟨⟨[(.int IntKind.i64 (p))], [⟨(n), (c)⟩]⟩, [(mvs n f)]⟩) ∧ 
R (.ret (.tuple ⟨[(.slice .none ((0 : Nat)) ((0 : Nat))), (.int IntKind.i64 ((1 : Int)))]⟩)))) := by kernel_rfl

theorem f19a (p m : Int) (n c : Nat) (f : Nat → Mv) (R : ARes → Prop)  : (vx.call 14 [hV p n c, I m] (retK R) (m1 (mvs n f)) ((19, Hint.con ((C68 p n c f).when (ARes.ret (Value.bool false)))) :: [])) =
(((ConOK Tryz.prog ((71 : Nat)) ((C68 p n c f).when (ARes.ret (Value.bool false)))) ∧ (Con.pre ((C68 p n c f).when (ARes.ret (Value.bool false))) ⟨⟨[(.int IntKind.i64 (p))], [⟨(n), (c)⟩]⟩, [(mvs n f)]⟩) ∧ 
R (.ret (.tuple ⟨[(.agg ⟨[(.int IntKind.i64 ((0 : Int))), (.int IntKind.i64 ((0 : Int)))]⟩), (.int IntKind.i64 ((1 : Int)))]⟩)))) := by kernel_rfl

noncomputable def C15 (p : Int) (n c d : Nat) (f : Nat → Mv) (g : Nat → Int) : ConN where
  A := .agg (.hole (.slice 0 0 .nil)) (.slice 1 0 .nil)
  bs := [.list 1 .ro, .list 3 .ro]
  pre x := x = ⟨⟨[I p], [(n, c), (n, d)]⟩, [mvs n f, ints n g]⟩
  news _ := [(spansC n (latS false p n f g) (latS true p n f g), 37)]
  one := false
  res _ := [.sl 0 n, .cv (.int .i64 0)]
theorem C15_ok (p : Int) (n c d : Nat) (f : Nat → Mv) (g : Nat → Int) (h0 : 0 < n) (hok : okH p n f = true) (hpl : okP n n g = true) : ConNOK Tryz.prog 12 (C15 p n c d f g) := by
  have h7 := (okH_iff hok).n7
  exact conRow2_of rfl vx_sound (C := C15 p n c d f g) (n := n) (z := 0) (cells := spansC n (latS false p n f g) (latS true p n f g)) (e := 37) ⟨⟨[I p], [(n, c), (n, d)]⟩, [mvs n f, ints n g]⟩ (fun x => Iff.rfl) rfl rfl rfl
    ⟨_, (f15 p n c d f g _).mpr ⟨C68t_ok p n c f (by omega), ⟨rfl, hok⟩, C39t_ok p n c f n d g (by omega) (by omega), ⟨rfl, hpl⟩, C40_ok p n c d f g h0 hok, rfl, rfl⟩⟩ two_atoms (spansC_atoms n _ _) rfl (Nat.le_of_ble_eq_true rfl) (by rw [nglob]; exact Nat.zero_le _)
theorem one_at {n : Nat} {f : Nat → Mv} : Atoms [mvs n f] := mvs_atoms n f
noncomputable def C15e (p : Int) (n c k d : Nat) (f : Nat → Mv) (g : Nat → Int) (cs : List Value) : Con where
  A := .agg (.hole (.slice 0 0 .nil)) (.slice 1 0 .nil)
  bs := [.list 1 .ro, .list 3 .ro]
  pre x := x = ⟨⟨[I p], [(n, c), (k, d)]⟩, [mvs n f, cs]⟩
  res _ := .ret (.tuple ⟨[nilS, I 2]⟩)
theorem C15e_ok (p : Int) (n c k d : Nat) (f : Nat → Mv) (g : Nat → Int) (cs : List Value) (hcs : cs = ints k g) (hk : k ≤ 1000000) (hok : okH p n f = true) (hpl : okP n k g = false) : ConOK Tryz.prog 12 (C15e p n c k d f g cs) := by
  subst hcs
  have h7 := (okH_iff hok).n7
  refine con_of vx_sound ⟨⟨[I p], [(n, c), (k, d)]⟩, [mvs n f, ints k g]⟩ (fun x hx => ?_) rfl (fun _ _ => rfl) (fun x hx => ?_) rfl (Nat.le_of_ble_eq_true rfl) (by rw [nglob]; exact Nat.zero_le _)
  · cases hx
    refine ⟨_, (f15e p n c k d f g _).mpr ⟨C68t_ok p n c f (by omega), ⟨rfl, hok⟩, con_when (C39_ok p n c f k d g (by omega) hk) _, ⟨rfl, ?_⟩, rfl⟩⟩
    show ARes.ret (.bool (okP n k g)) = _
    rw [hpl]
  · cases hx
    intro cs hcs
    simp only [List.mem_cons, List.not_mem_nil, or_false] at hcs
    rcases hcs with rfl | rfl
    · exact mvs_atom n f
    · exact ints_atom k g
noncomputable def C15a (p : Int) (n c : Nat) (f : Nat → Mv) : Con where
  A := .agg (.hole (.slice 0 0 .nil)) (.val nilS .nil)
  bs := [.list 1 .ro]
  pre x := x = ⟨⟨[I p], [(n, c)]⟩, [mvs n f]⟩
  res _ := .ret (.tuple ⟨[nilS, I 1]⟩)
theorem C15a_ok (p : Int) (n c : Nat) (f : Nat → Mv) (hn : n ≤ 1000000) (hok : okH p n f = false) : ConOK Tryz.prog 12 (C15a p n c f) := by
  refine con_of vx_sound ⟨⟨[I p], [(n, c)]⟩, [mvs n f]⟩ (fun x hx => ?_) rfl (fun _ _ => rfl) (fun x hx => by cases hx; exact mvs_atoms n f) rfl (Nat.le_of_ble_eq_true rfl) (by rw [nglob]; exact Nat.zero_le _)
  cases hx
  refine ⟨_, (f15a p n c f _).mpr ⟨con_when (C68_ok p n c f hn) _, ⟨rfl, ?_⟩, rfl⟩⟩
  show ARes.ret (.bool (okH p n f)) = _
  rw [hok]
/-- Busy, in a minute. -/
noncomputable def busyV (m : Int) (n : Nat) (f : Nat → Mv) : Value := .tuple ⟨[.agg ⟨[I (cntN (undB m f (lgS false f)) n : Nat), I (cntN (undB m f (lgS true f)) n : Nat)]⟩, I 0]⟩
noncomputable def C19 (p m : Int) (n c : Nat) (f : Nat → Mv) (v : Value) : Con where
  A := .agg (.hole (.slice 0 0 .nil)) (.hole .nil)
  bs := [.list 1 .ro]
  pre x := x = ⟨⟨[I p, I m], [(n, c)]⟩, [mvs n f]⟩
  res _ := .ret v
theorem C19_ok (p m : Int) (n c : Nat) (f : Nat → Mv) (hok : okH p n f = true) (h0 : 0 ≤ m) (h1 : m ≤ 220) : ConOK Tryz.prog 14 (C19 p m n c f (busyV m n f)) := by
  have h7 := (okH_iff hok).n7
  refine con_of vx_sound ⟨⟨[I p, I m], [(n, c)]⟩, [mvs n f]⟩ (fun x hx => ?_) rfl (fun _ _ => rfl) (fun x hx => by cases hx; exact mvs_atoms n f) rfl (Nat.le_of_ble_eq_true rfl) (by rw [nglob]; exact Nat.zero_le _)
  cases hx
  refine ⟨_, (f19 p m n c f _).mpr ⟨C68t_ok p n c f (by omega), ⟨rfl, hok⟩, fun _ => ⟨fun _ => ⟨C54_ok false p m n c f hok, rfl, ⟨rfl, ⟨by omega, rfl⟩, trivial⟩, C54_ok true p m n c f hok, rfl, rfl⟩, fun h => absurd h1 (of_decide_eq_false h)⟩, fun h => absurd h0 (of_decide_eq_false h)⟩⟩
theorem C19e_ok (p m : Int) (n c : Nat) (f : Nat → Mv) (hok : okH p n f = true) (h1 : 220 < m) : ConOK Tryz.prog 14 (C19 p m n c f (.tuple ⟨[.agg ⟨[I 0, I 0]⟩, I 2]⟩)) := by
  have h7 := (okH_iff hok).n7
  refine con_of vx_sound ⟨⟨[I p, I m], [(n, c)]⟩, [mvs n f]⟩ (fun x hx => ?_) rfl (fun _ _ => rfl) (fun x hx => by cases hx; exact mvs_atoms n f) rfl (Nat.le_of_ble_eq_true rfl) (by rw [nglob]; exact Nat.zero_le _)
  cases hx
  refine ⟨_, (f19 p m n c f _).mpr ⟨C68t_ok p n c f (by omega), ⟨rfl, hok⟩, fun _ => ⟨fun h => absurd (of_decide_eq_true h) (by omega), fun _ => rfl⟩, fun _ => rfl⟩⟩
theorem C19a_ok (p m : Int) (n c : Nat) (f : Nat → Mv) (hn : n ≤ 1000000) (hok : okH p n f = false) : ConOK Tryz.prog 14 (C19 p m n c f (.tuple ⟨[.agg ⟨[I 0, I 0]⟩, I 1]⟩)) := by
  refine con_of vx_sound ⟨⟨[I p, I m], [(n, c)]⟩, [mvs n f]⟩ (fun x hx => ?_) rfl (fun _ _ => rfl) (fun x hx => by cases hx; exact mvs_atoms n f) rfl (Nat.le_of_ble_eq_true rfl) (by rw [nglob]; exact Nat.zero_le _)
  cases hx
  refine ⟨_, (f19a p m n c f _).mpr ⟨con_when (C68_ok p n c f hn) _, ⟨rfl, ?_⟩, rfl⟩⟩
  show ARes.ret (.bool (okH p n f)) = _
  rw [hok]
end Go.Ab

/- the document's words: Can. -/
set_option maxRecDepth 100000
namespace Go.Ab
open Go Go.RowKit Go.Proofs
theorem c36t (p : Int) (n c i j : Nat) (f : Nat → Mv) (R : ARes → Prop)  : (vx.call 36 [hV p n c, I i, I j, .bool true] (retK R) (m1 (mvs n f)) ((6, .val (.pointer (.some ⟨((0 : Nat)), ((0 : Nat) + i * (4 : Nat)), .none⟩))) :: (2, .val (.int IntKind.i64 ((f i).lo))) :: (6, .val (.pointer (.some ⟨((0 : Nat)), ((0 : Nat) + i * (4 : Nat)), .none⟩))) :: (2, .val (.int IntKind.i64 ((f i).hi))) :: (4, .val (.pointer (.some ⟨((0 : Nat)), ((0 : Nat) + i * (4 : Nat)), .none⟩))) :: (1, .val (.int IntKind.i64 ((f i).at_))) :: (8, .val (.pointer (.some ⟨((0 : Nat)), ((0 : Nat) + j * (4 : Nat)), .none⟩))) :: (1, .val (.int IntKind.i64 ((f j).at_))) :: (6, .val (.pointer (.some ⟨((0 : Nat)), ((0 : Nat) + i * (4 : Nat)), .none⟩))) :: (1, .val (.int IntKind.i64 ((f i).place))) :: (3, .val (.pointer (.some ⟨((0 : Nat)), ((0 : Nat) + j * (4 : Nat)), .none⟩))) :: (1, .val (.int IntKind.i64 ((f j).place))) :: (10, Hint.again) :: [(1, .split ([]) ([]))])) =
(((((((0 : Int) ≤ (↑i : Int))) ∧ (((↑i : Int) < (↑n : Int)))) ∧ (((.pointer (.some ⟨((0 : Nat)), ((0 : Nat) + i * (4 : Nat)), .none⟩)) : Value) = (.pointer (.some ⟨((0 : Nat)), ((0 : Nat) + i * (4 : Nat)), .none⟩)))) ∧
((((mvs n f)[(0 : Nat) + i * (4 : Nat) + (2 : Nat) + (0 : Nat)]? = some (.int IntKind.i64 ((f i).lo)))) ∧
((((((0 : Int) ≤ (↑i : Int))) ∧ (((↑i : Int) < (↑n : Int)))) ∧ (((.pointer (.some ⟨((0 : Nat)), ((0 : Nat) + i * (4 : Nat)), .none⟩)) : Value) = (.pointer (.some ⟨((0 : Nat)), ((0 : Nat) + i * (4 : Nat)), .none⟩)))) ∧
((((mvs n f)[(0 : Nat) + i * (4 : Nat) + (2 : Nat) + (1 : Nat)]? = some (.int IntKind.i64 ((f i).hi)))) ∧
((((((0 : Int) ≤ (↑i : Int))) ∧ (((↑i : Int) < (↑n : Int)))) ∧ (((.pointer (.some ⟨((0 : Nat)), ((0 : Nat) + i * (4 : Nat)), .none⟩)) : Value) = (.pointer (.some ⟨((0 : Nat)), ((0 : Nat) + i * (4 : Nat)), .none⟩)))) ∧
((((mvs n f)[(0 : Nat) + i * (4 : Nat) + (0 : Nat)]? = some (.int IntKind.i64 ((f i).at_)))) ∧
((((((0 : Int) ≤ (↑j : Int))) ∧ (((↑j : Int) < (↑n : Int)))) ∧ (((.pointer (.some ⟨((0 : Nat)), ((0 : Nat) + j * (4 : Nat)), .none⟩)) : Value) = (.pointer (.some ⟨((0 : Nat)), ((0 : Nat) + j * (4 : Nat)), .none⟩)))) ∧
((((mvs n f)[(0 : Nat) + j * (4 : Nat) + (0 : Nat)]? = some (.int IntKind.i64 ((f j).at_)))) ∧
((((((0 : Int) ≤ (↑i : Int))) ∧ (((↑i : Int) < (↑n : Int)))) ∧ (((.pointer (.some ⟨((0 : Nat)), ((0 : Nat) + i * (4 : Nat)), .none⟩)) : Value) = (.pointer (.some ⟨((0 : Nat)), ((0 : Nat) + i * (4 : Nat)), .none⟩)))) ∧
((((mvs n f)[(0 : Nat) + i * (4 : Nat) + (1 : Nat)]? = some (.int IntKind.i64 ((f i).place)))) ∧
((((((0 : Int) ≤ (↑j : Int))) ∧ (((↑j : Int) < (↑n : Int)))) ∧ (((.pointer (.some ⟨((0 : Nat)), ((0 : Nat) + j * (4 : Nat)), .none⟩)) : Value) = (.pointer (.some ⟨((0 : Nat)), ((0 : Nat) + j * (4 : Nat)), .none⟩)))) ∧
((((mvs n f)[(0 : Nat) + j * (4 : Nat) + (1 : Nat)]? = some (.int IntKind.i64 ((f j).place)))) ∧
(((((mvs n f)[(0 : Nat) + j * (4 : Nat) + (0 : Nat)]? = some (.int IntKind.i64 ((f j).at_)))) ∧ ((((some (.slice (.some ⟨((0 : Nat)), ((0 : Nat)), .none⟩) (n) (c)) : Option Value) = some (.slice (.some ⟨((0 : Nat)), ((0 : Nat)), .none⟩) (n) (c)))) ∧ ((((mvs n f)[(0 : Nat) + i * (4 : Nat) + (0 : Nat)]? = some (.int IntKind.i64 ((f i).at_)))) ∧ ((((some (.slice (.some ⟨((0 : Nat)), ((0 : Nat)), .none⟩) (n) (c)) : Option Value) = some (.slice (.some ⟨((0 : Nat)), ((0 : Nat)), .none⟩) (n) (c)))) ∧ (True))))) ∧ 
(((decide   (IntKind.i64.wrap       (IntKind.i64.wrap ((f i).at_ + (f i).hi) +         IntKind.i64.wrap           (p *             if                 IntKind.i64.wrap ((0 : Int) - IntKind.i64.wrap ((f i).place - (f j).place)) >                   IntKind.i64.wrap ((f i).place - (f j).place) then               IntKind.i64.wrap ((0 : Int) - IntKind.i64.wrap ((f i).place - (f j).place))             else IntKind.i64.wrap ((f i).place - (f j).place))) ≤     (f j).at_)) = true → R (.ret (.bool true))) ∧
((decide   (IntKind.i64.wrap       (IntKind.i64.wrap ((f i).at_ + (f i).hi) +         IntKind.i64.wrap           (p *             if                 IntKind.i64.wrap ((0 : Int) - IntKind.i64.wrap ((f i).place - (f j).place)) >                   IntKind.i64.wrap ((f i).place - (f j).place) then               IntKind.i64.wrap ((0 : Int) - IntKind.i64.wrap ((f i).place - (f j).place))             else IntKind.i64.wrap ((f i).place - (f j).place))) ≤     (f j).at_)) = false → R (.ret (.bool false)))))))))))))))))) := by kernel_rfl

theorem c36f (p : Int) (n c i j : Nat) (f : Nat → Mv) (R : ARes → Prop)  : (vx.call 36 [hV p n c, I i, I j, .bool false] (retK R) (m1 (mvs n f)) ((6, .val (.pointer (.some ⟨((0 : Nat)), ((0 : Nat) + i * (4 : Nat)), .none⟩))) :: (2, .val (.int IntKind.i64 ((f i).lo))) :: (6, .val (.pointer (.some ⟨((0 : Nat)), ((0 : Nat) + i * (4 : Nat)), .none⟩))) :: (1, .val (.int IntKind.i64 ((f i).at_))) :: (8, .val (.pointer (.some ⟨((0 : Nat)), ((0 : Nat) + j * (4 : Nat)), .none⟩))) :: (1, .val (.int IntKind.i64 ((f j).at_))) :: (6, .val (.pointer (.some ⟨((0 : Nat)), ((0 : Nat) + i * (4 : Nat)), .none⟩))) :: (1, .val (.int IntKind.i64 ((f i).place))) :: (3, .val (.pointer (.some ⟨((0 : Nat)), ((0 : Nat) + j * (4 : Nat)), .none⟩))) :: (1, .val (.int IntKind.i64 ((f j).place))) :: (10, Hint.again) :: [(1, .split ([]) ([]))])) =
(((((((0 : Int) ≤ (↑i : Int))) ∧ (((↑i : Int) < (↑n : Int)))) ∧ (((.pointer (.some ⟨((0 : Nat)), ((0 : Nat) + i * (4 : Nat)), .none⟩)) : Value) = (.pointer (.some ⟨((0 : Nat)), ((0 : Nat) + i * (4 : Nat)), .none⟩)))) ∧
((((mvs n f)[(0 : Nat) + i * (4 : Nat) + (2 : Nat) + (0 : Nat)]? = some (.int IntKind.i64 ((f i).lo)))) ∧
((((((0 : Int) ≤ (↑i : Int))) ∧ (((↑i : Int) < (↑n : Int)))) ∧ (((.pointer (.some ⟨((0 : Nat)), ((0 : Nat) + i * (4 : Nat)), .none⟩)) : Value) = (.pointer (.some ⟨((0 : Nat)), ((0 : Nat) + i * (4 : Nat)), .none⟩)))) ∧
((((mvs n f)[(0 : Nat) + i * (4 : Nat) + (0 : Nat)]? = some (.int IntKind.i64 ((f i).at_)))) ∧
((((((0 : Int) ≤ (↑j : Int))) ∧ (((↑j : Int) < (↑n : Int)))) ∧ (((.pointer (.some ⟨((0 : Nat)), ((0 : Nat) + j * (4 : Nat)), .none⟩)) : Value) = (.pointer (.some ⟨((0 : Nat)), ((0 : Nat) + j * (4 : Nat)), .none⟩)))) ∧
((((mvs n f)[(0 : Nat) + j * (4 : Nat) + (0 : Nat)]? = some (.int IntKind.i64 ((f j).at_)))) ∧
((((((0 : Int) ≤ (↑i : Int))) ∧ (((↑i : Int) < (↑n : Int)))) ∧ (((.pointer (.some ⟨((0 : Nat)), ((0 : Nat) + i * (4 : Nat)), .none⟩)) : Value) = (.pointer (.some ⟨((0 : Nat)), ((0 : Nat) + i * (4 : Nat)), .none⟩)))) ∧
((((mvs n f)[(0 : Nat) + i * (4 : Nat) + (1 : Nat)]? = some (.int IntKind.i64 ((f i).place)))) ∧
((((((0 : Int) ≤ (↑j : Int))) ∧ (((↑j : Int) < (↑n : Int)))) ∧ (((.pointer (.some ⟨((0 : Nat)), ((0 : Nat) + j * (4 : Nat)), .none⟩)) : Value) = (.pointer (.some ⟨((0 : Nat)), ((0 : Nat) + j * (4 : Nat)), .none⟩)))) ∧
((((mvs n f)[(0 : Nat) + j * (4 : Nat) + (1 : Nat)]? = some (.int IntKind.i64 ((f j).place)))) ∧
(((((mvs n f)[(0 : Nat) + j * (4 : Nat) + (0 : Nat)]? = some (.int IntKind.i64 ((f j).at_)))) ∧ ((((some (.slice (.some ⟨((0 : Nat)), ((0 : Nat)), .none⟩) (n) (c)) : Option Value) = some (.slice (.some ⟨((0 : Nat)), ((0 : Nat)), .none⟩) (n) (c)))) ∧ ((((mvs n f)[(0 : Nat) + i * (4 : Nat) + (0 : Nat)]? = some (.int IntKind.i64 ((f i).at_)))) ∧ ((((some (.slice (.some ⟨((0 : Nat)), ((0 : Nat)), .none⟩) (n) (c)) : Option Value) = some (.slice (.some ⟨((0 : Nat)), ((0 : Nat)), .none⟩) (n) (c)))) ∧ (True))))) ∧ 
(((decide   (IntKind.i64.wrap       (IntKind.i64.wrap ((f i).at_ + (f i).lo) +         IntKind.i64.wrap           (p *             if                 IntKind.i64.wrap ((0 : Int) - IntKind.i64.wrap ((f i).place - (f j).place)) >                   IntKind.i64.wrap ((f i).place - (f j).place) then               IntKind.i64.wrap ((0 : Int) - IntKind.i64.wrap ((f i).place - (f j).place))             else IntKind.i64.wrap ((f i).place - (f j).place))) ≤     (f j).at_)) = true → R (.ret (.bool true))) ∧
((decide   (IntKind.i64.wrap       (IntKind.i64.wrap ((f i).at_ + (f i).lo) +         IntKind.i64.wrap           (p *             if                 IntKind.i64.wrap ((0 : Int) - IntKind.i64.wrap ((f i).place - (f j).place)) >                   IntKind.i64.wrap ((f i).place - (f j).place) then               IntKind.i64.wrap ((0 : Int) - IntKind.i64.wrap ((f i).place - (f j).place))             else IntKind.i64.wrap ((f i).place - (f j).place))) ≤     (f j).at_)) = false → R (.ret (.bool false)))))))))))))))) := by kernel_rfl

theorem mvs_cell {n i j : Nat} (f : Nat → Mv) (h : i < n) (hj : j < 4) : (mvs n f)[0 + i * 4 + j]? = (mvV (f i))[j]? := by
  rw [Nat.zero_add]
  exact flatC_get (n := n) (k := 4) (g := fun i => mvV (f i)) (fun _ _ => rfl) h hj
theorem mc0 {n i : Nat} (f : Nat → Mv) (h : i < n) : (mvs n f)[0 + i * 4 + 0]? = some (.int .i64 (f i).at_) := (mvs_cell f h (j := 0) (by omega)).trans rfl
theorem mc1 {n i : Nat} (f : Nat → Mv) (h : i < n) : (mvs n f)[0 + i * 4 + 1]? = some (.int .i64 (f i).place) := (mvs_cell f h (j := 1) (by omega)).trans rfl
theorem mc2 {n i : Nat} (f : Nat → Mv) (h : i < n) : (mvs n f)[0 + i * 4 + 2 + 0]? = some (.int .i64 (f i).lo) := (mvs_cell f h (j := 2) (by omega)).trans rfl
theorem mc3 {n i : Nat} (f : Nat → Mv) (h : i < n) : (mvs n f)[0 + i * 4 + 2 + 1]? = some (.int .i64 (f i).hi) := (mvs_cell f h (j := 3) (by omega)).trans rfl
theorem walkR {p : Int} {a b : Mv} (hp : 0 ≤ p ∧ p ≤ 3) (ha : MvOK a) (hb : MvOK b) :
    IntKind.i64.wrap (p * if IntKind.i64.wrap ((0 : Int) - IntKind.i64.wrap (a.place - b.place)) > IntKind.i64.wrap (a.place - b.place) then IntKind.i64.wrap ((0 : Int) - IntKind.i64.wrap (a.place - b.place)) else IntKind.i64.wrap (a.place - b.place)) = p * distI a b := by
  have a1 := ha.pl0; have a2 := ha.pl1; have b1 := hb.pl0; have b2 := hb.pl1
  have e1 : IntKind.i64.wrap (a.place - b.place) = a.place - b.place := wrapI (by omega) (by omega)
  have e2 : IntKind.i64.wrap ((0 : Int) - (a.place - b.place)) = b.place - a.place := by rw [wrapI (by omega) (by omega)]; omega
  rw [e1, e2]
  have hd := distI_bounds ha hb
  have hm := mul_bounds hp.1 hp.2 hd.1 hd.2
  exact wrapI (by unfold distI at hm; omega) (by unfold distI at hm; omega)
theorem canR {p : Int} {n : Nat} {f : Nat → Mv} (h : HOK p n f) (sure : Bool) {i j : Nat} (hi : i < n) (hj : j < n) :
    decide (IntKind.i64.wrap (IntKind.i64.wrap ((f i).at_ + cond sure (f i).hi (f i).lo) + p * distI (f i) (f j)) ≤ (f j).at_) = canB sure p f i j := by
  have ha := h.mv i hi
  have hb := h.mv j hj
  have a1 := ha.at0; have a2 := ha.at1; have a5 := ha.lo1; have a6 := ha.lohi; have a7 := ha.hi1
  have hL : 1 ≤ cond sure (f i).hi (f i).lo ∧ cond sure (f i).hi (f i).lo ≤ 20 := by cases sure <;> simp only [cond_true, cond_false] <;> omega
  have hd := distI_bounds ha hb
  have hm := mul_bounds h.p0 h.p3 hd.1 hd.2
  rw [canB_eq h sure hi hj]
  generalize cond sure (f i).hi (f i).lo = L at hL
  generalize p * distI (f i) (f j) = w at hm
  rw [wrapI (x := (f i).at_ + L) (by omega) (by omega), wrapI (x := (f i).at_ + L + w) (by omega) (by omega)]
/-- Can, whichever moves are meant. -/
noncomputable def K36 (sure : Bool) (p : Int) (n c : Nat) (f : Nat → Mv) : Con where
  A := .agg (.hole (.slice 0 0 .nil)) (.hole (.hole (.val (.bool sure) .nil)))
  bs := [.list 1 .ro]
  pre x := ∃ i j, i < n ∧ j < n ∧ x = ⟨⟨[I p, I (i : Nat), I (j : Nat)], [(n, c)]⟩, [mvs n f]⟩
  res x := .ret (.bool (canB sure p f (natAt x 1) (natAt x 2)))
noncomputable def K36i (sure : Bool) (p : Int) (n c : Nat) (f : Nat → Mv) (i j : Nat) : Con where
  A := .agg (.hole (.slice 0 0 .nil)) (.hole (.hole (.val (.bool sure) .nil)))
  bs := [.list 1 .ro]
  pre x := x = ⟨⟨[I p, I (i : Nat), I (j : Nat)], [(n, c)]⟩, [mvs n f]⟩
  res _ := .ret (.bool (canB sure p f i j))
theorem K36i_ok (sure : Bool) (p : Int) (n c : Nat) (f : Nat → Mv) (hok : okH p n f = true) {i j : Nat} (hi : i < n) (hj : j < n) : ConOK Tryz.prog 36 (K36i sure p n c f i j) := by
  refine con_of vx_sound ⟨⟨[I p, I i, I j], [(n, c)]⟩, [mvs n f]⟩ (fun x hx => ?_) rfl (fun _ _ => rfl) (fun x hx => by cases hx; exact mvs_atoms n f) rfl (Nat.le_of_ble_eq_true rfl) (by rw [nglob]; exact Nat.zero_le _)
  cases hx
  have hH := okH_iff hok
  have ha := hH.mv i hi
  have hb := hH.mv j hj
  have hw := walkR ⟨hH.p0, hH.p3⟩ ha hb
  have li := flatC_bound (k := 4) hi
  have lj := flatC_bound (k := 4) hj
  have key : ∀ R : ARes → Prop, (∀ v, canB sure p f i j = v → R (.ret (.bool v))) → ∃ hs, vx.call 36 [hV p n c, I i, I j, .bool sure] (retK R) (m1 (mvs n f)) hs := by
    intro R hR
    have hc := canR hH sure hi hj
    cases sure with
    | true =>
      refine ⟨_, (c36t p n c i j f R).mpr ?_⟩
      rw [hw]
      simp only [cond_true] at hc
      repeat' (first | with_reducible apply And.intro | with_reducible intro)
      all_goals first
        | trivial
        | omega
        | rfl
        | exact mc0 f hi
        | exact mc0 f hj
        | exact mc1 f hi
        | exact mc1 f hj
        | exact mc2 f hi
        | exact mc3 f hi
        | (refine hR _ ?_; rw [← hc]; assumption)
    | false =>
      refine ⟨_, (c36f p n c i j f R).mpr ?_⟩
      rw [hw]
      simp only [cond_false] at hc
      repeat' (first | with_reducible apply And.intro | with_reducible intro)
      all_goals first
        | trivial
        | omega
        | rfl
        | exact mc0 f hi
        | exact mc0 f hj
        | exact mc1 f hi
        | exact mc1 f hj
        | exact mc2 f hi
        | exact mc3 f hi
        | (refine hR _ ?_; rw [← hc]; assumption)
  obtain ⟨hs, h⟩ := key (fun r => r = (K36i sure p n c f i j).res ⟨⟨[I p, I i, I j], [(n, c)]⟩, [mvs n f]⟩) fun v hv => by subst hv; rfl
  exact ⟨hs, h⟩
theorem K36_ok (sure : Bool) (p : Int) (n c : Nat) (f : Nat → Mv) (h0 : 0 < n) (hok : okH p n f = true) : ConOK Tryz.prog 36 (K36 sure p n c f) where
  calls := (K36i_ok sure p n c f hok h0 h0).calls
  says x hp := by
    obtain ⟨i, j, hi, hj, rfl⟩ := hp
    exact (K36i_ok sure p n c f hok hi hj).says _ rfl
  closed x hp := rfl
  atoms x hp := by obtain ⟨i, j, hi, hj, rfl⟩ := hp; exact mvs_atoms n f
  ro := rfl
  small := Nat.le_of_ble_eq_true rfl
  glob := by rw [nglob]; exact Nat.zero_le _
end Go.Ab

/- FORMS OF STATES AT LOOPS' HEADS: the document's words. -/
set_option maxRecDepth 100000
namespace Go.Ab
open Go Go.RowKit Go.Proofs
def p43z : Loc := .l (.r (.l (.r (.top 43))))
noncomputable def T43z : Tw := ⟨24, mkS 24 [(1, .slice 1 0 .nil), (2, .ptr 2 0 .nil), (5, .hole .nil)], 3, [.list 1 .ro, .list 3 .ro, .cells (.hole (.slice 0 0 .nil)) 24 .var]⟩
noncomputable def R43z : Tw := ⟨24, mkS 24 [(4, .hole .nil)], 3, [.dead, .dead, .dead]⟩
def p16z : Loc := .l (.r (.l (.r (.r (.top 16)))))
noncomputable def T16z : Tw := ⟨26, mkS 26 [(0, .slice 0 0 .nil), (1, .slice 1 0 .nil), (5, .hole .nil)], 2, [.list 1 .ro, .list 3 .ro]⟩
def p48z : Loc := .l (.r (.l (.r (.r (.top 48)))))
noncomputable def T48z : Tw := ⟨86, mkS 86 [(1, .slice 1 0 .nil), (2, .hole .nil), (3, .hole .nil), (4, .ptr 2 0 .nil), (9, .hole .nil), (10, .hole .nil)], 3, [.list 1 .ro, .list 3 .ro, .cells (.hole (.slice 0 0 .nil)) 24 .var]⟩
def p15z : Loc := .l (.r (.l (.r (.r (.r (.r (.top 15)))))))
noncomputable def T15z : Tw := ⟨62, mkS 62 [(1, .hole .nil), (2, .ptr 1 0 .nil), (4, .ptr 2 0 .nil), (7, .ptr 4 0 .nil), (8, .hole .nil)], 5, [.list 1 .ro, .cells (.hole (.slice 0 0 .nil)) 24 .var, .cells (.val (I 0) (.val (I 0) .nil)) 37 .var, .dead, .cells (.hole (.hole .nil)) 37 .var]⟩
/-- Which is the last one of the first so many, as Begin looks for it. -/
def befB (f : Nat → Mv) (a b : Nat) : Bool := decide ((f a).at_ < (f b).at_) || (((f a).at_ == (f b).at_) && decide ((a : Int) < (b : Int)))
def lstF (A : Nat → Mv) (g : Nat → Int) (i : Nat) : Nat → Option Nat
  | 0 => none
  | k + 1 => match lstF A g i k with
    | none => if (g k == g i) && befB A k i then some k else none
    | some l => if ((g k == g i) && befB A k i) && befB A l k then some k else some l
def lstI : Option Nat → Int
  | none => -1
  | some l => l
/-- Counts, both. -/
noncomputable def h15z (p m : Int) (n c : Nat) (f : Nat → Mv) (i : Nat) : Hw := ⟨⟨[I m, I i, I p, I (cntN (undB m f (lgS false f)) i : Nat), I (cntN (undB m f (lgS true f)) i : Nat)], [(n, c)]⟩, [mvs n f], []⟩
/-- When moves begin. -/
noncomputable def begS (p : Int) (n : Nat) (f : Nat → Mv) (g lg : Nat → Int) : Nat → Int := (prc p f g lg (srt (atF f) n) n).o
noncomputable def K48i (sl : Bool) (p : Int) (n c d : Nat) (f : Nat → Mv) (g : Nat → Int) (i : Nat) : Con where
  A := .agg (.hole (.slice 0 0 .nil)) (.slice 1 0 (.hole (.val (.bool sl) .nil)))
  bs := [.list 1 .ro, .list 3 .ro]
  pre x := x = ⟨⟨[I p, I i], [(n, c), (n, d)]⟩, [mvs n f, ints n g]⟩
  res _ := .ret (I (begS p n f g (lgS sl f) i))
noncomputable def h48z (p : Int) (sl : Bool) (i n c d : Nat) (f : Nat → Mv) (g : Nat → Int) (kk : Nat) : Hw := ⟨⟨[I i, .bool sl, I (lstI (lstF f g i kk)), I kk, I p], [(n, d), (n, c)]⟩, [mvs n f, ints n g], []⟩
end Go.Ab

/- the document's words: Apart, Plan, Spans. -/
set_option maxRecDepth 100000
namespace Go.Ab
open Go Go.RowKit Go.Proofs
theorem k44t (p : Int) (n c i j : Nat) (f : Nat → Mv) (R : ARes → Prop)  : (vx.call 44 [hV p n c, I i, I j, .bool true] (retK R) (m1 (mvs n f)) ((7, Hint.con (K36 true p n c f)) :: [(0, .split ((5, Hint.con (K36 true p n c f)) :: [(0, .split ([]) ([]))]) ([]))])) =
(((ConOK Tryz.prog ((36 : Nat)) (K36 true p n c f)) ∧ (Con.pre (K36 true p n c f) ⟨⟨[(.int IntKind.i64 (p)), (.int IntKind.i64 ((↑i : Int))), (.int IntKind.i64 ((↑j : Int)))], [⟨(n), (c)⟩]⟩, [(mvs n f)]⟩) ∧ 
(((!canB true p f i j) = true → ((ConOK Tryz.prog ((36 : Nat)) (K36 true p n c f)) ∧ (Con.pre (K36 true p n c f) ⟨⟨[(.int IntKind.i64 (p)), (.int IntKind.i64 ((↑j : Int))), (.int IntKind.i64 ((↑i : Int)))], [⟨(n), (c)⟩]⟩, [(mvs n f)]⟩) ∧ 
(((!canB true p f j i) = true → R (.ret (.bool true))) ∧
((!canB true p f j i) = false → R (.ret (.bool false)))))) ∧
((!canB true p f i j) = false → R (.ret (.bool false)))))) := by kernel_rfl

theorem k44f (p : Int) (n c i j : Nat) (f : Nat → Mv) (R : ARes → Prop)  : (vx.call 44 [hV p n c, I i, I j, .bool false] (retK R) (m1 (mvs n f)) ((7, Hint.con (K36 false p n c f)) :: [(0, .split ((5, Hint.con (K36 false p n c f)) :: [(0, .split ([]) ([]))]) ([]))])) =
(((ConOK Tryz.prog ((36 : Nat)) (K36 false p n c f)) ∧ (Con.pre (K36 false p n c f) ⟨⟨[(.int IntKind.i64 (p)), (.int IntKind.i64 ((↑i : Int))), (.int IntKind.i64 ((↑j : Int)))], [⟨(n), (c)⟩]⟩, [(mvs n f)]⟩) ∧ 
(((!canB false p f i j) = true → ((ConOK Tryz.prog ((36 : Nat)) (K36 false p n c f)) ∧ (Con.pre (K36 false p n c f) ⟨⟨[(.int IntKind.i64 (p)), (.int IntKind.i64 ((↑j : Int))), (.int IntKind.i64 ((↑i : Int)))], [⟨(n), (c)⟩]⟩, [(mvs n f)]⟩) ∧ 
(((!canB false p f j i) = true → R (.ret (.bool true))) ∧
((!canB false p f j i) = false → R (.ret (.bool false)))))) ∧
((!canB false p f i j) = false → R (.ret (.bool false)))))) := by kernel_rfl

theorem b43z (p : Int) (i n c k d : Nat) (ms ps : List Value) (g : Nat → Int) (R : Nat → AExit → Hw → Prop)  : (vx.code none (.l p43z) (leafW [T43z, R43z] R) (T43z.inst ⟨⟨[I i, I p], [(k, d), (n, c)]⟩, [ms, ps], []⟩) ([(3, .split ((3, .val (.pointer (.some ⟨((1 : Nat)), ((0 : Nat) + i * (1 : Nat)), .none⟩))) :: (0, .val (.int IntKind.i64 (g i))) :: [(4, .split ([(3, .split ([(7, Hint.tm (0 : Nat) [])]) ([(5, Hint.tm (1 : Nat) [])]))]) ([(6, Hint.tm (1 : Nat) [])]))]) ([(1, Hint.tm (0 : Nat) [])]))])) =
((((decide ((↑i : Int) < (↑k : Int))) = true → ((((((0 : Int) ≤ (↑i : Int))) ∧ (((↑i : Int) < (↑k : Int)))) ∧ (((.pointer (.some ⟨((1 : Nat)), ((0 : Nat) + i * (1 : Nat)), .none⟩)) : Value) = (.pointer (.some ⟨((1 : Nat)), ((0 : Nat) + i * (1 : Nat)), .none⟩)))) ∧
(((ps[(0 : Nat) + i * (1 : Nat)]? = some (.int IntKind.i64 (g i)))) ∧
(((decide ((0 : Int) ≤ g i)) = true → (((decide (g i ≤ (6 : Int))) = true → R ((0 : Nat)) .normal ⟨⟨[(.int IntKind.i64 (IntKind.i64.wrap ((↑i : Int) + (1 : Int)))), (.int IntKind.i64 (p))], [⟨(k), (d)⟩, ⟨(n), (c)⟩]⟩, [(ms), (ps)], []⟩) ∧
((decide (g i ≤ (6 : Int))) = false → R ((1 : Nat)) .ret ⟨⟨[(.bool false)], []⟩, [], []⟩))) ∧
((decide ((0 : Int) ≤ g i)) = false → R ((1 : Nat)) .ret ⟨⟨[(.bool false)], []⟩, [], []⟩))))) ∧
((decide ((↑i : Int) < (↑k : Int))) = false → R ((0 : Nat)) (.exit ((0 : Nat))) ⟨⟨[(.int IntKind.i64 ((↑i : Int))), (.int IntKind.i64 (p))], [⟨(k), (d)⟩, ⟨(n), (c)⟩]⟩, [(ms), (ps)], []⟩))) := by kernel_rfl

theorem f43zt (p : Int) (n c k d : Nat) (ms ps : List Value) (R : ARes → Prop)  : (vx.call 43 [hV p n c, slV 1 k d] (retK R) (m2 ms ps) ((4, Hint.loopW T43z (AExit.exit (0 : Nat)) T43z fun _ =>   { hs := { vs := [I (↑k : Int), I p], ns := [(k, d), (n, c)] }, ls := [ms, ps], es := [] }) :: [(5, .split ([]) ([]))])) =
(((ClW ⟨⟨[(.int IntKind.i64 ((0 : Int))), (.int IntKind.i64 (p))], [⟨(k), (d)⟩, ⟨(n), (c)⟩]⟩, [(ms), (ps)], []⟩) ∧ (LoopOW Tryz.prog .none p43z (T43z) ⟨⟨[(.int IntKind.i64 ((0 : Int))), (.int IntKind.i64 (p))], [⟨(k), (d)⟩, ⟨(n), (c)⟩]⟩, [(ms), (ps)], []⟩ (.exit ((0 : Nat))) (T43z) ⟨⟨[(.int IntKind.i64 ((↑k : Int))), (.int IntKind.i64 (p))], [⟨(k), (d)⟩, ⟨(n), (c)⟩]⟩, [(ms), (ps)], []⟩) ∧ 
((((↑k : Int) == (↑n : Int)) = true → R (.ret (.bool true))) ∧
(((↑k : Int) == (↑n : Int)) = false → R (.ret (.bool false)))))) := by kernel_rfl

theorem f43zf (p : Int) (n c k d : Nat) (ms ps : List Value) (R : ARes → Prop)  : (vx.call 43 [hV p n c, slV 1 k d] (retK R) (m2 ms ps) ((4, Hint.loopW T43z AExit.ret R43z fun _ => { hs := { vs := [Value.bool false], ns := [] }, ls := [], es := [] }) :: [])) =
(((ClW ⟨⟨[(.int IntKind.i64 ((0 : Int))), (.int IntKind.i64 (p))], [⟨(k), (d)⟩, ⟨(n), (c)⟩]⟩, [(ms), (ps)], []⟩) ∧ (LoopOW Tryz.prog .none p43z (T43z) ⟨⟨[(.int IntKind.i64 ((0 : Int))), (.int IntKind.i64 (p))], [⟨(k), (d)⟩, ⟨(n), (c)⟩]⟩, [(ms), (ps)], []⟩ .ret (R43z) ⟨⟨[(.bool false)], []⟩, [], []⟩) ∧ 
R (.ret (.bool false)))) := by kernel_rfl

theorem b16z (n i : Nat) (a b : Nat → Int) (xs ys : List Value) (R : Nat → AExit → Hw → Prop)  : (vx.code none (.l p16z) (leafW [T16z] R) (T16z.inst ⟨⟨[I i], [(n, n), (n, n)]⟩, [xs, ys], []⟩) ([(3, .split ((3, .val (.pointer (.some ⟨((0 : Nat)), ((0 : Nat) + i * (2 : Nat)), .none⟩))) :: (0, .val (.agg ⟨[(.int IntKind.i64 (a i)), (.int IntKind.i64 (b i))]⟩)) :: (2, .val (.pointer (.some ⟨((1 : Nat)), ((0 : Nat) + i * (2 : Nat)), .none⟩))) :: (0, .val (.agg ⟨[(.int IntKind.i64 (a i)), (.int IntKind.i64 (b i))]⟩)) :: [(0, .split ([(2, Hint.tm (0 : Nat) [])]) ([(4, Hint.tm (0 : Nat) [])]))]) ([(1, Hint.tm (0 : Nat) [])]))])) =
((((decide ((↑i : Int) < (↑n : Int))) = true → ((((((0 : Int) ≤ (↑i : Int))) ∧ (((↑i : Int) < (↑n : Int)))) ∧ (((.pointer (.some ⟨((0 : Nat)), ((0 : Nat) + i * (2 : Nat)), .none⟩)) : Value) = (.pointer (.some ⟨((0 : Nat)), ((0 : Nat) + i * (2 : Nat)), .none⟩)))) ∧
(((((0 : Nat) + i * (2 : Nat) + (2 : Nat) ≤ xs.length)) ∧ (((.agg ⟨[(.int IntKind.i64 (a i)), (.int IntKind.i64 (b i))]⟩) : Value) = (.agg ⟨(List.take ((2 : Nat)) (List.drop ((0 : Nat) + i * (2 : Nat)) (xs)))⟩))) ∧
((((((0 : Int) ≤ (↑i : Int))) ∧ (((↑i : Int) < (↑n : Int)))) ∧ (((.pointer (.some ⟨((1 : Nat)), ((0 : Nat) + i * (2 : Nat)), .none⟩)) : Value) = (.pointer (.some ⟨((1 : Nat)), ((0 : Nat) + i * (2 : Nat)), .none⟩)))) ∧
(((((0 : Nat) + i * (2 : Nat) + (2 : Nat) ≤ ys.length)) ∧ (((.agg ⟨[(.int IntKind.i64 (a i)), (.int IntKind.i64 (b i))]⟩) : Value) = (.agg ⟨(List.take ((2 : Nat)) (List.drop ((0 : Nat) + i * (2 : Nat)) (ys)))⟩))) ∧
(((!(a i == a i && (fun c => b i == b i && c) true)) = true → R ((0 : Nat)) .ret ⟨⟨[(.int IntKind.i64 ((↑i : Int)))], [⟨(n), (n)⟩, ⟨(n), (n)⟩]⟩, [(xs), (ys)], []⟩) ∧
((!(a i == a i && (fun c => b i == b i && c) true)) = false → R ((0 : Nat)) .normal ⟨⟨[(.int IntKind.i64 (IntKind.i64.wrap ((↑i : Int) + (1 : Int))))], [⟨(n), (n)⟩, ⟨(n), (n)⟩]⟩, [(xs), (ys)], []⟩))))))) ∧
((decide ((↑i : Int) < (↑n : Int))) = false → R ((0 : Nat)) (.exit ((0 : Nat))) ⟨⟨[(.int IntKind.i64 ((↑i : Int)))], [⟨(n), (n)⟩, ⟨(n), (n)⟩]⟩, [(xs), (ys)], []⟩))) := by kernel_rfl

theorem f16z (n : Nat) (xs ys : List Value) (R : ARes → Prop)  : (vx.call 16 [slV 0 n n, slV 1 n n] (retK R) (m2 xs ys) ((6, .val (.bool false)) :: (2, Hint.loopW T16z (AExit.exit (0 : Nat)) T16z fun _ =>   { hs := { vs := [I (↑n : Int)], ns := [(n, n), (n, n)] }, ls := [xs, ys], es := [] }) :: [])) =
(((((some (.bool ((↑n : Int) != (↑n : Int))) : Option Value) = some (.bool false))) ∧
((ClW ⟨⟨[(.int IntKind.i64 ((0 : Int)))], [⟨(n), (n)⟩, ⟨(n), (n)⟩]⟩, [(xs), (ys)], []⟩) ∧ (LoopOW Tryz.prog .none p16z (T16z) ⟨⟨[(.int IntKind.i64 ((0 : Int)))], [⟨(n), (n)⟩, ⟨(n), (n)⟩]⟩, [(xs), (ys)], []⟩ (.exit ((0 : Nat))) (T16z) ⟨⟨[(.int IntKind.i64 ((↑n : Int)))], [⟨(n), (n)⟩, ⟨(n), (n)⟩]⟩, [(xs), (ys)], []⟩) ∧ 
R (.ret (.bool true))))) := by kernel_rfl

def aptB (sure : Bool) (p : Int) (f : Nat → Mv) (i j : Nat) : Bool := !canB sure p f i j && !canB sure p f j i
noncomputable def K44i (sure : Bool) (p : Int) (n c : Nat) (f : Nat → Mv) (i j : Nat) : Con where
  A := .agg (.hole (.slice 0 0 .nil)) (.hole (.hole (.val (.bool sure) .nil)))
  bs := [.list 1 .ro]
  pre x := x = ⟨⟨[I p, I (i : Nat), I (j : Nat)], [(n, c)]⟩, [mvs n f]⟩
  res _ := .ret (.bool (aptB sure p f i j))
theorem K44i_ok (sure : Bool) (p : Int) (n c : Nat) (f : Nat → Mv) (hok : okH p n f = true) {i j : Nat} (hi : i < n) (hj : j < n) : ConOK Tryz.prog 44 (K44i sure p n c f i j) := by
  refine con_of vx_sound ⟨⟨[I p, I i, I j], [(n, c)]⟩, [mvs n f]⟩ (fun x hx => ?_) rfl (fun _ _ => rfl) (fun x hx => by cases hx; exact mvs_atoms n f) rfl (Nat.le_of_ble_eq_true rfl) (by rw [nglob]; exact Nat.zero_le _)
  cases hx
  have key : ∀ R : ARes → Prop, (∀ v, aptB sure p f i j = v → R (.ret (.bool v))) → ∃ hs, vx.call 44 [hV p n c, I i, I j, .bool sure] (retK R) (m1 (mvs n f)) hs := by
    intro R hR
    have hk := K36_ok sure p n c f (by omega) hok
    have h1 : (K36 sure p n c f).pre ⟨⟨[I p, I i, I j], [(n, c)]⟩, [mvs n f]⟩ := ⟨i, j, hi, hj, rfl⟩
    have h2 : (K36 sure p n c f).pre ⟨⟨[I p, I j, I i], [(n, c)]⟩, [mvs n f]⟩ := ⟨j, i, hj, hi, rfl⟩
    cases sure with
    | true =>
      refine ⟨_, (k44t p n c i j f R).mpr ⟨hk, h1, ?_, ?_⟩⟩
      · intro a
        refine ⟨hk, h2, ?_, ?_⟩ <;> (intro b; refine hR _ ?_; simp only [aptB, a, b]; rfl)
      · intro a; refine hR _ ?_; simp only [aptB, a]; rfl
    | false =>
      refine ⟨_, (k44f p n c i j f R).mpr ⟨hk, h1, ?_, ?_⟩⟩
      · intro a
        refine ⟨hk, h2, ?_, ?_⟩ <;> (intro b; refine hR _ ?_; simp only [aptB, a, b]; rfl)
      · intro a; refine hR _ ?_; simp only [aptB, a]; rfl
  obtain ⟨hs, h⟩ := key (fun r => r = (K44i sure p n c f i j).res ⟨⟨[I p, I i, I j], [(n, c)]⟩, [mvs n f]⟩) fun v hv => by subst hv; rfl
  exact ⟨hs, h⟩
noncomputable def K44 (sure : Bool) (p : Int) (n c : Nat) (f : Nat → Mv) : Con where
  A := .agg (.hole (.slice 0 0 .nil)) (.hole (.hole (.val (.bool sure) .nil)))
  bs := [.list 1 .ro]
  pre x := ∃ i j, i < n ∧ j < n ∧ x = ⟨⟨[I p, I (i : Nat), I (j : Nat)], [(n, c)]⟩, [mvs n f]⟩
  res x := .ret (.bool (aptB sure p f (natAt x 1) (natAt x 2)))
theorem K44_ok (sure : Bool) (p : Int) (n c : Nat) (f : Nat → Mv) (h0 : 0 < n) (hok : okH p n f = true) : ConOK Tryz.prog 44 (K44 sure p n c f) where
  calls := (K44i_ok sure p n c f hok h0 h0).calls
  says x hp := by
    obtain ⟨i, j, hi, hj, rfl⟩ := hp
    exact (K44i_ok sure p n c f hok hi hj).says _ rfl
  closed x hp := rfl
  atoms x hp := by obtain ⟨i, j, hi, hj, rfl⟩ := hp; exact mvs_atoms n f
  ro := rfl
  small := Nat.le_of_ble_eq_true rfl
  glob := by rw [nglob]; exact Nat.zero_le _
/-! ### Plan -/
theorem runX_all {b : Nat → Bool} {o z : AExit × Nat × Hw} : ∀ (r i : Nat), runX (fun i => if b i then none else some o) z r i = if allFrom b r i then z else o := by
  intro r
  induction r with
  | zero => intro i; rfl
  | succ r ih =>
    intro i
    simp only [runX, allFrom]
    by_cases h : b i = true
    · simp only [if_pos h, h, Bool.true_and]; exact ih (i + 1)
    · simp only [if_neg h]
      rw [Bool.not_eq_true] at h
      simp only [h, Bool.false_and, Bool.false_eq_true, if_false]
theorem two_at {n k : Nat} {f : Nat → Mv} {g : Nat → Int} : ∀ cs ∈ [mvs n f, ints k g], ∀ v ∈ cs, atomic v = true := fun cs hcs => by
  simp only [List.mem_cons, List.not_mem_nil, or_false] at hcs
  rcases hcs with rfl | rfl
  · exact mvs_atom n f
  · exact ints_atom k g
noncomputable def h43z (p : Int) (n c k d : Nat) (f : Nat → Mv) (g : Nat → Int) (i : Nat) : Hw := ⟨⟨[I i, I p], [(k, d), (n, c)]⟩, [mvs n f, ints k g], []⟩
noncomputable def o43z : AExit × Nat × Hw := (.ret, 1, ⟨⟨[.bool false], []⟩, [], []⟩)
theorem loop43z (p : Int) (n c k d : Nat) (f : Nat → Mv) (g : Nat → Int) (hk : k ≤ 1000000) :
    LoopOW Tryz.prog none p43z T43z (h43z p n c k d f g 0) (if allFrom (fun i => okN (g i)) k 0 then ((.exit 0 : AExit), 0, h43z p n c k d f g k) else o43z).1 (if allFrom (fun i => okN (g i)) k 0 then T43z else R43z) (if allFrom (fun i => okN (g i)) k 0 then ((.exit 0 : AExit), 0, h43z p n c k d f g k) else o43z).2.2 := by
  have hr := runX_all (b := fun i => okN (g i)) (o := o43z) (z := (.exit 0, 0, h43z p n c k d f g k)) k 0
  have := loop_untilW (P := Tryz.prog) (ro := none) (p := p43z) (Ts := [T43z, R43z]) (k := 3) (n := k) (st := fun i => (0, h43z p n c k d f g i)) (e := .exit 0) (ex := fun i => if okN (g i) then none else some o43z) rfl vx_sound (by intro T hT; simp only [List.mem_cons, List.not_mem_nil, or_false] at hT; rcases hT with rfl | rfl <;> rfl) (by rw [nglob]; omega) ⟨by simp, trivial⟩ (fun i hi => clL two_at)
    (fun i o hi ho => by
      by_cases h : okN (g i) = true
      · rw [if_pos h] at ho; cases ho
      · rw [if_neg h] at ho; cases ho; exact ⟨by simp [o43z], trivial, clL (fun cs h => by cases h)⟩)
    (fun i hi R h1 h2 => ?_) (fun R hR => ⟨T43z, _, rfl, (b43z p k n c k d (mvs n f) (ints k g) g R).mpr ⟨fun h => absurd (of_decide_eq_true h) (by omega), fun _ => hR⟩⟩) (s := 0) (Nat.zero_le k) (T0 := T43z) (T1 := if allFrom (fun i => okN (g i)) k 0 then T43z else R43z) rfl (Nat.le_of_ble_eq_true rfl) (by decide) (by
      rw [Nat.sub_zero, hr]; split <;> rfl)
  · rw [Nat.sub_zero, hr] at this
    exact this
  · refine ⟨T43z, _, rfl, (b43z p i n c k d (mvs n f) (ints k g) g R).mpr ⟨fun _ => ⟨⟨⟨by omega, by omega⟩, rfl⟩, ints_get g hi, ?_⟩, fun h => absurd hi (by simpa using h)⟩⟩
    have hw : IntKind.i64.wrap ((i : Int) + 1) = ((i + 1 : Nat) : Int) := wrapI (by omega) (by omega)
    rw [hw]
    have hN : okN (g i) = (decide (0 ≤ g i) && decide (g i ≤ 6)) := rfl
    refine ⟨fun a => ⟨fun b => h1 (by rw [hN, a, b]; rfl), fun b => h2 o43z (by rw [hN, a, b]; rfl)⟩, fun a => h2 o43z (by rw [hN, a]; rfl)⟩
theorem K43_ok (p : Int) (n c : Nat) (f : Nat → Mv) (k d : Nat) (g : Nat → Int) (hk : k ≤ 1000000) : ConOK Tryz.prog 43 (C39 p n c f k d g) := by
  refine con_of vx_sound _ (fun x hx => ?_) rfl (fun _ _ => rfl) (fun x hx => by cases hx; exact two_at) rfl (Nat.le_of_ble_eq_true rfl) (by rw [nglob]; exact Nat.zero_le _)
  cases hx
  have hl := loop43z p n c k d f g hk
  have hres : ∀ b, okP n k g = b → (ARes.ret (.bool b) = ((C39 p n c f k d g).res ⟨⟨[I p], [(n, c), (k, d)]⟩, [mvs n f, ints k g]⟩)) := fun b hb => by subst hb; rfl
  cases hb : allFrom (fun i => okN (g i)) k 0 with
  | true =>
    simp only [hb, if_true] at hl
    refine ⟨_, (f43zt p n c k d (mvs n f) (ints k g) _).mpr ⟨clL two_at, hl, fun h => hres _ ?_, fun h => hres _ ?_⟩⟩
    · simp only [okP, hb, Bool.and_true]
      show (!(!((k : Int) == (n : Int)))) = true
      rw [h]; rfl
    · simp only [okP, hb, Bool.and_true]
      show (!(!((k : Int) == (n : Int)))) = false
      rw [h]; rfl
  | false =>
    simp only [hb, Bool.false_eq_true, if_false] at hl
    exact ⟨_, (f43zf p n c k d (mvs n f) (ints k g) _).mpr ⟨clL two_at, hl, hres _ (by simp only [okP, hb, Bool.and_false])⟩⟩
/-! ### Spans -/
noncomputable def h16z (n : Nat) (a b : Nat → Int) (i : Nat) : Hw := ⟨⟨[I i], [(n, n), (n, n)]⟩, [spansC n a b, spansC n a b], []⟩
theorem sp_at {n : Nat} {a b : Nat → Int} : ∀ cs ∈ [spansC n a b, spansC n a b], ∀ v ∈ cs, atomic v = true := fun cs hcs => by
  simp only [List.mem_cons, List.not_mem_nil, or_false, or_self] at hcs
  subst hcs; exact spansC_atoms n a b
theorem spans_part {n i : Nat} (a b : Nat → Int) (h : i < n) : ((spansC n a b).drop (0 + i * 2)).take 2 = [I (a i), I (b i)] := by
  rw [Nat.zero_add]; exact flatC_part (k := 2) (fun i _ => rfl) h
theorem loop16z (n : Nat) (a b : Nat → Int) (hn : n ≤ 1000000) : LoopOW Tryz.prog none p16z T16z (h16z n a b 0) (.exit 0) T16z (h16z n a b n) := by
  refine loop_forW (Ts := [T16z]) (k := 2) (n := n) (st := fun i => (0, h16z n a b i)) (e := .exit 0) rfl vx_sound (by intro T hT; simp only [List.mem_singleton] at hT; subst hT; rfl) (by rw [nglob]; omega) ⟨by simp, trivial⟩ (fun i hi => clL sp_at)
    (fun i hi R hR => ?_) (fun R hR => ?_) (T0 := T16z) (T1 := T16z) rfl (Nat.le_of_ble_eq_true rfl) (by decide) rfl
  · have hw : IntKind.i64.wrap ((i : Int) + 1) = ((i + 1 : Nat) : Int) := wrapI (by omega) (by omega)
    have hl := spansC_len n a b
    refine ⟨T16z, _, rfl, (b16z n i a b (spansC n a b) (spansC n a b) R).mpr ⟨fun _ => ?_, fun h => absurd hi (by simpa using h)⟩⟩
    rw [hw]
    refine ⟨⟨⟨by omega, by omega⟩, rfl⟩, ⟨by omega, by rw [spans_part a b hi]; rfl⟩, ⟨⟨by omega, by omega⟩, rfl⟩, ⟨by omega, by rw [spans_part a b hi]; rfl⟩, fun h => ?_, fun _ => hR⟩
    simp at h
  · exact ⟨T16z, _, rfl, (b16z n n a b (spansC n a b) (spansC n a b) R).mpr ⟨fun h => absurd (of_decide_eq_true h) (by omega), fun _ => hR⟩⟩
/-- Spans, of twice the same. -/
noncomputable def K16s (n : Nat) (cs : List Value) : Con where
  A := .slice 0 0 (.slice 1 0 .nil)
  bs := [.list 1 .ro, .list 3 .ro]
  pre x := x = ⟨⟨[], [(n, n), (n, n)]⟩, [cs, cs]⟩
  res _ := .ret (.bool true)
theorem K16s_ok (n : Nat) (a b : Nat → Int) (hn : n ≤ 1000000) : ConOK Tryz.prog 16 (K16s n (spansC n a b)) := by
  refine con_of vx_sound _ (fun x hx => ?_) rfl (fun _ _ => rfl) (fun x hx => by cases hx; exact sp_at) rfl (Nat.le_of_ble_eq_true rfl) (by rw [nglob]; exact Nat.zero_le _)
  cases hx
  exact ⟨_, (f16z n (spansC n a b) (spansC n a b) _).mpr ⟨by simp, clL sp_at, loop16z n a b hn, rfl⟩⟩
end Go.Ab

