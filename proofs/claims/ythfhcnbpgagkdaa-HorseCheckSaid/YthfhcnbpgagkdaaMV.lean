/- what the law calls: examples, contracts by what they return. -/
import Derived.Test.YthfhcnbpgagkdaaMT
import Derived.Test.YthfhcnbpgagkdaaMU
set_option maxRecDepth 100000
namespace Go.Ab
open Go Go.RowKit Go.Proofs
noncomputable def C12 : Con where
  A := .nil
  bs := []
  pre x := x = ⟨⟨[], []⟩, []⟩
  res _ := .ret (.bool true)
theorem C12_ok : ConOK Try.prog 12 C12 where
  calls := aw_ok.calls
  says x hp := by cases hp; exact aw_ok.says.mono fun r H hr => hr
  closed _ _ := rfl
  atoms x hp := by cases hp; intro cs hcs; cases hcs
  ro := rfl
  small := Nat.zero_le _
  glob := by rw [nglob]; exact Nat.zero_le _
/-- The number that stands in a hole. -/
def natAt (x : Hx) (m : Nat) : Nat := match x.hs.vs[m]? with | some (.int _ v) => v.toNat | _ => 0
/-- Follows, whichever moves are meant. -/
noncomputable def C18x (p : Int) (n c : Nat) (f : Nat → Mv) : Con where
  A := .agg (.hole (.slice 0 0 .nil)) (.hole (.hole .nil))
  bs := [.list 1 .ro]
  pre x := ∃ i j, i < n ∧ j < n ∧ x = ⟨⟨[I p, I (i : Nat), I (j : Nat)], [(n, c)]⟩, [mvs n f]⟩
  res x := .ret (.tuple ⟨[I (folV p n f (natAt x 1) (natAt x 2)), I 0]⟩)
theorem C18x_ok (p : Int) (n c : Nat) (f : Nat → Mv) (h0 : 0 < n) (hok : okH p n f = true) (hn : n ≤ 7) : ConOK Try.prog 18 (C18x p n c f) where
  calls := (C18_ok p 0 0 n c f hok h0 h0 hn).calls
  says x hp := by
    obtain ⟨i, j, hi, hj, rfl⟩ := hp
    exact (C18_ok p i j n c f hok hi hj hn).says _ rfl
  closed x hp := rfl
  atoms x hp := by obtain ⟨i, j, hi, hj, rfl⟩ := hp; exact mvs_atoms n f
  ro := rfl
  small := Nat.le_of_ble_eq_true rfl
  glob := by rw [nglob]; exact Nat.zero_le _
def p6o : Loc := .l (.r (.l (.r (.r (.r (.r (.r (.r (.top 6)))))))))
def p6i : Loc := .l (.r (.r (.l (.l (.r (.r (.l (.l (.r (.l (.r (.r (.r (.r (.r (.r (.top 6)))))))))))))))))
noncomputable def T6o : Tm := ⟨123, mkS 123 [(3, .ptr 2 0 .nil), (6, .hole .nil), (7, .slice 5 0 .nil), (8, .hole .nil), (9, .hole .nil), (10, .hole .nil), (11, .hole .nil), (35, .hole .nil), (36, .hole .nil)], 6, [.list 1 .ro, .dead, .cells (.hole (.slice 0 0 .nil)) 24 .var, .dead, .dead, .list 3 .row]⟩
noncomputable def T6i : Tm := ⟨123, mkS 123 [(3, .ptr 2 0 .nil), (6, .hole .nil), (7, .slice 5 0 .nil), (8, .hole .nil), (9, .hole .nil), (10, .hole .nil), (11, .hole .nil), (12, .hole .nil), (13, .hole .nil), (35, .hole .nil), (36, .hole .nil)], 6, [.list 1 .ro, .dead, .cells (.hole (.slice 0 0 .nil)) 24 .var, .dead, .dead, .list 3 .row]⟩
end Go.Ab

/- which sets tell what: bits, and what can follow. -/
set_option maxRecDepth 100000
namespace Go.Ab
open Go Go.RowKit Go.Proofs
theorem wrapsI (n : Int) (h0 : 0 ≤ n) (h1 : n < 2 ^ 62) : IntKind.i64.wrap n = n := wrapI (by omega) (by omega)
theorem or_nat (a b : Nat) (ha : a < 2 ^ 62) (hb : b < 2 ^ 62) : bits .or .i64 (a : Int) (b : Int) = ((a ||| b : Nat) : Int) := (bits_nat .i64 62 (by decide) wrapsI a b ha hb).2
theorem and_nat (a b : Nat) (ha : a < 2 ^ 62) (hb : b < 2 ^ 62) : bits .and .i64 (a : Int) (b : Int) = ((a &&& b : Nat) : Int) := (bits_nat .i64 62 (by decide) wrapsI a b ha hb).1
/-- The set, as a number. -/
def maskN (b : Nat → Bool) : Nat → Nat
  | 0 => 0
  | j + 1 => if b j then maskN b j ||| 2 ^ j else maskN b j
theorem maskN_lt (b : Nat → Bool) (j : Nat) : maskN b j < 2 ^ j := by
  induction j with
  | zero => simp [maskN]
  | succ j ih =>
    have h2 : 2 ^ (j + 1) = 2 ^ j + 2 ^ j := by rw [Nat.pow_succ]; omega
    simp only [maskN]
    split
    · exact Nat.or_lt_two_pow (by omega) (by omega)
    · omega
theorem maskN_bit (b : Nat → Bool) (j k : Nat) : (maskN b j).testBit k = (decide (k < j) && b k) := by
  induction j with
  | zero => simp [maskN]
  | succ j ih =>
    simp only [maskN]
    by_cases hk : k = j
    · subst hk
      cases hb : b k with
      | true => simp [hb, Nat.testBit_or, Nat.testBit_two_pow_self]
      | false => simp [hb, ih]
    · have hne : j ≠ k := fun h => hk h.symm
      have e : decide (k < j + 1) = decide (k < j) := by
        by_cases h : k < j
        · simp [h]; omega
        · simp [h]; omega
      rw [e]
      split
      · rw [Nat.testBit_or, ih, Nat.testBit_two_pow_of_ne hne, Bool.or_false]
      · exact ih
theorem one_nat (j : Nat) (h : j ≤ 61) : oneI j = ((2 ^ j : Nat) : Int) := by
  have h1 : 2 ^ j ≤ 2 ^ 61 := Nat.pow_le_pow_right (by omega) h
  have h2 : (2 : Nat) ^ 61 < 2 ^ 62 := by decide
  have e : (1 : Int) * 2 ^ j = ((2 ^ j : Nat) : Int) := by simp
  rw [oneI, e]
  have h3 : (2 : Nat) ^ 61 = 2305843009213693952 := by decide
  rw [h3] at h1
  generalize 2 ^ j = z at h1
  exact wrapI (by omega) (by omega)
theorem rowI_mask (b : Nat → Bool) (j : Nat) (h : j ≤ 61) : rowI b 0 j = (maskN b j : Int) := by
  induction j with
  | zero => rfl
  | succ j ih =>
    have hm := maskN_lt b j
    have hp : 2 ^ j ≤ 2 ^ 61 := Nat.pow_le_pow_right (by omega) (by omega)
    have h2 : (2 : Nat) ^ 61 < 2 ^ 62 := by decide
    simp only [rowI, maskN]
    split
    · rw [ih (by omega), one_nat j (by omega), joinI]
      have e0 : bits .or .i64 0 (maskN b j : Int) = (maskN b j : Int) := by
        have := or_nat 0 (maskN b j) (by decide) (by omega)
        simpa using this
      rw [e0, or_nat _ _ (by omega) (by omega)]
    · exact ih (by omega)
theorem hasI_mask (m j : Nat) (hm : m < 2 ^ 62) : hasI (m : Int) j = m.testBit j := by
  have e : (m : Int) / 2 ^ j = ((m / 2 ^ j : Nat) : Int) := by simp
  have hd : m / 2 ^ j < 2 ^ 62 := Nat.lt_of_le_of_lt (Nat.div_le_self _ _) hm
  simp only [hasI, e]
  have h1 := and_nat (m / 2 ^ j) 1 hd (by decide)
  rw [show ((1 : Nat) : Int) = 1 from rfl] at h1
  rw [h1, Nat.testBit_eq_decide_div_mod_eq, Nat.and_one_is_mod]
  have hmod : m / 2 ^ j % 2 = 0 ∨ m / 2 ^ j % 2 = 1 := by omega
  rcases hmod with h | h <;> simp [h]
theorem hasI_row (b : Nat → Bool) {n j : Nat} (hn : n ≤ 7) (hj : j < n) : hasI (rowI b 0 n) j = b j := by
  have h1 := maskN_lt b n
  have h2 : 2 ^ n ≤ 2 ^ 7 := Nat.pow_le_pow_right (by omega) hn
  have h3 : (2 : Nat) ^ 7 < 2 ^ 62 := by decide
  rw [rowI_mask b n (by omega), hasI_mask _ _ (by omega), maskN_bit]
  simp [hj]
theorem hasI_ord (sure : Bool) (p : Int) {n : Nat} (f : Nat → Mv) {i j : Nat} (hn : n ≤ 7) (hi : i < n) (hj : j < n) : hasI (ordF sure p n f n i) j = canB sure p f i j := by
  simp only [ordF, if_pos hi]
  exact hasI_row _ hn hj
end Go.Ab

/- what Follows tells, in numbers. -/
set_option maxRecDepth 100000
namespace Go.Ab
open Go Go.RowKit Go.Proofs
theorem allFrom_iff (b : Nat → Bool) : ∀ (r m : Nat), allFrom b r m = true → ∀ i, m ≤ i → i < m + r → b i = true := by
  intro r
  induction r with
  | zero => intro m _ i h1 h2; omega
  | succ r ih =>
    intro m h i h1 h2
    simp only [allFrom, Bool.and_eq_true] at h
    by_cases e : i = m
    · subst e; exact h.1
    · exact ih (m + 1) h.2 i (by omega) (by omega)
structure MvOK (m : Mv) : Prop where
  at0 : 0 ≤ m.at_
  at1 : m.at_ ≤ 200
  pl0 : 0 ≤ m.place
  pl1 : m.place ≤ 30
  lo1 : 1 ≤ m.lo
  lohi : m.lo ≤ m.hi
  hi1 : m.hi ≤ 20
theorem okMv_iff {m : Mv} (h : okMv m = true) : MvOK m := by
  simp only [okMv, Bool.and_eq_true, decide_eq_true_eq, Bool.not_eq_true', decide_eq_false_iff_not] at h
  obtain ⟨h1, h2, h3, h4, h5, h6, h7⟩ := h
  exact ⟨h1, h2, h3, h4, by omega, by omega, by omega⟩
structure HOK (p : Int) (n : Nat) (f : Nat → Mv) : Prop where
  p0 : 0 ≤ p
  p3 : p ≤ 3
  n7 : n ≤ 7
  mv : ∀ i, i < n → MvOK (f i)
theorem okH_iff {p : Int} {n : Nat} {f : Nat → Mv} (h : okH p n f = true) : HOK p n f := by
  simp only [okH, Bool.and_eq_true, decide_eq_true_eq, Bool.not_eq_true', decide_eq_false_iff_not] at h
  obtain ⟨h1, h2, h3, h4⟩ := h
  exact ⟨h1, h2, by omega, fun i hi => okMv_iff (allFrom_iff _ n 0 h4 i (by omega) (by omega))⟩
def distI (a b : Mv) : Int := if b.place - a.place > a.place - b.place then b.place - a.place else a.place - b.place
theorem distI_bounds {a b : Mv} (ha : MvOK a) (hb : MvOK b) : 0 ≤ distI a b ∧ distI a b ≤ 30 := by
  have := ha.pl0; have := ha.pl1; have := hb.pl0; have := hb.pl1
  simp only [distI]; split <;> omega
theorem distI_comm (a b : Mv) : distI a b = distI b a := by simp only [distI]; split <;> split <;> omega
theorem mul_bounds {p x : Int} (h0 : 0 ≤ p) (h3 : p ≤ 3) (hx : 0 ≤ x) (hx3 : x ≤ 30) : 0 ≤ p * x ∧ p * x ≤ 90 := by
  have : p = 0 ∨ p = 1 ∨ p = 2 ∨ p = 3 := by omega
  rcases this with rfl | rfl | rfl | rfl <;> omega
theorem canB_eq {p : Int} {n : Nat} {f : Nat → Mv} (h : HOK p n f) (sure : Bool) {i j : Nat} (hi : i < n) (hj : j < n) : canB sure p f i j = decide ((f i).at_ + cond sure (f i).hi (f i).lo + p * distI (f i) (f j) ≤ (f j).at_) := by
  have ha := h.mv i hi
  have hb := h.mv j hj
  have a1 := ha.at0; have a2 := ha.at1; have a3 := ha.pl0; have a4 := ha.pl1; have a5 := ha.lo1; have a6 := ha.lohi; have a7 := ha.hi1
  have b1 := hb.at0; have b2 := hb.at1; have b3 := hb.pl0; have b4 := hb.pl1
  have hL : 1 ≤ cond sure (f i).hi (f i).lo ∧ cond sure (f i).hi (f i).lo ≤ 20 := by cases sure <;> simp only [cond_true, cond_false] <;> omega
  have e1 : IntKind.i64.wrap ((f j).place - (f i).place) = (f j).place - (f i).place := wrapI (by omega) (by omega)
  have e2 : IntKind.i64.wrap ((f i).place - (f j).place) = (f i).place - (f j).place := wrapI (by omega) (by omega)
  have hd := distI_bounds ha hb
  have hm := mul_bounds h.p0 h.p3 hd.1 hd.2
  simp only [canB, canW, doneW, e1, e2]
  rw [show (if (f j).place - (f i).place > (f i).place - (f j).place then (f j).place - (f i).place else (f i).place - (f j).place) = distI (f i) (f j) from rfl]
  generalize cond sure (f i).hi (f i).lo = L at hL
  generalize p * distI (f i) (f j) = w at hm
  rw [wrapI (x := w) (by omega) (by omega), wrapI (x := (f i).at_ + L) (by omega) (by omega), wrapI (x := (f i).at_ + L + w) (by omega) (by omega)]
theorem both_can {p : Int} {n : Nat} {f : Nat → Mv} (h : HOK p n f) (s t : Bool) {i j : Nat} (hi : i < n) (hj : j < n) : canB s p f i j = true → canB t p f j i = false := by
  intro h1
  rw [canB_eq h t hj hi]
  rw [canB_eq h s hi hj] at h1
  have h1 := of_decide_eq_true h1
  have ha := h.mv i hi
  have hb := h.mv j hj
  have a5 := ha.lo1; have a6 := ha.lohi; have b5 := hb.lo1; have b6 := hb.lohi
  have hm := mul_bounds h.p0 h.p3 (distI_bounds ha hb).1 (distI_bounds ha hb).2
  rw [distI_comm (f j) (f i)]
  generalize p * distI (f i) (f j) = w at hm h1
  have hL : 1 ≤ cond s (f i).hi (f i).lo := by cases s <;> simp only [cond_true, cond_false] <;> omega
  have hL2 : 1 ≤ cond t (f j).hi (f j).lo := by cases t <;> simp only [cond_true, cond_false] <;> omega
  exact decide_eq_false (by omega)
theorem sure_some {p : Int} {n : Nat} {f : Nat → Mv} (h : HOK p n f) {i j : Nat} (hi : i < n) (hj : j < n) : canB true p f i j = true → canB false p f i j = true := by
  intro h1
  rw [canB_eq h _ hi hj] at h1 ⊢
  have h1 := of_decide_eq_true h1
  have a6 := (h.mv i hi).lohi
  simp only [cond_true, cond_false] at h1 ⊢
  exact decide_eq_true (by omega)
theorem folV_eq {p : Int} {n : Nat} {f : Nat → Mv} (h : HOK p n f) {i j : Nat} (hi : i < n) (hj : j < n) : folV p n f i j = if canB true p f i j then 2 else if canB false p f i j then 1 else 0 := by
  simp only [folV, hasI_ord true p f h.n7 hi hj, hasI_ord false p f h.n7 hi hj]
theorem folV_pos {p : Int} {n : Nat} {f : Nat → Mv} (h : HOK p n f) {i j : Nat} (hi : i < n) (hj : j < n) : decide (folV p n f i j > 0) = true → decide (folV p n f j i > 0) = true → False := by
  intro h1 h2
  have h1 := of_decide_eq_true h1
  have h2 := of_decide_eq_true h2
  rw [folV_eq h hi hj] at h1
  rw [folV_eq h hj hi] at h2
  have c1 := both_can h true true hi hj
  have c2 := both_can h true false hi hj
  have c3 := both_can h false true hi hj
  have c4 := both_can h false false hi hj
  revert h1 h2 c1 c2 c3 c4
  cases canB true p f i j <;> cases canB false p f i j <;> cases canB true p f j i <;> cases canB false p f j i <;> simp
theorem folV_can {p : Int} {n : Nat} {f : Nat → Mv} (h : HOK p n f) (sure : Bool) {i j : Nat} (hi : i < n) (hj : j < n) : decide (folV p n f i j < cond sure 2 1) = !canB sure p f i j := by
  rw [folV_eq h hi hj]
  have m := sure_some h hi hj
  revert m
  cases sure <;> cases canB true p f i j <;> cases canB false p f i j <;> simp
theorem badB_eq {p : Int} {n : Nat} {f : Nat → Mv} (h : HOK p n f) (sure : Bool) (g : Nat → Int) {i j : Nat} (hi : i < n) (hj : j < n) : badB g (ordF sure p n f n) i j = ((g i == g j) && (decide (folV p n f i j < cond sure 2 1) && decide (folV p n f j i < cond sure 2 1))) := by
  simp only [badB, linkB, hasI_ord sure p f h.n7 hi hj, hasI_ord sure p f h.n7 hj hi, folV_can h sure hi hj, folV_can h sure hj hi]
  cases canB sure p f i j <;> cases canB sure p f j i <;> simp
end Go.Ab

/- the law HorseCheck: its loops. -/
set_option maxRecDepth 100000
namespace Go.Ab
open Go Go.RowKit Go.Proofs
theorem b6i (p a b e can : Int) (r : Bool) (i j n c : Nat) (ms ps : List Value) (f : Nat → Mv) (g : Nat → Int) (R : Nat → AExit → Hx → Prop)  : (vx.code none (.l p6i) (leafK [T6i] R) (T6i.inst ⟨⟨[.bool r, I a, I b, I e, I can, I i, I j, I n, I i, I p], [(n, n), (n, c)]⟩, [ms, ps]⟩) ([(3, .split ((4, Hint.con (C18x p n c f)) :: (8, Hint.con (C18x p n c f)) :: [(13, .split ([(2, .split ([(4, Hint.tm (0 : Nat) [])]) ((5, .val (.pointer (.some ⟨((5 : Nat)), ((0 : Nat) + i * (1 : Nat)), .none⟩))) :: (0, .val (.int IntKind.i64 (g i))) :: (2, .val (.pointer (.some ⟨((5 : Nat)), ((0 : Nat) + j * (1 : Nat)), .none⟩))) :: (0, .val (.int IntKind.i64 (g j))) :: [(0, .split ([(3, .split ([(4, .split ([(3, .split ([(3, .split ([(4, .split ((2, Hint.con C12) :: [(2, Hint.tm (0 : Nat) [])]) ([(4, Hint.tm (0 : Nat) [])]))]) ([(6, Hint.tm (0 : Nat) [])]))]) ([(7, Hint.tm (0 : Nat) [])]))]) ([(5, Hint.tm (0 : Nat) [])]))]) ([(7, Hint.tm (0 : Nat) [])]))]) ([(8, Hint.tm (0 : Nat) [])]))]))]) ((6, .val (.pointer (.some ⟨((5 : Nat)), ((0 : Nat) + i * (1 : Nat)), .none⟩))) :: (0, .val (.int IntKind.i64 (g i))) :: (2, .val (.pointer (.some ⟨((5 : Nat)), ((0 : Nat) + j * (1 : Nat)), .none⟩))) :: (0, .val (.int IntKind.i64 (g j))) :: [(0, .split ([(3, .split ([(4, .split ([(3, .split ([(3, .split ([(4, .split ((2, Hint.con C12) :: [(2, Hint.tm (0 : Nat) [])]) ([(4, Hint.tm (0 : Nat) [])]))]) ([(6, Hint.tm (0 : Nat) [])]))]) ([(7, Hint.tm (0 : Nat) [])]))]) ([(5, Hint.tm (0 : Nat) [])]))]) ([(7, Hint.tm (0 : Nat) [])]))]) ([(8, Hint.tm (0 : Nat) [])]))]))]) ([(1, Hint.tm (0 : Nat) [])]))])) =
((((decide ((↑j : Int) < (↑n : Int))) = true → ((ConOK Try.prog ((18 : Nat)) (C18x p n c f)) ∧ (Con.pre (C18x p n c f) ⟨⟨[(.int IntKind.i64 (p)), (.int IntKind.i64 ((↑i : Int))), (.int IntKind.i64 ((↑j : Int)))], [⟨(n), (c)⟩]⟩, [(ms)]⟩) ∧ 
((ConOK Try.prog ((18 : Nat)) (C18x p n c f)) ∧ (Con.pre (C18x p n c f) ⟨⟨[(.int IntKind.i64 (p)), (.int IntKind.i64 ((↑j : Int))), (.int IntKind.i64 ((↑i : Int)))], [⟨(n), (c)⟩]⟩, [(ms)]⟩) ∧ 
(((decide (folV p n f i j > (0 : Int))) = true → (((decide (folV p n f j i > (0 : Int))) = true → R ((0 : Nat)) .ret ⟨⟨[(.bool false), (.int IntKind.i64 (a)), (.int IntKind.i64 (b)), (.int IntKind.i64 (e)), (.int IntKind.i64 (can)), (.int IntKind.i64 ((↑i : Int))), (.int IntKind.i64 ((↑j : Int))), (.int IntKind.i64 ((↑n : Int))), (.int IntKind.i64 ((↑i : Int))), (.int IntKind.i64 (p))], [⟨(n), (n)⟩, ⟨(n), (c)⟩]⟩, [(ms), (ps)]⟩) ∧
((decide (folV p n f j i > (0 : Int))) = false → ((((((0 : Int) ≤ (↑i : Int))) ∧ (((↑i : Int) < (↑n : Int)))) ∧ (((.pointer (.some ⟨((5 : Nat)), ((0 : Nat) + i * (1 : Nat)), .none⟩)) : Value) = (.pointer (.some ⟨((5 : Nat)), ((0 : Nat) + i * (1 : Nat)), .none⟩)))) ∧
(((ps[(0 : Nat) + i * (1 : Nat)]? = some (.int IntKind.i64 (g i)))) ∧
((((((0 : Int) ≤ (↑j : Int))) ∧ (((↑j : Int) < (↑n : Int)))) ∧ (((.pointer (.some ⟨((5 : Nat)), ((0 : Nat) + j * (1 : Nat)), .none⟩)) : Value) = (.pointer (.some ⟨((5 : Nat)), ((0 : Nat) + j * (1 : Nat)), .none⟩)))) ∧
(((ps[(0 : Nat) + j * (1 : Nat)]? = some (.int IntKind.i64 (g j)))) ∧
(((g i == g j) = true → (((decide (folV p n f i j < can)) = true → (((decide (folV p n f j i < can)) = true → (((e == (0 : Int)) = true → (((a == (↑i : Int)) = true → (((b == (↑j : Int)) = true → ((ConOK Try.prog ((12 : Nat)) (C12)) ∧ (Con.pre (C12) ⟨⟨[], []⟩, []⟩) ∧ 
R ((0 : Nat)) .ret ⟨⟨[(.bool true), (.int IntKind.i64 (a)), (.int IntKind.i64 (b)), (.int IntKind.i64 (e)), (.int IntKind.i64 (can)), (.int IntKind.i64 ((↑i : Int))), (.int IntKind.i64 ((↑j : Int))), (.int IntKind.i64 ((↑n : Int))), (.int IntKind.i64 ((↑i : Int))), (.int IntKind.i64 (p))], [⟨(n), (n)⟩, ⟨(n), (c)⟩]⟩, [(ms), (ps)]⟩)) ∧
((b == (↑j : Int)) = false → R ((0 : Nat)) .ret ⟨⟨[(.bool false), (.int IntKind.i64 (a)), (.int IntKind.i64 (b)), (.int IntKind.i64 (e)), (.int IntKind.i64 (can)), (.int IntKind.i64 ((↑i : Int))), (.int IntKind.i64 ((↑j : Int))), (.int IntKind.i64 ((↑n : Int))), (.int IntKind.i64 ((↑i : Int))), (.int IntKind.i64 (p))], [⟨(n), (n)⟩, ⟨(n), (c)⟩]⟩, [(ms), (ps)]⟩))) ∧
((a == (↑i : Int)) = false → R ((0 : Nat)) .ret ⟨⟨[(.bool false), (.int IntKind.i64 (a)), (.int IntKind.i64 (b)), (.int IntKind.i64 (e)), (.int IntKind.i64 (can)), (.int IntKind.i64 ((↑i : Int))), (.int IntKind.i64 ((↑j : Int))), (.int IntKind.i64 ((↑n : Int))), (.int IntKind.i64 ((↑i : Int))), (.int IntKind.i64 (p))], [⟨(n), (n)⟩, ⟨(n), (c)⟩]⟩, [(ms), (ps)]⟩))) ∧
((e == (0 : Int)) = false → R ((0 : Nat)) .ret ⟨⟨[(.bool false), (.int IntKind.i64 (a)), (.int IntKind.i64 (b)), (.int IntKind.i64 (e)), (.int IntKind.i64 (can)), (.int IntKind.i64 ((↑i : Int))), (.int IntKind.i64 ((↑j : Int))), (.int IntKind.i64 ((↑n : Int))), (.int IntKind.i64 ((↑i : Int))), (.int IntKind.i64 (p))], [⟨(n), (n)⟩, ⟨(n), (c)⟩]⟩, [(ms), (ps)]⟩))) ∧
((decide (folV p n f j i < can)) = false → R ((0 : Nat)) .normal ⟨⟨[(.bool (r)), (.int IntKind.i64 (a)), (.int IntKind.i64 (b)), (.int IntKind.i64 (e)), (.int IntKind.i64 (can)), (.int IntKind.i64 ((↑i : Int))), (.int IntKind.i64 (IntKind.i64.wrap ((↑j : Int) + (1 : Int)))), (.int IntKind.i64 ((↑n : Int))), (.int IntKind.i64 ((↑i : Int))), (.int IntKind.i64 (p))], [⟨(n), (n)⟩, ⟨(n), (c)⟩]⟩, [(ms), (ps)]⟩))) ∧
((decide (folV p n f i j < can)) = false → R ((0 : Nat)) .normal ⟨⟨[(.bool (r)), (.int IntKind.i64 (a)), (.int IntKind.i64 (b)), (.int IntKind.i64 (e)), (.int IntKind.i64 (can)), (.int IntKind.i64 ((↑i : Int))), (.int IntKind.i64 (IntKind.i64.wrap ((↑j : Int) + (1 : Int)))), (.int IntKind.i64 ((↑n : Int))), (.int IntKind.i64 ((↑i : Int))), (.int IntKind.i64 (p))], [⟨(n), (n)⟩, ⟨(n), (c)⟩]⟩, [(ms), (ps)]⟩))) ∧
((g i == g j) = false → R ((0 : Nat)) .normal ⟨⟨[(.bool (r)), (.int IntKind.i64 (a)), (.int IntKind.i64 (b)), (.int IntKind.i64 (e)), (.int IntKind.i64 (can)), (.int IntKind.i64 ((↑i : Int))), (.int IntKind.i64 (IntKind.i64.wrap ((↑j : Int) + (1 : Int)))), (.int IntKind.i64 ((↑n : Int))), (.int IntKind.i64 ((↑i : Int))), (.int IntKind.i64 (p))], [⟨(n), (n)⟩, ⟨(n), (c)⟩]⟩, [(ms), (ps)]⟩))))))))) ∧
((decide (folV p n f i j > (0 : Int))) = false → ((((((0 : Int) ≤ (↑i : Int))) ∧ (((↑i : Int) < (↑n : Int)))) ∧ (((.pointer (.some ⟨((5 : Nat)), ((0 : Nat) + i * (1 : Nat)), .none⟩)) : Value) = (.pointer (.some ⟨((5 : Nat)), ((0 : Nat) + i * (1 : Nat)), .none⟩)))) ∧
(((ps[(0 : Nat) + i * (1 : Nat)]? = some (.int IntKind.i64 (g i)))) ∧
((((((0 : Int) ≤ (↑j : Int))) ∧ (((↑j : Int) < (↑n : Int)))) ∧ (((.pointer (.some ⟨((5 : Nat)), ((0 : Nat) + j * (1 : Nat)), .none⟩)) : Value) = (.pointer (.some ⟨((5 : Nat)), ((0 : Nat) + j * (1 : Nat)), .none⟩)))) ∧
(((ps[(0 : Nat) + j * (1 : Nat)]? = some (.int IntKind.i64 (g j)))) ∧
(((g i == g j) = true → (((decide (folV p n f i j < can)) = true → (((decide (folV p n f j i < can)) = true → (((e == (0 : Int)) = true → (((a == (↑i : Int)) = true → (((b == (↑j : Int)) = true → ((ConOK Try.prog ((12 : Nat)) (C12)) ∧ (Con.pre (C12) ⟨⟨[], []⟩, []⟩) ∧ 
R ((0 : Nat)) .ret ⟨⟨[(.bool true), (.int IntKind.i64 (a)), (.int IntKind.i64 (b)), (.int IntKind.i64 (e)), (.int IntKind.i64 (can)), (.int IntKind.i64 ((↑i : Int))), (.int IntKind.i64 ((↑j : Int))), (.int IntKind.i64 ((↑n : Int))), (.int IntKind.i64 ((↑i : Int))), (.int IntKind.i64 (p))], [⟨(n), (n)⟩, ⟨(n), (c)⟩]⟩, [(ms), (ps)]⟩)) ∧
((b == (↑j : Int)) = false → R ((0 : Nat)) .ret ⟨⟨[(.bool false), (.int IntKind.i64 (a)), (.int IntKind.i64 (b)), (.int IntKind.i64 (e)), (.int IntKind.i64 (can)), (.int IntKind.i64 ((↑i : Int))), (.int IntKind.i64 ((↑j : Int))), (.int IntKind.i64 ((↑n : Int))), (.int IntKind.i64 ((↑i : Int))), (.int IntKind.i64 (p))], [⟨(n), (n)⟩, ⟨(n), (c)⟩]⟩, [(ms), (ps)]⟩))) ∧
((a == (↑i : Int)) = false → R ((0 : Nat)) .ret ⟨⟨[(.bool false), (.int IntKind.i64 (a)), (.int IntKind.i64 (b)), (.int IntKind.i64 (e)), (.int IntKind.i64 (can)), (.int IntKind.i64 ((↑i : Int))), (.int IntKind.i64 ((↑j : Int))), (.int IntKind.i64 ((↑n : Int))), (.int IntKind.i64 ((↑i : Int))), (.int IntKind.i64 (p))], [⟨(n), (n)⟩, ⟨(n), (c)⟩]⟩, [(ms), (ps)]⟩))) ∧
((e == (0 : Int)) = false → R ((0 : Nat)) .ret ⟨⟨[(.bool false), (.int IntKind.i64 (a)), (.int IntKind.i64 (b)), (.int IntKind.i64 (e)), (.int IntKind.i64 (can)), (.int IntKind.i64 ((↑i : Int))), (.int IntKind.i64 ((↑j : Int))), (.int IntKind.i64 ((↑n : Int))), (.int IntKind.i64 ((↑i : Int))), (.int IntKind.i64 (p))], [⟨(n), (n)⟩, ⟨(n), (c)⟩]⟩, [(ms), (ps)]⟩))) ∧
((decide (folV p n f j i < can)) = false → R ((0 : Nat)) .normal ⟨⟨[(.bool (r)), (.int IntKind.i64 (a)), (.int IntKind.i64 (b)), (.int IntKind.i64 (e)), (.int IntKind.i64 (can)), (.int IntKind.i64 ((↑i : Int))), (.int IntKind.i64 (IntKind.i64.wrap ((↑j : Int) + (1 : Int)))), (.int IntKind.i64 ((↑n : Int))), (.int IntKind.i64 ((↑i : Int))), (.int IntKind.i64 (p))], [⟨(n), (n)⟩, ⟨(n), (c)⟩]⟩, [(ms), (ps)]⟩))) ∧
((decide (folV p n f i j < can)) = false → R ((0 : Nat)) .normal ⟨⟨[(.bool (r)), (.int IntKind.i64 (a)), (.int IntKind.i64 (b)), (.int IntKind.i64 (e)), (.int IntKind.i64 (can)), (.int IntKind.i64 ((↑i : Int))), (.int IntKind.i64 (IntKind.i64.wrap ((↑j : Int) + (1 : Int)))), (.int IntKind.i64 ((↑n : Int))), (.int IntKind.i64 ((↑i : Int))), (.int IntKind.i64 (p))], [⟨(n), (n)⟩, ⟨(n), (c)⟩]⟩, [(ms), (ps)]⟩))) ∧
((g i == g j) = false → R ((0 : Nat)) .normal ⟨⟨[(.bool (r)), (.int IntKind.i64 (a)), (.int IntKind.i64 (b)), (.int IntKind.i64 (e)), (.int IntKind.i64 (can)), (.int IntKind.i64 ((↑i : Int))), (.int IntKind.i64 (IntKind.i64.wrap ((↑j : Int) + (1 : Int)))), (.int IntKind.i64 ((↑n : Int))), (.int IntKind.i64 ((↑i : Int))), (.int IntKind.i64 (p))], [⟨(n), (n)⟩, ⟨(n), (c)⟩]⟩, [(ms), (ps)]⟩))))))))))) ∧
((decide ((↑j : Int) < (↑n : Int))) = false → R ((0 : Nat)) (.exit ((2 : Nat))) ⟨⟨[(.bool (r)), (.int IntKind.i64 (a)), (.int IntKind.i64 (b)), (.int IntKind.i64 (e)), (.int IntKind.i64 (can)), (.int IntKind.i64 ((↑i : Int))), (.int IntKind.i64 ((↑j : Int))), (.int IntKind.i64 ((↑n : Int))), (.int IntKind.i64 ((↑i : Int))), (.int IntKind.i64 (p))], [⟨(n), (n)⟩, ⟨(n), (c)⟩]⟩, [(ms), (ps)]⟩))) := by kernel_rfl

noncomputable def h6i (p : Int) (n c : Nat) (f : Nat → Mv) (g : Nat → Int) (r : Bool) (a b e can : Int) (i j : Nat) : Hx := ⟨⟨[.bool r, I a, I b, I e, I can, I i, I j, I n, I i, I p], [(n, n), (n, c)]⟩, [mvs n f, ints n g]⟩
theorem atoms6 (n : Nat) (f : Nat → Mv) (g : Nat → Int) : Atoms [mvs n f, ints n g] := fun cs hcs => by
  simp only [List.mem_cons, List.not_mem_nil, or_false] at hcs
  rcases hcs with rfl | rfl
  · exact mvs_atoms n f _ (by simp)
  · exact ints_atoms n g _ (by simp)
theorem round6i {p : Int} {n c : Nat} {f : Nat → Mv} {g : Nat → Int} (hok : okH p n f = true) (sure : Bool) {r : Bool} {a b e : Int} {i j : Nat} (hi : i < n) {R : Nat → AExit → Hx → Prop}
    (fact : j < n → badB g (ordF sure p n f n) i j = true → e = 0 ∧ a = i ∧ b = j)
    (h1 : j < n → badB g (ordF sure p n f n) i j = false → R 0 .normal (h6i p n c f g r a b e (cond sure 2 1) i (j + 1)))
    (h2 : j < n → badB g (ordF sure p n f n) i j = true → R 0 .ret (h6i p n c f g true a b e (cond sure 2 1) i j))
    (h3 : ¬ j < n → R 0 (.exit 2) (h6i p n c f g r a b e (cond sure 2 1) i j)) : ∃ hs, vx.code none (.l p6i) (leafK [T6i] R) (T6i.inst (h6i p n c f g r a b e (cond sure 2 1) i j)) hs := by
  have h := okH_iff hok
  have h7 := h.n7
  refine ⟨_, (b6i p a b e (cond sure 2 1) r i j n c (mvs n f) (ints n g) f g R).mpr ⟨fun hlt => ?_, fun hlt => h3 (by simpa using hlt)⟩⟩
  have hj : j < n := by simpa using hlt
  have hw : IntKind.i64.wrap ((j : Int) + 1) = ((j + 1 : Nat) : Int) := wrapI (by omega) (by omega)
  have fact := fact hj
  have h1 := h1 hj
  have h2 := h2 hj
  rw [badB_eq h sure g hi hj] at fact h1 h2
  rw [hw]
  repeat' (first | with_reducible apply And.intro | with_reducible intro)
  all_goals first
    | exact C18x_ok p n c f (by omega) hok h7
    | exact C12_ok
    | omega
    | exact ints_get g hi
    | exact ints_get g hj
    | exact ⟨i, j, hi, hj, rfl⟩
    | exact ⟨j, i, hj, hi, rfl⟩
    | rfl
    | (exfalso; exact folV_pos h hi hj ‹_› ‹_›)
    | (refine h1 ?_; simp only [*, Bool.and_false, Bool.false_and, Bool.and_true, Bool.true_and]; done)
    | (refine h2 ?_; simp only [*, Bool.and_false, Bool.false_and, Bool.and_true, Bool.true_and]; done)
    | (exfalso; have ft := fact (by simp only [*, Bool.and_true, Bool.true_and]); obtain ⟨q1, q2, q3⟩ := ft; subst q1; subst q2; subst q3; simp at *; done)
end Go.Ab

/- the law HorseCheck: some moves, some numbers. -/
set_option maxRecDepth 100000
namespace Go.Ab
open Go Go.RowKit Go.Proofs
theorem b6on (p a b e can : Int) (r : Bool) (i n c : Nat) (ms ps : List Value) (R : Nat → AExit → Hx → Prop)  : (vx.code none (.l p6o) (leafK [T6o] R) (T6o.inst ⟨⟨[.bool r, I a, I b, I e, I can, I n, I i, I p], [(n, n), (n, c)]⟩, [ms, ps]⟩) ([(0, .split ((6, Hint.loopT T6i (AExit.exit (2 : Nat)) T6i fun x =>   {     hs :=       { vs := [Value.bool r, I a, I b, I e, I can, I (↑i : Int), I (↑n : Int), I (↑n : Int), I (↑i : Int), I p],         ns := [(n, n), (n, c)] },     ls := [ms, ps] }) :: [(2, Hint.tm (0 : Nat) [])]) ([(1, Hint.tm (0 : Nat) [])]))])) =
((((decide ((↑i : Int) < (↑n : Int))) = true → ((Atoms [(ms), (ps)]) ∧ (LoopOK Try.prog .none p6i (T6i) ⟨⟨[(.bool (r)), (.int IntKind.i64 (a)), (.int IntKind.i64 (b)), (.int IntKind.i64 (e)), (.int IntKind.i64 (can)), (.int IntKind.i64 ((↑i : Int))), (.int IntKind.i64 (IntKind.i64.wrap ((↑i : Int) + (1 : Int)))), (.int IntKind.i64 ((↑n : Int))), (.int IntKind.i64 ((↑i : Int))), (.int IntKind.i64 (p))], [⟨(n), (n)⟩, ⟨(n), (c)⟩]⟩, [(ms), (ps)]⟩ (.exit ((2 : Nat))) (T6i) ⟨⟨[(.bool (r)), (.int IntKind.i64 (a)), (.int IntKind.i64 (b)), (.int IntKind.i64 (e)), (.int IntKind.i64 (can)), (.int IntKind.i64 ((↑i : Int))), (.int IntKind.i64 ((↑n : Int))), (.int IntKind.i64 ((↑n : Int))), (.int IntKind.i64 ((↑i : Int))), (.int IntKind.i64 (p))], [⟨(n), (n)⟩, ⟨(n), (c)⟩]⟩, [(ms), (ps)]⟩) ∧ 
R ((0 : Nat)) .normal ⟨⟨[(.bool (r)), (.int IntKind.i64 (a)), (.int IntKind.i64 (b)), (.int IntKind.i64 (e)), (.int IntKind.i64 (can)), (.int IntKind.i64 ((↑n : Int))), (.int IntKind.i64 (IntKind.i64.wrap ((↑i : Int) + (1 : Int)))), (.int IntKind.i64 (p))], [⟨(n), (n)⟩, ⟨(n), (c)⟩]⟩, [(ms), (ps)]⟩)) ∧
((decide ((↑i : Int) < (↑n : Int))) = false → R ((0 : Nat)) (.exit ((0 : Nat))) ⟨⟨[(.bool (r)), (.int IntKind.i64 (a)), (.int IntKind.i64 (b)), (.int IntKind.i64 (e)), (.int IntKind.i64 (can)), (.int IntKind.i64 ((↑n : Int))), (.int IntKind.i64 ((↑i : Int))), (.int IntKind.i64 (p))], [⟨(n), (n)⟩, ⟨(n), (c)⟩]⟩, [(ms), (ps)]⟩))) := by kernel_rfl

theorem b6or (p a b e can : Int) (r : Bool) (i j n c : Nat) (ms ps : List Value) (R : Nat → AExit → Hx → Prop)  : (vx.code none (.l p6o) (leafK [T6o] R) (T6o.inst ⟨⟨[.bool r, I a, I b, I e, I can, I n, I i, I p], [(n, n), (n, c)]⟩, [ms, ps]⟩) ([(0, .split ((6, Hint.loopT T6i AExit.ret T6i fun x =>   {     hs :=       { vs := [Value.bool true, I a, I b, I e, I can, I (↑i : Int), I (↑j : Int), I (↑n : Int), I (↑i : Int), I p],         ns := [(n, n), (n, c)] },     ls := [ms, ps] }) :: [(0, Hint.tm (0 : Nat) [])]) ([(1, Hint.tm (0 : Nat) [])]))])) =
((((decide ((↑i : Int) < (↑n : Int))) = true → ((Atoms [(ms), (ps)]) ∧ (LoopOK Try.prog .none p6i (T6i) ⟨⟨[(.bool (r)), (.int IntKind.i64 (a)), (.int IntKind.i64 (b)), (.int IntKind.i64 (e)), (.int IntKind.i64 (can)), (.int IntKind.i64 ((↑i : Int))), (.int IntKind.i64 (IntKind.i64.wrap ((↑i : Int) + (1 : Int)))), (.int IntKind.i64 ((↑n : Int))), (.int IntKind.i64 ((↑i : Int))), (.int IntKind.i64 (p))], [⟨(n), (n)⟩, ⟨(n), (c)⟩]⟩, [(ms), (ps)]⟩ .ret (T6i) ⟨⟨[(.bool true), (.int IntKind.i64 (a)), (.int IntKind.i64 (b)), (.int IntKind.i64 (e)), (.int IntKind.i64 (can)), (.int IntKind.i64 ((↑i : Int))), (.int IntKind.i64 ((↑j : Int))), (.int IntKind.i64 ((↑n : Int))), (.int IntKind.i64 ((↑i : Int))), (.int IntKind.i64 (p))], [⟨(n), (n)⟩, ⟨(n), (c)⟩]⟩, [(ms), (ps)]⟩) ∧ 
R ((0 : Nat)) .ret ⟨⟨[(.bool true), (.int IntKind.i64 (a)), (.int IntKind.i64 (b)), (.int IntKind.i64 (e)), (.int IntKind.i64 (can)), (.int IntKind.i64 ((↑n : Int))), (.int IntKind.i64 ((↑i : Int))), (.int IntKind.i64 (p))], [⟨(n), (n)⟩, ⟨(n), (c)⟩]⟩, [(ms), (ps)]⟩)) ∧
((decide ((↑i : Int) < (↑n : Int))) = false → R ((0 : Nat)) (.exit ((0 : Nat))) ⟨⟨[(.bool (r)), (.int IntKind.i64 (a)), (.int IntKind.i64 (b)), (.int IntKind.i64 (e)), (.int IntKind.i64 (can)), (.int IntKind.i64 ((↑n : Int))), (.int IntKind.i64 ((↑i : Int))), (.int IntKind.i64 (p))], [⟨(n), (n)⟩, ⟨(n), (c)⟩]⟩, [(ms), (ps)]⟩))) := by kernel_rfl

theorem f6n (p a b e : Int) (sure : Bool) (n c k d : Nat) (f : Nat → Mv) (bs : Nat → Int) (R : ARes → Prop)  : (vx.call 6 [hV p n c, .bool sure, slV 1 k d] (retK R) (m2b (mvs n f) (u8s k bs)) ([(17, .split ((7, Hint.con C12) :: []) ((4, Hint.con ((C21 p n c f).when (ARes.ret (Value.bool true)))) :: (6, Hint.conN (C13 p n c k d f bs)) :: [(3, .split ((0, Hint.con ((C16 sure p n c n n f (planG k bs)).when (ARes.ret (Value.tuple { toList := [I a, I b, I e] })))) :: [(8, .split ((5, Hint.loopT T6o (AExit.exit (0 : Nat)) T6o fun x =>   {     hs :=       { vs := [Value.bool false, I a, I b, I e, x.hs.vs[(4 : Nat)]?.getD undef, I (↑n : Int), I (↑n : Int), I p],         ns := [(n, n), (n, c)] },     ls := [mvs n f, ints n (planG k bs)] }) :: [(1, .split ([(2, .split ([(3, .split ((2, Hint.con C12) :: []) ([]))]) ([]))]) ([]))]) ((4, Hint.loopT T6o (AExit.exit (0 : Nat)) T6o fun x =>   {     hs :=       { vs := [Value.bool false, I a, I b, I e, x.hs.vs[(4 : Nat)]?.getD undef, I (↑n : Int), I (↑n : Int), I p],         ns := [(n, n), (n, c)] },     ls := [mvs n f, ints n (planG k bs)] }) :: [(1, .split ([(2, .split ([(3, .split ((2, Hint.con C12) :: []) ([]))]) ([]))]) ([]))]))]) ((0, Hint.con ((C16 sure p n c n n f (planG k bs)).when (ARes.ret (Value.tuple { toList := [I a, I b, I e] })))) :: [(8, .split ((5, Hint.loopT T6o (AExit.exit (0 : Nat)) T6o fun x =>   {     hs :=       { vs := [Value.bool false, I a, I b, I e, x.hs.vs[(4 : Nat)]?.getD undef, I (↑n : Int), I (↑n : Int), I p],         ns := [(n, n), (n, c)] },     ls := [mvs n f, ints n (planG k bs)] }) :: [(1, .split ([(2, .split ([(3, .split ((2, Hint.con C12) :: []) ([]))]) ([]))]) ([]))]) ((4, Hint.loopT T6o (AExit.exit (0 : Nat)) T6o fun x =>   {     hs :=       { vs := [Value.bool false, I a, I b, I e, x.hs.vs[(4 : Nat)]?.getD undef, I (↑n : Int), I (↑n : Int), I p],         ns := [(n, n), (n, c)] },     ls := [mvs n f, ints n (planG k bs)] }) :: [(1, .split ([(2, .split ([(3, .split ((2, Hint.con C12) :: []) ([]))]) ([]))]) ([]))]))]))]))])) =
((((decide ((if (↑(0 : Nat) : Int) > (↑n : Int) then (↑(0 : Nat) : Int) else (↑n : Int)) > (40 : Int))) = true → ((ConOK Try.prog ((12 : Nat)) (C12)) ∧ (Con.pre (C12) ⟨⟨[], []⟩, []⟩) ∧ 
R (.ret (.bool true)))) ∧
((decide ((if (↑(0 : Nat) : Int) > (↑n : Int) then (↑(0 : Nat) : Int) else (↑n : Int)) > (40 : Int))) = false → ((ConOK Try.prog ((21 : Nat)) ((C21 p n c f).when (ARes.ret (Value.bool true)))) ∧ (Con.pre ((C21 p n c f).when (ARes.ret (Value.bool true))) ⟨⟨[(.int IntKind.i64 (p))], [⟨(n), (c)⟩]⟩, [(mvs n f)]⟩) ∧ 
((ConNOK Try.prog ((13 : Nat)) (C13 p n c k d f bs)) ∧ (ConN.pre (C13 p n c k d f bs) ⟨⟨[(.int IntKind.i64 (p))], [⟨(n), (c)⟩, ⟨(k), (d)⟩]⟩, [(mvs n f), (u8s k bs)]⟩) ∧ 
(((sure) = true → ((ConOK Try.prog ((16 : Nat)) ((C16 sure p n c n n f (planG k bs)).when (ARes.ret (Value.tuple { toList := [I a, I b, I e] })))) ∧ (Con.pre ((C16 sure p n c n n f (planG k bs)).when (ARes.ret (Value.tuple { toList := [I a, I b, I e] }))) ⟨⟨[(.int IntKind.i64 (p)), (.bool true)], [⟨(n), (c)⟩, ⟨(n), (n)⟩]⟩, [(mvs n f), (ints n (planG k bs))]⟩) ∧ 
(((sure) = true → ((Atoms [(mvs n f), (ints n (planG k bs))]) ∧ (LoopOK Try.prog .none p6o (T6o) ⟨⟨[(.bool false), (.int IntKind.i64 (a)), (.int IntKind.i64 (b)), (.int IntKind.i64 (e)), (.int IntKind.i64 ((2 : Int))), (.int IntKind.i64 ((↑n : Int))), (.int IntKind.i64 ((0 : Int))), (.int IntKind.i64 (p))], [⟨(n), (n)⟩, ⟨(n), (c)⟩]⟩, [(mvs n f), (ints n (planG k bs))]⟩ (.exit ((0 : Nat))) (T6o) ⟨⟨[(.bool false), (.int IntKind.i64 (a)), (.int IntKind.i64 (b)), (.int IntKind.i64 (e)), (.int IntKind.i64 ((2 : Int))), (.int IntKind.i64 ((↑n : Int))), (.int IntKind.i64 ((↑n : Int))), (.int IntKind.i64 (p))], [⟨(n), (n)⟩, ⟨(n), (c)⟩]⟩, [(mvs n f), (ints n (planG k bs))]⟩) ∧ 
(((e == (4 : Int)) = true → (((a == (0 : Int)) = true → (((b == (0 : Int)) = true → ((ConOK Try.prog ((12 : Nat)) (C12)) ∧ (Con.pre (C12) ⟨⟨[], []⟩, []⟩) ∧ 
R (.ret (.bool true)))) ∧
((b == (0 : Int)) = false → R (.ret (.bool false))))) ∧
((a == (0 : Int)) = false → R (.ret (.bool false))))) ∧
((e == (4 : Int)) = false → R (.ret (.bool false)))))) ∧
((sure) = false → ((Atoms [(mvs n f), (ints n (planG k bs))]) ∧ (LoopOK Try.prog .none p6o (T6o) ⟨⟨[(.bool false), (.int IntKind.i64 (a)), (.int IntKind.i64 (b)), (.int IntKind.i64 (e)), (.int IntKind.i64 ((1 : Int))), (.int IntKind.i64 ((↑n : Int))), (.int IntKind.i64 ((0 : Int))), (.int IntKind.i64 (p))], [⟨(n), (n)⟩, ⟨(n), (c)⟩]⟩, [(mvs n f), (ints n (planG k bs))]⟩ (.exit ((0 : Nat))) (T6o) ⟨⟨[(.bool false), (.int IntKind.i64 (a)), (.int IntKind.i64 (b)), (.int IntKind.i64 (e)), (.int IntKind.i64 ((1 : Int))), (.int IntKind.i64 ((↑n : Int))), (.int IntKind.i64 ((↑n : Int))), (.int IntKind.i64 (p))], [⟨(n), (n)⟩, ⟨(n), (c)⟩]⟩, [(mvs n f), (ints n (planG k bs))]⟩) ∧ 
(((e == (4 : Int)) = true → (((a == (0 : Int)) = true → (((b == (0 : Int)) = true → ((ConOK Try.prog ((12 : Nat)) (C12)) ∧ (Con.pre (C12) ⟨⟨[], []⟩, []⟩) ∧ 
R (.ret (.bool true)))) ∧
((b == (0 : Int)) = false → R (.ret (.bool false))))) ∧
((a == (0 : Int)) = false → R (.ret (.bool false))))) ∧
((e == (4 : Int)) = false → R (.ret (.bool false))))))))) ∧
((sure) = false → ((ConOK Try.prog ((16 : Nat)) ((C16 sure p n c n n f (planG k bs)).when (ARes.ret (Value.tuple { toList := [I a, I b, I e] })))) ∧ (Con.pre ((C16 sure p n c n n f (planG k bs)).when (ARes.ret (Value.tuple { toList := [I a, I b, I e] }))) ⟨⟨[(.int IntKind.i64 (p)), (.bool false)], [⟨(n), (c)⟩, ⟨(n), (n)⟩]⟩, [(mvs n f), (ints n (planG k bs))]⟩) ∧ 
(((sure) = true → ((Atoms [(mvs n f), (ints n (planG k bs))]) ∧ (LoopOK Try.prog .none p6o (T6o) ⟨⟨[(.bool false), (.int IntKind.i64 (a)), (.int IntKind.i64 (b)), (.int IntKind.i64 (e)), (.int IntKind.i64 ((2 : Int))), (.int IntKind.i64 ((↑n : Int))), (.int IntKind.i64 ((0 : Int))), (.int IntKind.i64 (p))], [⟨(n), (n)⟩, ⟨(n), (c)⟩]⟩, [(mvs n f), (ints n (planG k bs))]⟩ (.exit ((0 : Nat))) (T6o) ⟨⟨[(.bool false), (.int IntKind.i64 (a)), (.int IntKind.i64 (b)), (.int IntKind.i64 (e)), (.int IntKind.i64 ((2 : Int))), (.int IntKind.i64 ((↑n : Int))), (.int IntKind.i64 ((↑n : Int))), (.int IntKind.i64 (p))], [⟨(n), (n)⟩, ⟨(n), (c)⟩]⟩, [(mvs n f), (ints n (planG k bs))]⟩) ∧ 
(((e == (4 : Int)) = true → (((a == (0 : Int)) = true → (((b == (0 : Int)) = true → ((ConOK Try.prog ((12 : Nat)) (C12)) ∧ (Con.pre (C12) ⟨⟨[], []⟩, []⟩) ∧ 
R (.ret (.bool true)))) ∧
((b == (0 : Int)) = false → R (.ret (.bool false))))) ∧
((a == (0 : Int)) = false → R (.ret (.bool false))))) ∧
((e == (4 : Int)) = false → R (.ret (.bool false)))))) ∧
((sure) = false → ((Atoms [(mvs n f), (ints n (planG k bs))]) ∧ (LoopOK Try.prog .none p6o (T6o) ⟨⟨[(.bool false), (.int IntKind.i64 (a)), (.int IntKind.i64 (b)), (.int IntKind.i64 (e)), (.int IntKind.i64 ((1 : Int))), (.int IntKind.i64 ((↑n : Int))), (.int IntKind.i64 ((0 : Int))), (.int IntKind.i64 (p))], [⟨(n), (n)⟩, ⟨(n), (c)⟩]⟩, [(mvs n f), (ints n (planG k bs))]⟩ (.exit ((0 : Nat))) (T6o) ⟨⟨[(.bool false), (.int IntKind.i64 (a)), (.int IntKind.i64 (b)), (.int IntKind.i64 (e)), (.int IntKind.i64 ((1 : Int))), (.int IntKind.i64 ((↑n : Int))), (.int IntKind.i64 ((↑n : Int))), (.int IntKind.i64 (p))], [⟨(n), (n)⟩, ⟨(n), (c)⟩]⟩, [(mvs n f), (ints n (planG k bs))]⟩) ∧ 
(((e == (4 : Int)) = true → (((a == (0 : Int)) = true → (((b == (0 : Int)) = true → ((ConOK Try.prog ((12 : Nat)) (C12)) ∧ (Con.pre (C12) ⟨⟨[], []⟩, []⟩) ∧ 
R (.ret (.bool true)))) ∧
((b == (0 : Int)) = false → R (.ret (.bool false))))) ∧
((a == (0 : Int)) = false → R (.ret (.bool false))))) ∧
((e == (4 : Int)) = false → R (.ret (.bool false))))))))))))))) := by kernel_rfl

theorem f6r (p a b e : Int) (sure : Bool) (i n c k d : Nat) (f : Nat → Mv) (bs : Nat → Int) (R : ARes → Prop)  : (vx.call 6 [hV p n c, .bool sure, slV 1 k d] (retK R) (m2b (mvs n f) (u8s k bs)) ([(17, .split ((7, Hint.con C12) :: []) ((4, Hint.con ((C21 p n c f).when (ARes.ret (Value.bool true)))) :: (6, Hint.conN (C13 p n c k d f bs)) :: [(3, .split ((0, Hint.con ((C16 sure p n c n n f (planG k bs)).when (ARes.ret (Value.tuple { toList := [I a, I b, I e] })))) :: [(8, .split ((5, Hint.loopT T6o AExit.ret T6o fun x =>   {     hs :=       { vs := [Value.bool true, I a, I b, I e, x.hs.vs[(4 : Nat)]?.getD undef, I (↑n : Int), I (↑i : Int), I p],         ns := [(n, n), (n, c)] },     ls := [mvs n f, ints n (planG k bs)] }) :: []) ((4, Hint.loopT T6o AExit.ret T6o fun x =>   {     hs :=       { vs := [Value.bool true, I a, I b, I e, x.hs.vs[(4 : Nat)]?.getD undef, I (↑n : Int), I (↑i : Int), I p],         ns := [(n, n), (n, c)] },     ls := [mvs n f, ints n (planG k bs)] }) :: []))]) ((0, Hint.con ((C16 sure p n c n n f (planG k bs)).when (ARes.ret (Value.tuple { toList := [I a, I b, I e] })))) :: [(8, .split ((5, Hint.loopT T6o AExit.ret T6o fun x =>   {     hs :=       { vs := [Value.bool true, I a, I b, I e, x.hs.vs[(4 : Nat)]?.getD undef, I (↑n : Int), I (↑i : Int), I p],         ns := [(n, n), (n, c)] },     ls := [mvs n f, ints n (planG k bs)] }) :: []) ((4, Hint.loopT T6o AExit.ret T6o fun x =>   {     hs :=       { vs := [Value.bool true, I a, I b, I e, x.hs.vs[(4 : Nat)]?.getD undef, I (↑n : Int), I (↑i : Int), I p],         ns := [(n, n), (n, c)] },     ls := [mvs n f, ints n (planG k bs)] }) :: []))]))]))])) =
((((decide ((if (↑(0 : Nat) : Int) > (↑n : Int) then (↑(0 : Nat) : Int) else (↑n : Int)) > (40 : Int))) = true → ((ConOK Try.prog ((12 : Nat)) (C12)) ∧ (Con.pre (C12) ⟨⟨[], []⟩, []⟩) ∧ 
R (.ret (.bool true)))) ∧
((decide ((if (↑(0 : Nat) : Int) > (↑n : Int) then (↑(0 : Nat) : Int) else (↑n : Int)) > (40 : Int))) = false → ((ConOK Try.prog ((21 : Nat)) ((C21 p n c f).when (ARes.ret (Value.bool true)))) ∧ (Con.pre ((C21 p n c f).when (ARes.ret (Value.bool true))) ⟨⟨[(.int IntKind.i64 (p))], [⟨(n), (c)⟩]⟩, [(mvs n f)]⟩) ∧ 
((ConNOK Try.prog ((13 : Nat)) (C13 p n c k d f bs)) ∧ (ConN.pre (C13 p n c k d f bs) ⟨⟨[(.int IntKind.i64 (p))], [⟨(n), (c)⟩, ⟨(k), (d)⟩]⟩, [(mvs n f), (u8s k bs)]⟩) ∧ 
(((sure) = true → ((ConOK Try.prog ((16 : Nat)) ((C16 sure p n c n n f (planG k bs)).when (ARes.ret (Value.tuple { toList := [I a, I b, I e] })))) ∧ (Con.pre ((C16 sure p n c n n f (planG k bs)).when (ARes.ret (Value.tuple { toList := [I a, I b, I e] }))) ⟨⟨[(.int IntKind.i64 (p)), (.bool true)], [⟨(n), (c)⟩, ⟨(n), (n)⟩]⟩, [(mvs n f), (ints n (planG k bs))]⟩) ∧ 
(((sure) = true → ((Atoms [(mvs n f), (ints n (planG k bs))]) ∧ (LoopOK Try.prog .none p6o (T6o) ⟨⟨[(.bool false), (.int IntKind.i64 (a)), (.int IntKind.i64 (b)), (.int IntKind.i64 (e)), (.int IntKind.i64 ((2 : Int))), (.int IntKind.i64 ((↑n : Int))), (.int IntKind.i64 ((0 : Int))), (.int IntKind.i64 (p))], [⟨(n), (n)⟩, ⟨(n), (c)⟩]⟩, [(mvs n f), (ints n (planG k bs))]⟩ .ret (T6o) ⟨⟨[(.bool true), (.int IntKind.i64 (a)), (.int IntKind.i64 (b)), (.int IntKind.i64 (e)), (.int IntKind.i64 ((2 : Int))), (.int IntKind.i64 ((↑n : Int))), (.int IntKind.i64 ((↑i : Int))), (.int IntKind.i64 (p))], [⟨(n), (n)⟩, ⟨(n), (c)⟩]⟩, [(mvs n f), (ints n (planG k bs))]⟩) ∧ 
R (.ret (.bool true)))) ∧
((sure) = false → ((Atoms [(mvs n f), (ints n (planG k bs))]) ∧ (LoopOK Try.prog .none p6o (T6o) ⟨⟨[(.bool false), (.int IntKind.i64 (a)), (.int IntKind.i64 (b)), (.int IntKind.i64 (e)), (.int IntKind.i64 ((1 : Int))), (.int IntKind.i64 ((↑n : Int))), (.int IntKind.i64 ((0 : Int))), (.int IntKind.i64 (p))], [⟨(n), (n)⟩, ⟨(n), (c)⟩]⟩, [(mvs n f), (ints n (planG k bs))]⟩ .ret (T6o) ⟨⟨[(.bool true), (.int IntKind.i64 (a)), (.int IntKind.i64 (b)), (.int IntKind.i64 (e)), (.int IntKind.i64 ((1 : Int))), (.int IntKind.i64 ((↑n : Int))), (.int IntKind.i64 ((↑i : Int))), (.int IntKind.i64 (p))], [⟨(n), (n)⟩, ⟨(n), (c)⟩]⟩, [(mvs n f), (ints n (planG k bs))]⟩) ∧ 
R (.ret (.bool true))))))) ∧
((sure) = false → ((ConOK Try.prog ((16 : Nat)) ((C16 sure p n c n n f (planG k bs)).when (ARes.ret (Value.tuple { toList := [I a, I b, I e] })))) ∧ (Con.pre ((C16 sure p n c n n f (planG k bs)).when (ARes.ret (Value.tuple { toList := [I a, I b, I e] }))) ⟨⟨[(.int IntKind.i64 (p)), (.bool false)], [⟨(n), (c)⟩, ⟨(n), (n)⟩]⟩, [(mvs n f), (ints n (planG k bs))]⟩) ∧ 
(((sure) = true → ((Atoms [(mvs n f), (ints n (planG k bs))]) ∧ (LoopOK Try.prog .none p6o (T6o) ⟨⟨[(.bool false), (.int IntKind.i64 (a)), (.int IntKind.i64 (b)), (.int IntKind.i64 (e)), (.int IntKind.i64 ((2 : Int))), (.int IntKind.i64 ((↑n : Int))), (.int IntKind.i64 ((0 : Int))), (.int IntKind.i64 (p))], [⟨(n), (n)⟩, ⟨(n), (c)⟩]⟩, [(mvs n f), (ints n (planG k bs))]⟩ .ret (T6o) ⟨⟨[(.bool true), (.int IntKind.i64 (a)), (.int IntKind.i64 (b)), (.int IntKind.i64 (e)), (.int IntKind.i64 ((2 : Int))), (.int IntKind.i64 ((↑n : Int))), (.int IntKind.i64 ((↑i : Int))), (.int IntKind.i64 (p))], [⟨(n), (n)⟩, ⟨(n), (c)⟩]⟩, [(mvs n f), (ints n (planG k bs))]⟩) ∧ 
R (.ret (.bool true)))) ∧
((sure) = false → ((Atoms [(mvs n f), (ints n (planG k bs))]) ∧ (LoopOK Try.prog .none p6o (T6o) ⟨⟨[(.bool false), (.int IntKind.i64 (a)), (.int IntKind.i64 (b)), (.int IntKind.i64 (e)), (.int IntKind.i64 ((1 : Int))), (.int IntKind.i64 ((↑n : Int))), (.int IntKind.i64 ((0 : Int))), (.int IntKind.i64 (p))], [⟨(n), (n)⟩, ⟨(n), (c)⟩]⟩, [(mvs n f), (ints n (planG k bs))]⟩ .ret (T6o) ⟨⟨[(.bool true), (.int IntKind.i64 (a)), (.int IntKind.i64 (b)), (.int IntKind.i64 (e)), (.int IntKind.i64 ((1 : Int))), (.int IntKind.i64 ((↑n : Int))), (.int IntKind.i64 ((↑i : Int))), (.int IntKind.i64 (p))], [⟨(n), (n)⟩, ⟨(n), (c)⟩]⟩, [(mvs n f), (ints n (planG k bs))]⟩) ∧ 
R (.ret (.bool true))))))))))))) := by kernel_rfl

theorem f6x (p : Int) (sure : Bool) (n c k d : Nat) (f : Nat → Mv) (bs : Nat → Int) (R : ARes → Prop)  : (vx.call 6 [hV p n c, .bool sure, slV 1 k d] (retK R) (m2b (mvs n f) (u8s k bs)) ([(17, .split ((7, Hint.con C12) :: []) ((4, Hint.con ((C21 p n c f).when (ARes.ret (Value.bool false)))) :: (4, Hint.con C12) :: []))])) =
((((decide ((if (↑(0 : Nat) : Int) > (↑n : Int) then (↑(0 : Nat) : Int) else (↑n : Int)) > (40 : Int))) = true → ((ConOK Try.prog ((12 : Nat)) (C12)) ∧ (Con.pre (C12) ⟨⟨[], []⟩, []⟩) ∧ 
R (.ret (.bool true)))) ∧
((decide ((if (↑(0 : Nat) : Int) > (↑n : Int) then (↑(0 : Nat) : Int) else (↑n : Int)) > (40 : Int))) = false → ((ConOK Try.prog ((21 : Nat)) ((C21 p n c f).when (ARes.ret (Value.bool false)))) ∧ (Con.pre ((C21 p n c f).when (ARes.ret (Value.bool false))) ⟨⟨[(.int IntKind.i64 (p))], [⟨(n), (c)⟩]⟩, [(mvs n f)]⟩) ∧ 
((ConOK Try.prog ((12 : Nat)) (C12)) ∧ (Con.pre (C12) ⟨⟨[], []⟩, []⟩) ∧ 
R (.ret (.bool true))))))) := by kernel_rfl

section
variable {p : Int} {n c : Nat} {f : Nat → Mv} {g : Nat → Int}
theorem loop6i (hok : okH p n f = true) (sure : Bool) {r : Bool} {a b e : Int} {i : Nat} (hi : i < n) (fact : ∀ j, rowS g (ordF sure p n f n) n i = some j → e = 0 ∧ a = i ∧ b = j) :
    match rowS g (ordF sure p n f n) n i with
    | some m => LoopOK Try.prog none p6i T6i (h6i p n c f g r a b e (cond sure 2 1) i (i + 1)) .ret T6i (h6i p n c f g true a b e (cond sure 2 1) i m)
    | none => LoopOK Try.prog none p6i T6i (h6i p n c f g r a b e (cond sure 2 1) i (i + 1)) (.exit 2) T6i (h6i p n c f g r a b e (cond sure 2 1) i n) := by
  let out : Nat → AExit × Nat × Hx := fun j => match search (badB g (ordF sure p n f n) i) (n - j) j with
    | some m => (.ret, 0, h6i p n c f g true a b e (cond sure 2 1) i m)
    | none => (.exit 2, 0, h6i p n c f g r a b e (cond sure 2 1) i n)
  have hT : ∀ x, [T6i][(out x).2.1]? = some T6i := fun x => by simp only [out]; split <;> rfl
  have h := loop_vc (P := Try.prog) (ro := none) (p := p6i) (Ts := [T6i]) (k := 6) (X := Nat) (inv := fun j => j ≤ n ∧ search (badB g (ordF sure p n f n) i) (n - j) j = rowS g (ordF sure p n f n) n i) (μ := fun j => n - j) (st := fun j => (0, h6i p n c f g r a b e (cond sure 2 1) i j)) (out := out) rfl vx_sound
    (by intro T hT; simp only [List.mem_singleton] at hT; subst hT; rfl) (by rw [nglob]; omega) (fun j hj => by
      have step : j < n → out j = if badB g (ordF sure p n f n) i j then (.ret, 0, h6i p n c f g true a b e (cond sure 2 1) i j) else out (j + 1) := fun h => by
        have e : n - j = (n - (j + 1)) + 1 := by omega
        simp only [out, e, search]
        cases badB g (ordF sure p n f n) i j <;> simp
      have snext : j < n → badB g (ordF sure p n f n) i j = false → search (badB g (ordF sure p n f n) i) (n - (j + 1)) (j + 1) = rowS g (ordF sure p n f n) n i := fun h hb => by
        have e : n - j = (n - (j + 1)) + 1 := by omega
        have h2 := hj.2
        rw [e] at h2
        simp only [search, hb, Bool.false_eq_true, if_false] at h2
        exact h2
      have sbad : j < n → badB g (ordF sure p n f n) i j = true → rowS g (ordF sure p n f n) n i = some j := fun h hb => by
        have e : n - j = (n - (j + 1)) + 1 := by omega
        have h2 := hj.2
        rw [e] at h2
        simp only [search, hb, if_true] at h2
        exact h2.symm
      obtain ⟨hs, hr⟩ := round6i (c := c) (g := g) hok sure (r := r) (a := a) (b := b) (e := e) (j := j) hi (R := RoundR (fun j => j ≤ n ∧ search (badB g (ordF sure p n f n) i) (n - j) j = rowS g (ordF sure p n f n) n i) (fun j => n - j) (fun j => (0, h6i p n c f g r a b e (cond sure 2 1) i j)) out j)
        (fun h hb => fact j (sbad h hb))
        (fun h hb => ⟨⟨atoms6 n f g, trivial⟩, .inl ⟨rfl, j + 1, ⟨by omega, snext h hb⟩, by show n - (j + 1) < n - j; omega, rfl, by rw [step h, hb]; rfl⟩⟩)
        (fun h hb => ⟨⟨atoms6 n f g, trivial⟩, .inr ⟨by simp, by rw [step h, hb]; rfl⟩⟩)
        (fun h => ⟨⟨atoms6 n f g, trivial⟩, .inr ⟨by simp, by
          have e : j = n := by have := hj.1; omega
          subst e
          simp [out, search]⟩⟩)
      exact ⟨T6i, hs, rfl, hr⟩) (x := i + 1) ⟨by omega, rfl⟩ (T0 := T6i) (T1 := T6i) rfl (Nat.le_of_ble_eq_true rfl) (by decide) (hT _)
  simp only [out] at h
  rw [show search (badB g (ordF sure p n f n) i) (n - (i + 1)) (i + 1) = rowS g (ordF sure p n f n) n i from rfl] at h
  revert h
  cases rowS g (ordF sure p n f n) n i <;> exact id
noncomputable def h6o (p : Int) (n c : Nat) (f : Nat → Mv) (g : Nat → Int) (r : Bool) (a b e can : Int) (i : Nat) : Hx := ⟨⟨[.bool r, I a, I b, I e, I can, I n, I i, I p], [(n, n), (n, c)]⟩, [mvs n f, ints n g]⟩
theorem round6o (hok : okH p n f = true) (sure : Bool) {r : Bool} {a b e : Int} {i : Nat} {R : Nat → AExit → Hx → Prop} (fact : i < n → ∀ j, rowS g (ordF sure p n f n) n i = some j → e = 0 ∧ a = i ∧ b = j)
    (h1 : i < n → rowS g (ordF sure p n f n) n i = none → R 0 .normal (h6o p n c f g r a b e (cond sure 2 1) (i + 1)))
    (h2 : i < n → ∀ j, rowS g (ordF sure p n f n) n i = some j → R 0 .ret (h6o p n c f g true a b e (cond sure 2 1) i))
    (h3 : ¬ i < n → R 0 (.exit 0) (h6o p n c f g r a b e (cond sure 2 1) i)) : ∃ hs, vx.code none (.l p6o) (leafK [T6o] R) (T6o.inst (h6o p n c f g r a b e (cond sure 2 1) i)) hs := by
  have h7 := (okH_iff hok).n7
  by_cases hi : i < n
  · have hw : IntKind.i64.wrap ((i : Int) + 1) = ((i + 1 : Nat) : Int) := wrapI (by omega) (by omega)
    have hl := loop6i (c := c) (g := g) hok sure (r := r) hi (fact hi)
    cases hs : rowS g (ordF sure p n f n) n i with
    | none =>
      simp only [hs] at hl
      refine ⟨_, (b6on p a b e (cond sure 2 1) r i n c (mvs n f) (ints n g) R).mpr ⟨fun _ => ?_, fun h => h3 (by simpa using h)⟩⟩
      rw [hw]
      exact ⟨atoms6 n f g, hl, h1 hi hs⟩
    | some j =>
      simp only [hs] at hl
      refine ⟨_, (b6or p a b e (cond sure 2 1) r i j n c (mvs n f) (ints n g) R).mpr ⟨fun _ => ?_, fun h => h3 (by simpa using h)⟩⟩
      rw [hw]
      exact ⟨atoms6 n f g, hl, h2 hi j hs⟩
  · exact ⟨_, (b6on p a b e (cond sure 2 1) r i n c (mvs n f) (ints n g) R).mpr ⟨fun h => absurd (by simpa using h) hi, fun _ => h3 hi⟩⟩
theorem loop6o (hok : okH p n f = true) (sure : Bool) {r : Bool} {a b e : Int} (fact : ∀ m, pairS g (ordF sure p n f n) n n 0 = some m → e = 0 ∧ a = m.1 ∧ b = m.2) :
    match pairS g (ordF sure p n f n) n n 0 with
    | some m => LoopOK Try.prog none p6o T6o (h6o p n c f g r a b e (cond sure 2 1) 0) .ret T6o (h6o p n c f g true a b e (cond sure 2 1) m.1)
    | none => LoopOK Try.prog none p6o T6o (h6o p n c f g r a b e (cond sure 2 1) 0) (.exit 0) T6o (h6o p n c f g r a b e (cond sure 2 1) n) := by
  let out : Nat → AExit × Nat × Hx := fun j => match pairS g (ordF sure p n f n) n (n - j) j with
    | some m => (.ret, 0, h6o p n c f g true a b e (cond sure 2 1) m.1)
    | none => (.exit 0, 0, h6o p n c f g r a b e (cond sure 2 1) n)
  have hT : ∀ x, [T6o][(out x).2.1]? = some T6o := fun x => by simp only [out]; split <;> rfl
  have h := loop_vc (P := Try.prog) (ro := none) (p := p6o) (Ts := [T6o]) (k := 6) (X := Nat) (inv := fun j => j ≤ n ∧ pairS g (ordF sure p n f n) n (n - j) j = pairS g (ordF sure p n f n) n n 0) (μ := fun j => n - j) (st := fun j => (0, h6o p n c f g r a b e (cond sure 2 1) j)) (out := out) rfl vx_sound
    (by intro T hT; simp only [List.mem_singleton] at hT; subst hT; rfl) (by rw [nglob]; omega) (fun j hj => by
      have step : j < n → out j = match rowS g (ordF sure p n f n) n j with | some _ => (.ret, 0, h6o p n c f g true a b e (cond sure 2 1) j) | none => out (j + 1) := fun h => by
        have e : n - j = (n - (j + 1)) + 1 := by omega
        simp only [out, e, pairS]
        cases rowS g (ordF sure p n f n) n j <;> rfl
      have snext : j < n → rowS g (ordF sure p n f n) n j = none → pairS g (ordF sure p n f n) n (n - (j + 1)) (j + 1) = pairS g (ordF sure p n f n) n n 0 := fun h hb => by
        have e : n - j = (n - (j + 1)) + 1 := by omega
        have h2 := hj.2
        rw [e] at h2
        simp only [pairS, hb] at h2
        exact h2
      have sbad : j < n → ∀ m, rowS g (ordF sure p n f n) n j = some m → pairS g (ordF sure p n f n) n n 0 = some (j, m) := fun h m hb => by
        have e : n - j = (n - (j + 1)) + 1 := by omega
        have h2 := hj.2
        rw [e] at h2
        simp only [pairS, hb] at h2
        exact h2.symm
      obtain ⟨hs, hr⟩ := round6o (c := c) (g := g) hok sure (r := r) (a := a) (b := b) (e := e) (i := j) (R := RoundR (fun j => j ≤ n ∧ pairS g (ordF sure p n f n) n (n - j) j = pairS g (ordF sure p n f n) n n 0) (fun j => n - j) (fun j => (0, h6o p n c f g r a b e (cond sure 2 1) j)) out j)
        (fun h m hb => fact _ (sbad h m hb))
        (fun h hb => ⟨⟨atoms6 n f g, trivial⟩, .inl ⟨rfl, j + 1, ⟨by omega, snext h hb⟩, by show n - (j + 1) < n - j; omega, rfl, by rw [step h, hb]⟩⟩)
        (fun h m hb => ⟨⟨atoms6 n f g, trivial⟩, .inr ⟨by simp, by rw [step h, hb]⟩⟩)
        (fun h => ⟨⟨atoms6 n f g, trivial⟩, .inr ⟨by simp, by
          have e : j = n := by have := hj.1; omega
          subst e
          simp [out, pairS]⟩⟩)
      exact ⟨T6o, hs, rfl, hr⟩) (x := 0) ⟨by omega, rfl⟩ (T0 := T6o) (T1 := T6o) rfl (Nat.le_of_ble_eq_true rfl) (by decide) (hT _)
  simp only [out, Nat.sub_zero] at h
  revert h
  cases pairS g (ordF sure p n f n) n n 0 <;> exact id
end
end Go.Ab

/- the law HorseCheck: some moves, some numbers: it returns true. -/
set_option maxRecDepth 100000
namespace Go.Ab
open Go Go.RowKit Go.Proofs
theorem planG_ok {k : Nat} {b : Nat → Int} (hb : ∀ i, i < k → 0 ≤ b i ∧ b i < 256) (i : Nat) : okN (planG k b i) = true := by
  simp only [planG]
  by_cases hk : 0 < k
  · rw [if_pos hk]
    have e : (i : Int).tmod (k : Int) = ((i % k : Nat) : Int) := rfl
    have hlt := Nat.mod_lt i hk
    rw [e, Int.toNat_natCast]
    obtain ⟨h0, h1⟩ := hb _ hlt
    generalize b (i % k) = z at h0 h1
    rw [wrapI (by omega) (by omega)]
    obtain ⟨m, rfl⟩ := Int.eq_ofNat_of_zero_le h0
    have e2 : ((m : Nat) : Int).tmod 7 = ((m % 7 : Nat) : Int) := rfl
    have hm := Nat.mod_lt m (show 0 < 7 by omega)
    simp only [okN, Bool.and_eq_true, decide_eq_true_eq]
    rw [e2]
    omega
  · rw [if_neg hk]; rfl
theorem allFrom_true (q : Nat → Bool) (h : ∀ i, q i = true) : ∀ r m, allFrom q r m = true := by
  intro r
  induction r with
  | zero => intro m; rfl
  | succ r ih => intro m; simp only [allFrom, h, ih, Bool.and_self]
theorem plan_ok {n k : Nat} {b : Nat → Int} (hb : ∀ i, i < k → 0 ≤ b i ∧ b i < 256) : okP n n (planG k b) = true := by
  simp only [okP, bne_self_eq_false, Bool.not_false, Bool.true_and]
  exact allFrom_true _ (planG_ok hb) _ _
theorem law6 (p : Int) (sure : Bool) (n c k d : Nat) (f : Nat → Mv) (bs : Nat → Int) (h0 : 0 < n) (hn : n ≤ 1000000) (hb : ∀ i, i < k → 0 ≤ bs i ∧ bs i < 256) :
    ∃ hs, vx.call 6 [hV p n c, .bool sure, slV 1 k d] (retK fun r => r = .ret (.bool true)) (m2b (mvs n f) (u8s k bs)) hs := by
  have hwhen : ∀ r, ConOK Try.prog 21 ((C21 p n c f).when r) := fun r => con_when (C21_ok p n c f hn) r
  cases hok : okH p n f with
  | false =>
    have hr : (C21 p n c f).res ⟨⟨[I p], [(n, c)]⟩, [mvs n f]⟩ = .ret (.bool false) := by show ARes.ret (.bool (okH p n f)) = _; rw [hok]
    exact ⟨_, (f6x p sure n c k d f bs _).mpr ⟨fun _ => ⟨C12_ok, rfl, rfl⟩, fun _ => ⟨hwhen _, ⟨rfl, hr⟩, C12_ok, rfl, rfl⟩⟩⟩
  | true =>
    have hr : (C21 p n c f).res ⟨⟨[I p], [(n, c)]⟩, [mvs n f]⟩ = .ret (.bool true) := by show ARes.ret (.bool (okH p n f)) = _; rw [hok]
    have h7 := (okH_iff hok).n7
    have hpl := plan_ok (n := n) hb
    have h16 : ∀ r, ConOK Try.prog 16 ((C16 sure p n c n n f (planG k bs)).when r) := fun r => con_when (C16_ok sure p n c n n f (planG k bs) hok hpl h7 h7) r
    have h13 := C13_ok p n c k d f bs h0 hn
    cases hs : pairS (planG k bs) (ordF sure p n f n) n n 0 with
    | none =>
      have hv : (C16 sure p n c n n f (planG k bs)).res ⟨⟨[I p, .bool sure], [(n, c), (n, n)]⟩, [mvs n f, ints n (planG k bs)]⟩ = .ret (.tuple ⟨[I 0, I 0, I 4]⟩) := by simp only [C16, checkV, hs]
      have hl := loop6o (c := c) (g := planG k bs) hok sure (r := false) (a := 0) (b := 0) (e := 4) (fun m hm => by rw [hs] at hm; cases hm)
      simp only [hs] at hl
      have key : ∀ R : ARes → Prop, R (.ret (.bool true)) → ∃ hs, vx.call 6 [hV p n c, .bool sure, slV 1 k d] (retK R) (m2b (mvs n f) (u8s k bs)) hs := by
        intro R hR
        refine ⟨_, (f6n p 0 0 4 sure n c k d f bs R).mpr ?_⟩
        cases sure
        · refine ⟨fun _ => ⟨C12_ok, rfl, hR⟩, fun _ => ⟨hwhen _, ⟨rfl, hr⟩, h13, rfl, fun h => (by cases h), fun _ => ⟨h16 _, ⟨rfl, hv⟩, fun h => (by cases h), fun _ => ⟨atoms6 n f _, hl, fun _ => ⟨fun _ => ⟨fun _ => ⟨C12_ok, rfl, hR⟩, fun h => (by simp at h)⟩, fun h => (by simp at h)⟩, fun h => (by simp at h)⟩⟩⟩⟩
        · refine ⟨fun _ => ⟨C12_ok, rfl, hR⟩, fun _ => ⟨hwhen _, ⟨rfl, hr⟩, h13, rfl, fun _ => ⟨h16 _, ⟨rfl, hv⟩, fun _ => ⟨atoms6 n f _, hl, fun _ => ⟨fun _ => ⟨fun _ => ⟨C12_ok, rfl, hR⟩, fun h => (by simp at h)⟩, fun h => (by simp at h)⟩, fun h => (by simp at h)⟩, fun h => (by cases h)⟩, fun h => (by cases h)⟩⟩
      exact key _ rfl
    | some m =>
      have hv : (C16 sure p n c n n f (planG k bs)).res ⟨⟨[I p, .bool sure], [(n, c), (n, n)]⟩, [mvs n f, ints n (planG k bs)]⟩ = .ret (.tuple ⟨[I m.1, I m.2, I 0]⟩) := by simp only [C16, checkV, hs]
      have hl := loop6o (c := c) (g := planG k bs) hok sure (r := false) (a := m.1) (b := m.2) (e := 0) (fun m' hm => by rw [hs] at hm; cases hm; exact ⟨rfl, rfl, rfl⟩)
      simp only [hs] at hl
      have key : ∀ R : ARes → Prop, R (.ret (.bool true)) → ∃ hs, vx.call 6 [hV p n c, .bool sure, slV 1 k d] (retK R) (m2b (mvs n f) (u8s k bs)) hs := by
        intro R hR
        refine ⟨_, (f6r p m.1 m.2 0 sure m.1 n c k d f bs R).mpr ?_⟩
        cases sure
        · refine ⟨fun _ => ⟨C12_ok, rfl, hR⟩, fun _ => ⟨hwhen _, ⟨rfl, hr⟩, h13, rfl, fun h => (by cases h), fun _ => ⟨h16 _, ⟨rfl, hv⟩, fun h => (by cases h), fun _ => ⟨atoms6 n f _, hl, hR⟩⟩⟩⟩
        · refine ⟨fun _ => ⟨C12_ok, rfl, hR⟩, fun _ => ⟨hwhen _, ⟨rfl, hr⟩, h13, rfl, fun _ => ⟨h16 _, ⟨rfl, hv⟩, fun _ => ⟨atoms6 n f _, hl, hR⟩, fun h => (by cases h)⟩, fun h => (by cases h)⟩⟩
      exact key _ rfl
end Go.Ab

/- the law's plans, without numbers. -/
set_option maxRecDepth 100000
namespace Go.Ab
open Go Go.RowKit Go.Proofs
noncomputable def st13n (n : Nat) (i : Nat) : Nat × Hx := if i = 0 then (0, ⟨⟨[I n, I (0 : Nat)], []⟩, []⟩) else (1, ⟨⟨[I n, I i], [(i, i)]⟩, [ints i (planG 0 fun _ => 0)]⟩)
theorem loop13n (n : Nat) (h0 : 0 < n) (hn : n ≤ 1000000) : LoopOK Try.prog none p13 N13a ⟨⟨[I n, I (0 : Nat)], []⟩, []⟩ (.exit 0) N13b ⟨⟨[I n, I n], [(n, n)]⟩, [ints n (planG 0 fun _ => 0)]⟩ := by
  have hat : ∀ i, Atoms [ints i (planG 0 fun _ => 0)] := fun i cs hcs => by
    simp only [List.mem_singleton] at hcs
    subst hcs
    exact ints_atom i _
  refine loop_vc (Ts := [N13a, N13b]) (k := 3) (X := Nat) (inv := fun i => i ≤ n) (μ := fun i => n - i) (st := st13n n) (out := fun _ => (.exit 0, 1, ⟨⟨[I n, I n], [(n, n)]⟩, [ints n (planG 0 fun _ => 0)]⟩)) rfl vx_sound (by simp [N13a, N13b]) (by rw [nglob]; omega) (fun i hi => ?_) (Nat.zero_le n) (x := 0) rfl (Nat.le_of_ble_eq_true rfl) (by decide) rfl
  have hw : i < n → IntKind.i64.wrap ((i : Int) + 1) = ((i + 1 : Nat) : Int) := fun _ => wrapI (by omega) (by omega)
  by_cases hz : i = 0
  · subst hz
    refine ⟨N13a, _, rfl, (n13a n 0 _).mpr ⟨fun h => ?_, fun h => ?_⟩⟩
    · refine ⟨⟨?_, trivial⟩, .inl ⟨rfl, 1, by omega, by show n - 1 < n - 0; omega, ?_, rfl⟩⟩
      · have h2 := hat 1
        exact h2
      · rw [hw h0]
        rfl
    · have : ¬ (0 : Nat) < n := by simpa using h
      omega
  · have hst : st13n n i = (1, ⟨⟨[I n, I i], [(i, i)]⟩, [ints i (planG 0 fun _ => 0)]⟩) := by simp only [st13n, if_neg hz]
    rw [hst]
    have hlen := ints_len i (planG 0 fun _ => 0)
    refine ⟨N13b, _, rfl, (n13b n i i (ints i (planG 0 fun _ => 0)) _).mpr ⟨fun h => ?_, fun h => ?_⟩⟩
    · have hi' : i < n := by simpa using h
      have e : ints (i + 1) (planG 0 fun _ => 0) = ints i (planG 0 fun _ => 0) ++ [I (Int.tmod 0 7)] := ints_succ i _
      have ht : List.take (i * 1) (ints i (planG 0 fun _ => 0)) = ints i (planG 0 fun _ => 0) := List.take_of_length_le (by rw [hlen]; omega)
      rw [hw hi', ht]
      have hnext : st13n n (i + 1) = (1, ⟨⟨[I n, I (i + 1 : Nat)], [(i + 1, i + 1)]⟩, [ints (i + 1) (planG 0 fun _ => 0)]⟩) := by simp only [st13n, if_neg (show ¬ i + 1 = 0 by omega)]
      have h2 := hat (i + 1)
      rw [e] at h2 hnext
      exact ⟨⟨by omega, by omega, by omega, by omega⟩, ⟨⟨h2, trivial⟩, .inl ⟨rfl, i + 1, by omega, by show n - (i + 1) < n - i; omega, hnext.trans rfl, rfl⟩⟩⟩
    · have e : i = n := by have : ¬ i < n := by simpa using h
                           omega
      subst e
      exact ⟨⟨hat i, trivial⟩, .inr ⟨by simp, rfl⟩⟩
noncomputable def C13n (p : Int) (n c : Nat) (f : Nat → Mv) : ConN where
  A := .agg (.hole (.slice 0 0 .nil)) (.val nilS .nil)
  bs := [.list 1 .ro]
  pre x := x = ⟨⟨[I p], [(n, c)]⟩, [mvs n f]⟩
  news _ := [(ints n (planG 0 fun _ => 0), 3)]
  one := true
  res _ := [.sl 0 n]
theorem C13n_ok (p : Int) (n c : Nat) (f : Nat → Mv) (h0 : 0 < n) (hn : n ≤ 1000000) : ConNOK Try.prog 13 (C13n p n c f) :=
  conRow_of rfl vx_sound (C := C13n p n c f) (n := n) (cells := ints n (planG 0 fun _ => 0)) (e := 3) ⟨⟨[I p], [(n, c)]⟩, [mvs n f]⟩ (fun x => Iff.rfl) rfl rfl rfl ⟨_, (n13 p n c (mvs n f) (ints n (planG 0 fun _ => 0)) _).mpr ⟨fun _ h => (by cases h), loop13n n h0 hn, rfl⟩⟩ (mvs_atoms n f) (ints_atom n _) rfl (Nat.le_of_ble_eq_true rfl) (by rw [nglob]; exact Nat.zero_le _)
noncomputable def m2n (ms : List Value) : Mem := ⟨fillX [.cells ms 1 .ro, .dead] 0 .nil, 2⟩
noncomputable def m2z (bs : List Value) : Mem := ⟨fillX [.dead, .cells bs 2 .ro] 0 .nil, 2⟩
noncomputable def m2d : Mem := ⟨fillX [.dead, .dead] 0 .nil, 2⟩
noncomputable def hN (p : Int) : Value := .agg ⟨[I p, nilS]⟩
end Go.Ab

