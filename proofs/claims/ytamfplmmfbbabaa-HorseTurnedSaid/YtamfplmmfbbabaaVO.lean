/- the law HorseFewest: what it calls. -/
import Derived.Test.YtamfplmmfbbabaaVD
import Derived.Test.YtamfplmmfbbabaaVL
set_option maxRecDepth 100000
namespace Go.Ab
open Go Go.RowKit Go.Proofs
theorem f27t (p : Int) (n c k d : Nat) (f : Nat → Mv) (g : Nat → Int) (a b e : Int) (R : ARes → Prop) : (vx.call 27 [hV p n c, slV 1 k d, .bool true] (retK R) (m2 (mvs n f) (ints k g)) ((6, .con ((C16 true p n c k d f g).when (ARes.ret (Value.tuple { toList := [I a, I b, I e] })))) :: [(8, .split ([]) ([]))])) =
(((ConOK Try.prog 16 ((C16 true p n c k d f g).when (ARes.ret (Value.tuple { toList := [I a, I b, I e] })))) ∧ (Con.pre ((C16 true p n c k d f g).when (ARes.ret (Value.tuple { toList := [I a, I b, I e] }))) ⟨⟨[(I p), (.bool true)], [⟨n, c⟩, ⟨k, d⟩]⟩, [(mvs n f), (ints k g)]⟩) ∧
(((e == (4 : Int)) = true → R (.ret (.bool true))) ∧
((e == (4 : Int)) = false → R (.ret (.bool false)))))) := by kernel_rfl
theorem f27f (p : Int) (n c k d : Nat) (f : Nat → Mv) (g : Nat → Int) (a b e : Int) (R : ARes → Prop) : (vx.call 27 [hV p n c, slV 1 k d, .bool false] (retK R) (m2 (mvs n f) (ints k g)) ((6, .con ((C16 false p n c k d f g).when (ARes.ret (Value.tuple { toList := [I a, I b, I e] })))) :: [(8, .split ([]) ([]))])) =
(((ConOK Try.prog 16 ((C16 false p n c k d f g).when (ARes.ret (Value.tuple { toList := [I a, I b, I e] })))) ∧ (Con.pre ((C16 false p n c k d f g).when (ARes.ret (Value.tuple { toList := [I a, I b, I e] }))) ⟨⟨[(I p), (.bool false)], [⟨n, c⟩, ⟨k, d⟩]⟩, [(mvs n f), (ints k g)]⟩) ∧
(((e == (4 : Int)) = true → R (.ret (.bool true))) ∧
((e == (4 : Int)) = false → R (.ret (.bool false)))))) := by kernel_rfl
theorem natL_get {k : Nat} {g : Nat → Nat} {i : Nat} (h : i < k) : (natL k g)[0 + i * 1]? = some (I (g i)) := by
  exact ints_get (fun i => (g i : Int)) h
theorem natL_atom (k : Nat) (g : Nat → Nat) : ∀ v ∈ natL k g, atomic v = true := ints_atom k _
noncomputable def rightB (sure : Bool) (p : Int) (n k : Nat) (f : Nat → Mv) (g : Nat → Int) : Bool := (pairS g (ordF sure p n f n) k k 0).isNone
theorem C27_ok (sure : Bool) (p : Int) (n c k d : Nat) (f : Nat → Mv) (g : Nat → Nat) (hok : okH p n f = true) (hpl : okP n k (fun i => (g i : Int)) = true) (hn : n ≤ 7) (hk : k ≤ 7) : ConOK Try.prog 27 (C27 sure p n c k d f g (rightB sure p n k f fun i => (g i : Int))) := by
  have h16 : ∀ r, ConOK Try.prog 16 ((C16 sure p n c k d f fun i => (g i : Int)).when r) := fun r => con_when (C16_ok sure p n c k d f (fun i => (g i : Int)) hok hpl hn hk) r
  refine con_of vx_sound _ (fun x hx => ?_) rfl (fun x _ => rfl) (fun x hx => ?_) rfl (Nat.le_of_ble_eq_true rfl) (by rw [nglob]; exact Nat.zero_le _)
  · cases hx
    show ∃ hs, vx.call 27 [hV p n c, slV 1 k d, .bool sure] (retK fun r => r = .ret (.bool (rightB sure p n k f fun i => (g i : Int)))) (m2 (mvs n f) (natL k g)) hs
    cases hs : pairS (fun i => (g i : Int)) (ordF sure p n f n) k k 0 with
    | none =>
      have hv : (C16 sure p n c k d f fun i => (g i : Int)).res ⟨⟨[I p, .bool sure], [(n, c), (k, d)]⟩, [mvs n f, natL k g]⟩ = .ret (.tuple ⟨[I 0, I 0, I 4]⟩) := by simp only [C16, checkV, hs]
      have hb : rightB sure p n k f (fun i => (g i : Int)) = true := by simp only [rightB, hs]; rfl
      rw [hb]
      cases sure
      · exact ⟨_, (f27f p n c k d f (fun i => (g i : Int)) 0 0 4 _).mpr ⟨h16 _, ⟨rfl, hv⟩, fun _ => rfl, fun h => absurd h (by decide)⟩⟩
      · exact ⟨_, (f27t p n c k d f (fun i => (g i : Int)) 0 0 4 _).mpr ⟨h16 _, ⟨rfl, hv⟩, fun _ => rfl, fun h => absurd h (by decide)⟩⟩
    | some m =>
      have hv : (C16 sure p n c k d f fun i => (g i : Int)).res ⟨⟨[I p, .bool sure], [(n, c), (k, d)]⟩, [mvs n f, natL k g]⟩ = .ret (.tuple ⟨[I m.1, I m.2, I 0]⟩) := by simp only [C16, checkV, hs]
      have hb : rightB sure p n k f (fun i => (g i : Int)) = false := by simp only [rightB, hs]; rfl
      rw [hb]
      cases sure
      · exact ⟨_, (f27f p n c k d f (fun i => (g i : Int)) m.1 m.2 0 _).mpr ⟨h16 _, ⟨rfl, hv⟩, fun h => absurd h (by decide), fun _ => rfl⟩⟩
      · exact ⟨_, (f27t p n c k d f (fun i => (g i : Int)) m.1 m.2 0 _).mpr ⟨h16 _, ⟨rfl, hv⟩, fun h => absurd h (by decide), fun _ => rfl⟩⟩
  · cases hx
    intro cs hcs
    simp only [List.mem_cons, List.not_mem_nil, or_false] at hcs
    rcases hcs with rfl | rfl
    · exact mvs_atoms n f _ (by simp)
    · exact natL_atom k g
end Go.Ab
set_option maxRecDepth 100000
namespace Go.Ab
open Go Go.RowKit Go.Proofs
theorem allFrom_of {b : Nat → Bool} : ∀ r m, (∀ i, m ≤ i → i < m + r → b i = true) → allFrom b r m = true := by
  intro r
  induction r with
  | zero => intro m _; rfl
  | succ r ih =>
    intro m hm
    simp only [allFrom, hm m (by omega) (by omega), Bool.true_and]
    exact ih (m + 1) fun i h1 h2 => hm i (by omega) (by omega)
theorem search_no {b : Nat → Bool} : ∀ {r m : Nat}, search b r m = none ↔ ∀ i, m ≤ i → i < m + r → b i = false := by
  intro r
  induction r with
  | zero => intro m; exact ⟨fun _ i h1 h2 => by omega, fun _ => rfl⟩
  | succ r ih =>
    intro m
    simp only [search]
    cases hb : b m with
    | true =>
      simp only [if_true]
      exact ⟨fun h => (by cases h), fun h => by have := h m (by omega) (by omega); rw [hb] at this; cases this⟩
    | false =>
      simp only [Bool.false_eq_true, if_false]
      rw [ih]
      constructor
      · intro h i h1 h2
        by_cases e : i = m
        · subst e; exact hb
        · exact h i (by omega) (by omega)
      · intro h i h1 h2
        exact h i (by omega) (by omega)
theorem pairS_no {g o : Nat → Int} {k : Nat} : ∀ {r i : Nat}, pairS g o k r i = none ↔ ∀ a, i ≤ a → a < i + r → rowS g o k a = none := by
  intro r
  induction r with
  | zero => intro i; exact ⟨fun _ a h1 h2 => by omega, fun _ => rfl⟩
  | succ r ih =>
    intro i
    simp only [pairS]
    cases hb : rowS g o k i with
    | some j => exact ⟨fun h => (by cases h), fun h => by have := h i (by omega) (by omega); rw [hb] at this; cases this⟩
    | none =>
      rw [ih]
      constructor
      · intro h a h1 h2
        by_cases e : a = i
        · subst e; exact hb
        · exact h a (by omega) (by omega)
      · intro h a h1 h2
        exact h a (by omega) (by omega)
section
variable {p : Int} {n : Nat} {f : Nat → Mv} {sure : Bool}
theorem right_iff (h : HOK p n f) {g : Nat → Nat} : rightB sure p n n f (fun i => (g i : Int)) = true ↔ ∀ i j, i < j → j < n → g i = g j → Lk (canB sure p f) i j := by
  have bad : ∀ i j, i < n → j < n → (badB (fun i => (g i : Int)) (ordF sure p n f n) i j = false ↔ (g i = g j → Lk (canB sure p f) i j)) := fun i j hi hj => by
    simp only [badB, linkB, hasI_ord sure p f h.n7 hi hj, hasI_ord sure p f h.n7 hj hi, Lk]
    by_cases e : g i = g j
    · rw [e]
      cases canB sure p f i j <;> cases canB sure p f j i <;> simp
    · have h2 : ((g i : Int) == (g j : Int)) = false := beq_false_of_ne (by omega)
      rw [h2]
      simp [e]
  simp only [rightB, Option.isNone_iff_eq_none, pairS_no, rowS, search_no]
  constructor
  · intro hh i j hij hj
    exact (bad i j (by omega) hj).1 (hh i (by omega) (by omega) j (by omega) (by omega))
  · intro hh i _ hi j h1 h2
    exact (bad i j (by omega) (by omega)).2 (hh i j (by omega) (by omega))
theorem okP_nat {g : Nat → Nat} (hg : ∀ i, i < n → g i < 7) : okP n n (fun i => (g i : Int)) = true := by
  have h1 : ((n : Int) != (n : Int)) = false := bne_self_eq_false _
  simp only [okP, h1, Bool.not_false, Bool.true_and]
  refine allFrom_of n 0 fun i _ hi => ?_
  have := hg i (by omega)
  simp only [okN, Bool.and_eq_true, decide_eq_true_eq]
  omega
end
end Go.Ab
