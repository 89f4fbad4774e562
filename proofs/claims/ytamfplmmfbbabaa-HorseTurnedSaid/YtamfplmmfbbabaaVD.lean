/- The first plan: right, with as few horses as moves ask for; and no other one comes before it. -/
import Derived.Test.YtamfplmmfbbabaaVB
import Derived.Test.YtamfplmmfbbabaaVC
import Derived.Test.YtamfplmmfbbabaaUY
import Derived.Test.YtamfplmmfbbabaaVA
namespace Go.Ab
section
variable {can : Nat → Nat → Bool} {fits : Nat → Nat → Bool} {n many : Nat}
def Lk (can : Nat → Nat → Bool) (i j : Nat) : Prop := can i j = true ∨ can j i = true
theorem Lk.symm {i j : Nat} (h : Lk can i j) : Lk can j i := h.elim .inr .inl
structure Pl (can : Nat → Nat → Bool) (many m : Nat) (g : Nat → Nat) : Prop where
  lt : ∀ i, i < m → g i < many
  ok : ∀ i j, i < j → j < m → g i = g j → Lk can i j
def Rep (n m : Nat) (σ : Gs) : Prop := ∀ h k, k < n → ((σ.D h).testBit k = true ↔ k < m ∧ σ.P k = h)
theorem Rep.add {m h : Nat} (hm : m < n) {σ : Gs} (hr : Rep n m σ) : Rep n (m + 1) ⟨updN σ.D h (σ.D h ||| 2 ^ m), updN σ.P m h⟩ := by
  intro h' k hk
  simp only [updN]
  by_cases e : h' = h
  · subst e
    simp only [if_pos rfl, if_true, Nat.testBit_or, Nat.testBit_two_pow]
    by_cases ek : k = m
    · subst ek
      simp
    · have := hr h' k hk
      simp only [if_neg ek, Bool.or_eq_true, decide_eq_true_eq]
      constructor
      · rintro (h1 | h1)
        · exact ⟨by have := (this.1 h1).1; omega, (this.1 h1).2⟩
        · exact absurd h1.symm ek
      · rintro ⟨h1, h2⟩
        exact .inl (this.2 ⟨by omega, h2⟩)
  · have := hr h' k hk
    simp only [if_neg e]
    by_cases ek : k = m
    · subst ek
      simp only [if_true]
      constructor
      · intro h1; have := (this.1 h1).1; omega
      · rintro ⟨_, h2⟩; exact absurd h2.symm e
    · simp only [if_neg ek]
      constructor
      · intro h1; exact ⟨by have := (this.1 h1).1; omega, (this.1 h1).2⟩
      · rintro ⟨h1, h2⟩; exact this.2 ⟨by omega, h2⟩
end
end Go.Ab
set_option maxRecDepth 100000
namespace Go.Ab
open Go Go.RowKit Go.Proofs
noncomputable def natL (n : Nat) (g : Nat → Nat) : List Value := ints n fun i => (g i : Int)
noncomputable def C27 (sure : Bool) (p : Int) (n c k d : Nat) (f : Nat → Mv) (g : Nat → Nat) (v : Bool) : Con where
  A := .agg (.hole (.slice 0 0 .nil)) (.slice 1 0 (.hole .nil))
  bs := [.list 1 .ro, .list 3 .ro]
  pre x := x = ⟨⟨[I p, .bool sure], [(n, c), (k, d)]⟩, [mvs n f, natL k g]⟩
  res _ := .ret (.bool v)
noncomputable def C13q (p : Int) (n c k d : Nat) (f : Nat → Mv) (b : Nat → Int) (g : Nat → Nat) : ConN where
  A := .agg (.hole (.slice 0 0 .nil)) (.slice 1 0 .nil)
  bs := [.list 1 .ro, .list 2 .ro]
  pre x := x = ⟨⟨[I p], [(n, c), (k, d)]⟩, [mvs n f, u8s k b]⟩
  news _ := [(natL n g, 3)]
  one := true
  res _ := [.sl 0 n]
noncomputable def C13z (p : Int) (n c : Nat) (f : Nat → Mv) (g : Nat → Nat) : ConN where
  A := .agg (.hole (.slice 0 0 .nil)) (.val nilS .nil)
  bs := [.list 1 .ro]
  pre x := x = ⟨⟨[I p], [(n, c)]⟩, [mvs n f]⟩
  news _ := [(natL n g, 3)]
  one := true
  res _ := [.sl 0 n]
end Go.Ab
set_option maxRecDepth 100000
namespace Go.Ab
open Go Go.RowKit Go.Proofs
end Go.Ab
set_option maxRecDepth 100000
namespace Go.Ab
open Go Go.RowKit Go.Proofs
noncomputable def m3 (ms js : List Value) : Mem := ⟨fillX [.cells ms 1 .ro, .dead, .cells js 97 .row] 0 .nil, 3⟩
end Go.Ab
