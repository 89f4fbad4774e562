/- a world in which slices that only are read lie: what a run that was reckoned gives there. -/
import Derived.Test.YtamfplmmfbbabaaUY
set_option maxRecDepth 100000
namespace Go.Ab
open Go Go.RowKit Go.Proofs
abbrev RoB := BInfo × Option (List Value × TypeId)
def roX (x : RoB) : XB := match x.2 with
  | none => .dead
  | some (cs, e) => .cells cs e .ro
noncomputable def roM (x y : RoB) : Mem := ⟨fillX [roX x, roX y] 0 .nil, 2⟩
def RoHolds (W : World) (x : RoB) : Prop := match x.2 with
  | none => True
  | some (cs, _) => ∃ c t fr, W.heap[x.1.blk]? = some (.cells c t fr) ∧ ∀ (j : Nat) v, cs[j]? = some v → atomic v = true ∧ c[x.1.off + j]? = some v
def roN (x y : RoB) : NMap := fun i => if i = 0 then some x.1 else if i = 1 then some y.1 else none
theorem roM_H (x y : RoB) (i : Nat) : (roM x y).H i = if i = 0 then some (roX x).a else if i = 1 then some (roX y).a else none := by
  simp only [roM, Mem.H]
  rw [fillX_get _ (by simp)]
  match i with
  | 0 => rfl
  | 1 => rfl
  | n + 2 =>
    rw [if_neg (by simp only [List.length_cons, List.length_nil]; omega), if_neg (by omega), if_neg (by omega)]
    rfl
theorem rel_ro {W : World} {x y : RoB} (hx : RoHolds W x) (hy : RoHolds W y) : Rel Try.prog (upTo W.heap.size) (roN x y) (roM x y).H W := by
  have one : ∀ (z : RoB), RoHolds W z → BlkRel Try.prog (upTo W.heap.size) (roN x y) W (roX z).a z.1 := by
    intro z hz
    obtain ⟨f, q⟩ := z
    cases q with
    | none => trivial
    | some q =>
      obtain ⟨cs, e⟩ := q
      obtain ⟨c, t, fr, h1, h2⟩ := hz
      exact ⟨c, t, fr, h1, fun j v hj => ⟨v, (h2 j v hj).2, VRel.of_atomic (h2 j v hj).1⟩, fun hk => absurd rfl hk, fun _ => (Array.getElem?_eq_some_iff.1 h1).1, fun hk => (by cases hk)⟩
  have own : ∀ z : RoB, (roX z).a.own = false := fun z => by
    obtain ⟨f, q⟩ := z
    cases q with
    | none => rfl
    | some q => rfl
  refine ⟨?_, ?_, ⟨2, fun i hi => ⟨?_, ?_⟩⟩, fun _ h => h, fun g hg => ?_, fun _ i hi => ?_⟩
  · intro i b f hb hf
    rw [roM_H] at hb
    simp only [roN] at hf
    by_cases h0 : i = 0
    · rw [if_pos h0] at hb hf
      cases hb; cases hf
      exact one x hx
    · rw [if_neg h0] at hb hf
      by_cases h1 : i = 1
      · rw [if_pos h1] at hb hf
        cases hb; cases hf
        exact one y hy
      · rw [if_neg h1] at hb; cases hb
  · intro i j b c f g _ hb _ hob
    rw [roM_H] at hb
    by_cases h0 : i = 0
    · rw [if_pos h0] at hb; cases hb
      rw [own] at hob; cases hob
    · rw [if_neg h0] at hb
      by_cases h1 : i = 1
      · rw [if_pos h1] at hb; cases hb
        rw [own] at hob; cases hob
      · rw [if_neg h1] at hb; cases hb
  · simp only [roN]; rw [if_neg (by omega), if_neg (by omega)]
  · rw [roM_H, if_neg (by omega), if_neg (by omega)]
  · rw [nglob] at hg; omega
  · rw [roM_H] at hi
    simp only [roN]
    by_cases h0 : i = 0
    · rw [if_pos h0] at hi; cases hi
    · rw [if_neg h0] at hi ⊢
      by_cases h1 : i = 1
      · rw [if_pos h1] at hi; cases hi
      · rw [if_neg h1]
theorem calls_ro {W : World} {x y : RoB} (hx : RoHolds W x) (hy : RoHolds W y) {f : FuncId} {args args' : List Value} (ha : VsRel (roN x y) args args') {b : Bool} (h : ∃ hs, vx.call f args (retK fun r => r = .ret (.bool b)) (roM x y) hs) :
    Calls Try.prog f ⟨args'⟩ W fun e W' => e = .returned (.bool b) ∧ Below W.heap.size W W' := by
  obtain ⟨hs, h⟩ := h
  have h2 := (vx_sound.call h).2 (upTo W.heap.size) (roN x y) W args' (rel_ro hx hy) ha 0
  refine callsIn_wide.1 (CallsIn.mono (h2 : CallsIn Fence.wide 0 Try.prog f ⟨args'⟩ W _) ?_)
  rintro e W' ⟨r, H', m', ⟨mm, hs', hk, _⟩, _, _, hb, hq⟩
  have hk : r = .ret (.bool b) := hk
  subst hk
  obtain ⟨v', rfl, hv⟩ := hq
  exact ⟨by rw [hv.eq_of_atomic rfl], hb.below⟩
end Go.Ab
