/- ABSTRACT MEMORY, 40: FROM A RECKONED CALL TO THE ROW: a world in which the package-level variables hold what they are laid with; what such a world gives to a call that was reckoned over them. -/
import Derived.Test.YthbeglfmgfaldaaGreatMI
import Derived.Lib.LaidTab
namespace Go.Ab
open Go Go.RowKit Go.Lib

theorem laidMet_tail {P : Program} {x : String × DataW Unit} {rest : List (String × DataW Unit)} {W : World} (h : laidMet P (x :: rest) W) : laidMet P rest W := by
  obtain ⟨ps, ⟨g, t, cs, fuel, p, q, hg, ht, hvar, hd, hrest, rfl⟩, hnd, hall⟩ := h
  refine ⟨q, hrest, (List.nodup_append.1 hnd).2.1, fun b off hm => hall b off (List.mem_append_right _ hm)⟩

/-- The names of the package-level variables stand for their blocks, and no other name stands for anything. -/
def mapG (P : Program) : NMap := fun i => if i < P.globals.size then some ⟨i, 0, 0⟩ else none

section
variable [PR] [TT] {P : Program}
/-- What the world must hold, for a call that was reckoned over canonical memory. -/
def Holds (e : Ent) (W : World) : Prop := ∀ (i : Nat) cs t, e.bs[i]? = some (some (cs, t)) → ∀ (j : Nat) v, cs[j]? = some v → atomic v = true ∧ W.cell? ⟨i, j, none⟩ = some v

theorem rel_of_holds {e : Ent} (h : EntOK P e) (hn : e.bs.length = P.globals.size) {W : World} (hW : ∀ i, i < P.globals.size → ∃ c t fr, W.heap[i]? = some (.cells c t fr)) (hh : Holds e W) : Rel P (upTo W.heap.size) (mapG P) e.mem.H W := by
  have lt : ∀ i, i < P.globals.size → i < W.heap.size := fun i hi => by
    obtain ⟨c, t, fr, hc⟩ := hW i hi
    exact (Array.getElem?_eq_some_iff.1 hc).1
  have kinds : ∀ i b, e.mem.H i = some b → i < P.globals.size ∧ (b = .dead ∨ ∃ cs t, e.bs[i]? = some (some (cs, t)) ∧ b = .cells cs t .ro) := by
    intro i b hb
    rw [Ent.mem_H h.small] at hb
    obtain ⟨x, hx, rfl⟩ := Option.map_eq_some_iff.1 hb
    refine ⟨hn ▸ (List.getElem?_eq_some_iff.1 hx).1, ?_⟩
    cases x with
    | none => exact .inl rfl
    | some y => exact .inr ⟨y.1, y.2, hx, rfl⟩
  refine ⟨?_, ?_, ⟨P.globals.size, fun i hi => ⟨?_, ?_⟩⟩, fun _ h => h, fun g hg => ?_, fun _ i hi => ?_⟩
  · intro i b f hb hf
    obtain ⟨hi, hk⟩ := kinds i b hb
    simp only [mapG, if_pos hi, Option.some.injEq] at hf
    subst hf
    rcases hk with rfl | ⟨cs, t, hx, rfl⟩
    · trivial
    · obtain ⟨c, t', fr, hc⟩ := hW i hi
      refine ⟨c, t', fr, hc, fun j v hj => ?_, fun hne => absurd rfl hne, fun _ => lt i hi, fun hne => by cases hne⟩
      obtain ⟨ha, hcell⟩ := hh i cs t hx j v hj
      refine ⟨v, ?_, VRel.of_atomic ha⟩
      simp only [World.cell?, hc] at hcell
      simpa using hcell
  · intro i j b c f g hij hb hc hob hoc
    obtain ⟨_, hk⟩ := kinds i b hb
    rcases hk with rfl | ⟨cs, t, hx, rfl⟩ <;> cases hob
  · simp only [mapG]; rw [if_neg (by omega)]
  · rw [Ent.mem_H h.small, List.getElem?_eq_none (by omega)]; rfl
  · simp only [mapG, if_pos hg]
  · simp only [mapG]
    rw [Ent.mem_H h.small] at hi
    rw [if_neg]
    intro hlt
    rw [List.getElem?_eq_getElem (by omega)] at hi
    cases hi

theorem calls_of_ent {e : Ent} (h : EntOK P e) (hn : e.bs.length = P.globals.size) {W : World} (hW : ∀ i, i < P.globals.size → ∃ c t fr, W.heap[i]? = some (.cells c t fr)) (hh : Holds e W)
    (ha : ∀ v ∈ e.args, atomic v = true) (hr : atomic e.r = true) : Calls P e.f ⟨e.args⟩ W fun x W' => x = .returned e.r ∧ Go.RowKit.Below W.heap.size W W' := by
  have := h.says (upTo W.heap.size) (mapG P) W e.args (rel_of_holds h hn hW hh) (VsRel.atoms ha) 0
  refine callsIn_wide.1 (CallsIn.mono (this : CallsIn Fence.wide 0 P e.f ⟨e.args⟩ W _) ?_)
  rintro x W' ⟨r, H', m', rfl, _, _, hb, v', rfl, hv⟩
  exact ⟨by rw [hv.eq_of_atomic hr], hb.below⟩
end
end Go.Ab

