/- package surf: a truth, by no remainders: the list is nil. -/
import Derived.Test.YtoelpblmhmhglaaDoorPD
import Derived.Test.YtoelpblmhmhglaaDoorOR
import Derived.Test.YtoelpblmhmhglaaDoorOO
set_option maxRecDepth 100000
namespace Go.Ab
open Go Go.RowKit Go.Proofs
end Go.Ab
set_option maxRecDepth 100000
namespace Go.Ab
open Go Go.RowKit Go.Proofs
end Go.Ab
set_option maxRecDepth 100000
namespace Go.Ab
open Go Go.RowKit Go.Proofs
abbrev RoC := BInfo × Option (List Value × TypeId)
def rcX (x : RoC) : XB := match x.2 with
 | none => .dead
 | some q => .cells q.1 q.2 .ro
def RcHolds (W : World) (x : RoC) : Prop := ∀ q, x.2 = some q → ∃ c t fr, W.heap[x.1.blk]? = some (.cells c t fr) ∧ ∀ (j : Nat) v, q.1[j]? = some v → atomic v = true ∧ c[x.1.off + j]? = some v
noncomputable def wlM (l : List RoC) : Mem := ⟨fillX (l.map rcX) 0 .nil, l.length⟩
def wlN (l : List RoC) : NMap := fun i => (l[i]?).map (·.1)
theorem wlM_H (l : List RoC) (hl : l.length ≤ 1000000) (i : Nat) : (wlM l).H i = (l[i]?).map fun x => (rcX x).a := by
 simp only [wlM, Mem.H]
 rw [fillX_get _ (by rw [List.length_map]; omega)]
 rw [List.length_map]
 by_cases h : i < l.length
 · rw [if_pos (by omega)]
   simp only [Nat.sub_zero, List.getElem?_map]
   cases l[i]? <;> rfl
 · rw [if_neg (by omega), List.getElem?_eq_none (by omega)]
   rfl
theorem rcX_own (x : RoC) : (rcX x).a.own = false := by
 obtain ⟨f, q⟩ := x
 cases q with
 | none => rfl
 | some q => rfl
theorem rel_wl {W : World} {l : List RoC} (hl : l.length ≤ 1000000) (h : ∀ x ∈ l, RcHolds W x) (hg : ∀ g, g < Tryd.prog.globals.size → (l[g]?).map (·.1) = some ⟨g, 0, 0⟩) : Rel Tryd.prog (upTo W.heap.size) (wlN l) (wlM l).H W := by
 have one : ∀ x, RcHolds W x → BlkRel Tryd.prog (upTo W.heap.size) (wlN l) W (rcX x).a x.1 := by
  intro x hx
  obtain ⟨f, q⟩ := x
  cases q with
  | none => trivial
  | some q =>
   obtain ⟨c, t, fr, h1, h2⟩ := hx q rfl
   exact ⟨c, t, fr, h1, fun j v hj => ⟨v, (h2 j v hj).2, VRel.of_atomic (h2 j v hj).1⟩, fun hk => absurd rfl hk, fun _ => (Array.getElem?_eq_some_iff.1 h1).1, fun hk => (by cases hk)⟩
 refine ⟨?_, ?_, ⟨l.length, fun i hi => ⟨?_, ?_⟩⟩, fun _ h => h, hg, fun _ i hi => ?_⟩
 · intro i b f hb hf
   rw [wlM_H l hl] at hb
   simp only [wlN] at hf
   cases e : l[i]? with
   | none => rw [e] at hb; cases hb
   | some x =>
    rw [e] at hb hf
    cases hb; cases hf
    exact one x (h x (List.mem_of_getElem? e))
 · intro i j b c f g _ hb _ hob
   rw [wlM_H l hl] at hb
   cases e : l[i]? with
   | none => rw [e] at hb; cases hb
   | some x =>
    rw [e] at hb
    cases hb
    rw [rcX_own] at hob; cases hob
 · simp only [wlN]; rw [List.getElem?_eq_none hi]; rfl
 · rw [wlM_H l hl, List.getElem?_eq_none hi]; rfl
 · rw [wlM_H l hl] at hi
   simp only [wlN]
   cases e : l[i]? with
   | none => rfl
   | some x => rw [e] at hi; cases hi
theorem calls_wl {W : World} {l : List RoC} (hl : l.length ≤ 1000000) (h : ∀ x ∈ l, RcHolds W x) (hg : ∀ g, g < Tryd.prog.globals.size → (l[g]?).map (·.1) = some ⟨g, 0, 0⟩) {f : FuncId} {args args' : List Value} (ha : VsRel (wlN l) args args') {b : Bool} (hr : ∃ hs, vx.call f args (retK fun r => r = .ret (.bool b)) (wlM l) hs) :
    Calls Tryd.prog f ⟨args'⟩ W fun e W' => e = .returned (.bool b) ∧ Below W.heap.size W W' := by
 obtain ⟨hs, hr⟩ := hr
 have h2 := (vx_sound.call hr).2 (upTo W.heap.size) (wlN l) W args' (rel_wl hl h hg) ha 0
 refine callsIn_wide.1 (CallsIn.mono (h2 : CallsIn Fence.wide 0 Tryd.prog f ⟨args'⟩ W _) ?_)
 rintro e W' ⟨r, H', m', ⟨mm, hs', hk, _⟩, _, _, hb, hq⟩
 have hk : r = .ret (.bool b) := hk
 subst hk
 obtain ⟨v', rfl, hv⟩ := hq
 exact ⟨by rw [hv.eq_of_atomic rfl], hb.below⟩
def SlIn (W : World) (v : Value) (n : Nat) (cs : List Value) : Prop :=
 ∃ (F : BInfo) (c : Nat), RcHolds W (F, some (cs, 1)) ∧ ∀ (i : Nat) (m : NMap), m i = some F → VRel m (.slice (some ⟨i, 0, none⟩) n c) v
theorem SlIn.at {W : World} {b o n c : Nat} {cs : List Value} (hn : n ≤ c) (h : RcHolds W (⟨b, o, 0⟩, some (cs, 1))) : SlIn W (.slice (some ⟨b, o, none⟩) n c) n cs :=
 ⟨⟨b, o, 0⟩, c, h, fun i m hm => VsRel.slice (m := m) (i := i) (o := 0) (n := n) (c := c) (f := ⟨b, o, 0⟩) (a := ⟨b, o, none⟩) (l := []) (l' := []) hm hn (fun _ => rfl) .nil⟩
theorem SlIn.zero {W : World} {a : Addr} {blk : Nat} (h : ∃ c t fr, W.heap[blk]? = some (.cells c t fr)) : SlIn W (.slice (some a) 0 0) 0 [] := by
 obtain ⟨c, t, fr, hc⟩ := h
 refine ⟨⟨blk, 0, 0⟩, 0, fun q hq => ?_, fun i m hm => VsRel.slice (m := m) (i := i) (o := 0) (n := 0) (c := 0) (f := ⟨blk, 0, 0⟩) (a := a) (l := []) (l' := []) hm (Nat.le_refl _) (fun hp => absurd hp (by simp)) .nil⟩
 cases hq
 exact ⟨c, t, fr, hc, fun j v hj => by cases hj⟩
theorem holds_none {W : World} {x : RoC} (h : x.2 = none) : RcHolds W x := fun q hq => by rw [h] at hq; cases hq
end Go.Ab
