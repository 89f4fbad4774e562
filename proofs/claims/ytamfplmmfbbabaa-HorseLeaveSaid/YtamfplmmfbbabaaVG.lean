/- a world in which a slice that only is read lies: what a run that was reckoned gives there. -/
import Derived.Test.YtamfplmmfbbabaaVF
import Derived.WalkKit
import Derived.ProofKit
import Derived.OpenShut
import Derived.Deep.Slices
import Derived.Deep.Strs
set_option maxRecDepth 100000
namespace Go.Ab
open Go Go.RowKit Go.Proofs
abbrev RoB := Option (BInfo × List Value × TypeId)
def roX : RoB → XB
  | none => .dead
  | some (_, cs, e) => .cells cs e .ro
noncomputable def roM (x : RoB) : Mem := ⟨fillX [roX x] 0 .nil, 1⟩
def RoHolds (W : World) : RoB → Prop
  | none => True
  | some (f, cs, _) => ∃ c t fr, W.heap[f.blk]? = some (.cells c t fr) ∧ ∀ (j : Nat) v, cs[j]? = some v → atomic v = true ∧ c[f.off + j]? = some v
def roN (x : RoB) : NMap := fun i => if i = 0 then some ((x.map (·.1)).getD ⟨0, 0, 0⟩) else none
theorem roM_H (x : RoB) (i : Nat) : (roM x).H i = if i = 0 then some (roX x).a else none := by
  simp only [roM, Mem.H]
  rw [fillX_get _ (by simp)]
  match i with
  | 0 => rfl
  | n + 1 =>
    rw [if_neg (by simp only [List.length_cons, List.length_nil]; omega), if_neg (by omega)]
    rfl
theorem rel_ro {W : World} {x : RoB} (hx : RoHolds W x) : Rel Try.prog (upTo W.heap.size) (roN x) (roM x).H W := by
  have one : ∀ (z : RoB) (f : BInfo), RoHolds W z → (z.map (·.1)).getD ⟨0, 0, 0⟩ = f → BlkRel Try.prog (upTo W.heap.size) (roN x) W (roX z).a f := by
    intro z f hz hf
    cases z with
    | none => trivial
    | some q =>
      obtain ⟨g, cs, e⟩ := q
      obtain ⟨c, t, fr, h1, h2⟩ := hz
      have hf : g = f := hf
      subst hf
      refine ⟨c, t, fr, h1, fun j v hj => ⟨v, (h2 j v hj).2, VRel.of_atomic (h2 j v hj).1⟩, fun hk => absurd rfl hk, fun _ => (Array.getElem?_eq_some_iff.1 h1).1, fun hk => (by cases hk)⟩
  have own : ∀ z : RoB, (roX z).a.own = false := fun z => by
    cases z with
    | none => rfl
    | some q => rfl
  refine ⟨?_, ?_, ⟨1, fun i hi => ⟨?_, ?_⟩⟩, fun _ h => h, fun g hg => ?_, fun _ i hi => ?_⟩
  · intro i b f hb hf
    rw [roM_H] at hb
    simp only [roN] at hf
    by_cases h0 : i = 0
    · rw [if_pos h0] at hb hf
      cases hb; cases hf
      exact one x _ hx rfl
    · rw [if_neg h0] at hb; cases hb
  · intro i j b c f g _ hb _ hob
    rw [roM_H] at hb
    by_cases h0 : i = 0
    · rw [if_pos h0] at hb; cases hb
      rw [own] at hob; cases hob
    · rw [if_neg h0] at hb; cases hb
  · simp only [roN]; rw [if_neg (by omega)]
  · rw [roM_H, if_neg (by omega)]
  · rw [nglob] at hg; omega
  · rw [roM_H] at hi
    simp only [roN]
    by_cases h0 : i = 0
    · rw [if_pos h0] at hi; cases hi
    · rw [if_neg h0]
theorem calls_ro {W : World} {x : RoB} (hx : RoHolds W x) {f : FuncId} {args args' : List Value} (ha : VsRel (roN x) args args') {b : Bool} (h : ∃ hs, vx.call f args (retK fun r => r = .ret (.bool b)) (roM x) hs) :
    Calls Try.prog f ⟨args'⟩ W fun e W' => e = .returned (.bool b) ∧ Below W.heap.size W W' := by
  obtain ⟨hs, h⟩ := h
  have h2 := (vx_sound.call h).2 (upTo W.heap.size) (roN x) W args' (rel_ro hx) ha 0
  refine callsIn_wide.1 (CallsIn.mono (h2 : CallsIn Fence.wide 0 Try.prog f ⟨args'⟩ W _) ?_)
  rintro e W' ⟨r, H', m', ⟨mm, hs', hk, _⟩, _, _, hb, hq⟩
  have hk : r = .ret (.bool b) := hk
  subst hk
  obtain ⟨v', rfl, hv⟩ := hq
  exact ⟨by rw [hv.eq_of_atomic rfl], hb.below⟩
end Go.Ab
set_option maxRecDepth 100000
namespace Go.Ab
open Go Go.RowKit Go.Proofs Go.ChangeShapes Go.WideShapes Go.Deep
theorem cells33 : Try.prog.cellsOf 33 = 4 := by kernel_rfl
theorem cells24 : Try.prog.cellsOf 24 = 2 := by kernel_rfl
theorem cell_block {W : World} {a : Addr} {i : Nat} {v : Value} (h : W.cell? (a.add i) = some v) : ∃ c t fr, W.heap[a.block]? = some (.cells c t fr) ∧ c[a.off + i]? = some v ∧ (i = 0 → a.spot = none) := by
  unfold World.cell? Addr.add at h
  by_cases h0 : i = 0
  · subst h0
    rw [if_pos rfl] at h
    split at h
    · rename_i c t fr hc
      split at h
      · cases h
      · rename_i hs
        exact ⟨c, t, fr, hc, h, fun _ => by cases hsp : a.spot with
          | none => rfl
          | some x => rw [hsp] at hs; exact absurd rfl hs⟩
    · cases h
  · rw [if_neg h0] at h
    split at h
    · rename_i c t fr hc
      exact ⟨c, t, fr, hc, h, fun h1 => absurd h1 h0⟩
    · cases h
theorem wf_u8 {n : Int} (h : (Lit.int .u8 n).wf = true) : 0 ≤ n ∧ n < 256 := by
  simp only [Lit.wf, Bool.and_eq_true, decide_eq_true_eq] at h
  have h1 : IntKind.min .u8 ≤ n := h.1
  have h2 : n ≤ IntKind.max .u8 := h.2
  have e1 : IntKind.min .u8 = 0 := by decide
  have e2 : IntKind.max .u8 = 255 := by decide
  omega
def SlAt (W : World) (v : Value) (n : Nat) (cs : List Value) (e : TypeId) : Prop :=
  ∃ (b o cap : Nat), v = .slice (some ⟨b, o, none⟩) n cap ∧ n ≤ cap ∧ RoHolds W (some (⟨b, o, 0⟩, cs, e))
section
variable {H : Type} {enc : TypeId × Value → H} {W : World}
theorem int_in {fuel : Nat} {cs : List Value} {x : DataW H × List MemPlace} (h : DataW.trod enc Try.prog W 0 (fun _ => true) true fuel 3 cs = some x) : ∃ z : Int, cs = [I z] := by
  obtain ⟨z, h1, _, _⟩ := DataW.trod_int Try.underlying3 h
  exact ⟨z, h1⟩
theorem move_in {fuel : Nat} {cs : List Value} {x : DataW H × List MemPlace} (h : DataW.trod enc Try.prog W 0 (fun _ => true) true fuel 33 cs = some x) : ∃ m : Mv, cs = mvV m := by
  obtain ⟨y0, y1, y2, n, _, hl, h0, h1, h2⟩ := trod_struct3 Try.underlying33 h
  rw [cells33] at hl
  match cs, hl with
  | [w0, w1, w2, w3], _ =>
    obtain ⟨a, ha⟩ := int_in h0
    obtain ⟨b, hb⟩ := int_in h1
    obtain ⟨z0, z1, k, _, _, k0, k1⟩ := trod_struct2 Try.underlying31 h2
    obtain ⟨c, hc⟩ := int_in k0
    obtain ⟨d, hd⟩ := int_in k1
    have ha : [w0] = [I a] := ha
    have hb : [w1] = [I b] := hb
    have hc : [w2] = [I c] := hc
    have hd : [w3] = [I d] := hd
    cases ha; cases hb; cases hc; cases hd
    exact ⟨⟨a, b, c, d⟩, rfl⟩
theorem moves_in {fuel : Nat} {v : Value} {x : DataW H × List MemPlace} (h : DataW.trod enc Try.prog W 0 (fun _ => true) true fuel 22 [v] = some x) :
    v = .slice none 0 0 ∨ (∃ a, v = .slice (some a) 0 0) ∨ ∃ (n : Nat) (f : Nat → Mv), SlAt W v n (mvs n f) 1 := by
  rcases open_slice Try.underlying22 h with ⟨h0, _⟩ | ⟨a, len, cap, m, n, D, Pl, hv, _, hl, _, hm, _, hx⟩
  · exact Or.inl (List.cons.inj h0).1
  right
  obtain rfl := (List.cons.inj hv).1
  have hm : m = cap := by simpa using hm
  subst hm
  rw [cells33] at hx
  rcases Nat.eq_zero_or_pos m with h0 | h0
  · subst h0
    obtain rfl : len = 0 := by omega
    exact Or.inl ⟨a, rfl⟩
  · right
    have each : ∀ i, i < m → ∃ z : Mv, ∀ j, j < 4 → W.cell? ((a.add (i * 4)).add j) = (mvV z)[j]? := by
      intro i hi
      obtain ⟨cs', h1, h2⟩ := hx i hi
      obtain ⟨z, rfl⟩ := move_in h2
      exact ⟨z, (World.cells?_some h1).2.2⟩
    haveI : Inhabited Mv := ⟨⟨0, 0, 0, 0⟩⟩
    obtain ⟨f, hf⟩ := choose_lt (α := Mv) each
    have cellOf : ∀ i j, i < m → j < 4 → W.cell? (a.add (i * 4 + j)) = (mvV (f i))[j]? := fun i j hi hj => by rw [← add_add]; exact hf i hi j hj
    obtain ⟨c, t, fr, hc, _, hsp⟩ := cell_block (show W.cell? (a.add 0) = some (I (f 0).at_) from cellOf 0 0 h0 (by omega))
    have hsp := hsp rfl
    refine ⟨len, f, a.block, a.off, m, ?_, hl, c, t, fr, hc, ?_⟩
    · obtain ⟨b, o, s⟩ := a
      cases hsp
      rfl
    · intro j v hj
      have hlen := flatC_len (n := len) (k := 4) (g := fun i => mvV (f i)) (fun _ _ => rfl)
      have hj : (flatC len fun i => mvV (f i))[j]? = some v := hj
      have hjl : j < len * 4 := by
        have := (List.getElem?_eq_some_iff.1 hj).1
        omega
      have hi : j / 4 < len := by omega
      have hr : j % 4 < 4 := by omega
      have e := flatC_get (n := len) (k := 4) (g := fun i => mvV (f i)) (fun _ _ => rfl) hi hr
      rw [show j / 4 * 4 + j % 4 = j by omega, hj] at e
      have e2 := cellOf (j / 4) (j % 4) (by omega) hr
      rw [show j / 4 * 4 + j % 4 = j by omega, ← e] at e2
      refine ⟨flatC_atomic (n := len) (g := fun i => mvV (f i)) (fun i _ w hw => ?_) v (List.mem_of_getElem? hj), ?_⟩
      · have hw : w ∈ [I (f i).at_, I (f i).place, I (f i).lo, I (f i).hi] := hw
        simp only [List.mem_cons, List.not_mem_nil, or_false] at hw
        rcases hw with rfl | rfl | rfl | rfl <;> rfl
      · obtain ⟨c', t', fr', hc', hv', _⟩ := cell_block e2
        rw [hc] at hc'
        cases hc'
        exact hv'
theorem horses_in {fuel : Nat} {cs : List Value} {x : DataW H × List MemPlace} (h : DataW.trod enc Try.prog W 0 (fun _ => true) true fuel 24 cs = some x) :
    ∃ (p : Int) (v : Value), cs = [I p, v] ∧ (v = .slice none 0 0 ∨ (∃ a, v = .slice (some a) 0 0) ∨ ∃ (n : Nat) (f : Nat → Mv), SlAt W v n (mvs n f) 1) := by
  obtain ⟨y0, y1, n, _, hl, h0, h1⟩ := trod_struct2 Try.underlying24 h
  rw [cells24] at hl
  match cs, hl with
  | [w0, w1], _ =>
    obtain ⟨p, hp⟩ := int_in h0
    have hp : [w0] = [I p] := hp
    cases hp
    exact ⟨p, w1, rfl, moves_in (show DataW.trod enc Try.prog W 0 (fun _ => true) true n 22 [w1] = some y1 from h1)⟩
end
section
variable {W : World}
theorem vs8 {x : RoB} {p : Int} {s : Bool} {b w : Int} {v v' : Value} (hv : VRel (roN x) v v') :
    VsRel (roN x) [.agg ⟨[I p, v]⟩, .bool s, .int .u8 b, .int .u8 w] [.agg ⟨[I p, v']⟩, .bool s, .int .u8 b, .int .u8 w] :=
  .agg (.atom rfl hv) (.atom rfl (.atom rfl (.atom rfl .nil)))
theorem v_none {x : RoB} : VRel (roN x) (.slice none 0 0) (.slice none 0 0) := .atom rfl .nil
theorem v_zero {x : RoB} {i : Nat} {a : Addr} {f : BInfo} (h : roN x i = some f) (he : f.extra = 0) : VRel (roN x) (.slice (some ⟨i, 0, none⟩) 0 0) (.slice (some a) 0 0) := by
  have := VsRel.slice (m := roN x) (i := i) (o := 0) (n := 0) (c := 0) (f := f) (a := a) (l := []) (l' := []) h (Nat.le_refl _) (fun hp => by omega) .nil
  rw [he] at this
  exact this
theorem v_at {x : RoB} {i b o n c : Nat} (h : roN x i = some ⟨b, o, 0⟩) (hn : n ≤ c) : VRel (roN x) (.slice (some ⟨i, 0, none⟩) n c) (.slice (some ⟨b, o, none⟩) n c) :=
  VsRel.slice (m := roN x) (i := i) (o := 0) (n := n) (c := c) (f := ⟨b, o, 0⟩) (a := ⟨b, o, none⟩) (l := []) (l' := []) h hn (fun _ => rfl) .nil
theorem run8 {p : Int} {s : Bool} {b w : Int} {v : Value}
    (hv : v = .slice none 0 0 ∨ (∃ a, v = .slice (some a) 0 0) ∨ ∃ (n : Nat) (f : Nat → Mv), SlAt W v n (mvs n f) 1) (hb : 0 ≤ b ∧ b < 256) (hw : 0 ≤ w ∧ w < 256) :
    Calls Try.prog 8 #[.agg #[I p, v], .bool s, .int .u8 b, .int .u8 w] W fun e W' => e = .returned (.bool true) ∧ Below W.heap.size W W' := by
  rcases hv with rfl | ⟨a, rfl⟩ | ⟨n, f, bb, o, c, rfl, hn, hx⟩
  · exact calls_ro (x := none) trivial (vs8 v_none) (law8n p w b s hw hb)
  · exact calls_ro (x := none) trivial (vs8 (v_zero (i := 0) rfl rfl)) (law8e p w b s hw hb)
  · exact calls_ro (x := some (⟨bb, o, 0⟩, mvs n f, 1)) hx (vs8 (v_at rfl hn)) (law8 p w b s n c f hw hb)
end
end Go.Ab
