/- a world in which slices that only are read lie: what a run that was reckoned gives there. -/
import Derived.Test.YthfhcnbpgagkdaaMX
import Derived.WalkKit
import Derived.ProofKit
import Derived.OpenShut
import Derived.Deep.Slices
import Derived.Deep.Strs
import Derived.Test.YthfhcnbpgagkdaaMY
import Derived.Test.YthfhcnbpgagkdaaMZ
import Derived.Test.YthfhcnbpgagkdaaNA
set_option maxRecDepth 100000
namespace Go.Ab
open Go Go.RowKit Go.Proofs
/-- Where a name's cells lie, and which they are. -/
abbrev RoB := Option (BInfo × List Value × TypeId)
def roX : RoB → XB
  | none => .dead
  | some (_, cs, e) => .cells cs e .ro
noncomputable def roM (x y : RoB) : Mem := ⟨fillX [roX x, roX y] 0 .nil, 2⟩
/-- What the world must hold. -/
def RoHolds (W : World) : RoB → Prop
  | none => True
  | some (f, cs, _) => ∃ c t fr, W.heap[f.blk]? = some (.cells c t fr) ∧ ∀ (j : Nat) v, cs[j]? = some v → atomic v = true ∧ c[f.off + j]? = some v
/-- The naming; where nothing lies any place will do. -/
def roN (x y : RoB) : NMap := fun i => if i = 0 then some ((x.map (·.1)).getD ⟨0, 0, 0⟩) else if i = 1 then some ((y.map (·.1)).getD ⟨0, 0, 0⟩) else none
theorem roM_H (x y : RoB) (i : Nat) : (roM x y).H i = if i = 0 then some (roX x).a else if i = 1 then some (roX y).a else none := by
  simp only [roM, Mem.H]
  rw [fillX_get _ (by simp)]
  match i with
  | 0 => rfl
  | 1 => rfl
  | n + 2 =>
    rw [if_neg (by simp only [List.length_cons, List.length_nil]; omega), if_neg (by omega), if_neg (by omega)]
    rfl
theorem rel_ro {W : World} {x y : RoB} (hx : RoHolds W x) (hy : RoHolds W y) : Rel Try.prog W.heap.size (roN x y) (roM x y).H W := by
  have one : ∀ (z : RoB) (f : BInfo), RoHolds W z → (z.map (·.1)).getD ⟨0, 0, 0⟩ = f → BlkRel Try.prog W.heap.size (roN x y) W (roX z).a f := by
    intro z f hz hf
    cases z with
    | none => trivial
    | some q =>
      obtain ⟨g, cs, e⟩ := q
      obtain ⟨c, t, fr, h1, h2⟩ := hz
      have hf : g = f := hf
      subst hf
      refine ⟨c, t, fr, h1, fun j v hj => ⟨v, (h2 j v hj).2, VRel.of_atomic (h2 j v hj).1⟩, fun hk => absurd rfl hk, fun _ => (Array.getElem?_eq_some_iff.1 h1).1, fun hk => (by cases hk)⟩
  have own : ∀ z : RoB, (roX z).a.own = false := fun z => by
    cases z with
    | none => rfl
    | some q => rfl
  refine ⟨?_, ?_, ⟨2, fun i hi => ⟨?_, ?_⟩⟩, Nat.le_refl _, fun g hg => ?_, fun _ i hi => ?_⟩
  · intro i b f hb hf
    rw [roM_H] at hb
    simp only [roN] at hf
    by_cases h0 : i = 0
    · rw [if_pos h0] at hb hf
      cases hb; cases hf
      exact one x _ hx rfl
    · rw [if_neg h0] at hb hf
      by_cases h1 : i = 1
      · rw [if_pos h1] at hb hf
        cases hb; cases hf
        exact one y _ hy rfl
      · rw [if_neg h1] at hb; cases hb
  · intro i j b c f g _ hb _ hob
    rw [roM_H] at hb
    by_cases h0 : i = 0
    · rw [if_pos h0] at hb; cases hb
      rw [own] at hob; cases hob
    · rw [if_neg h0] at hb
      by_cases h1 : i = 1
      · rw [if_pos h1] at hb; cases hb
        rw [own] at hob; cases hob
      · rw [if_neg h1] at hb; cases hb
  · simp only [roN]; rw [if_neg (by omega), if_neg (by omega)]
  · rw [roM_H, if_neg (by omega), if_neg (by omega)]
  · rw [nglob] at hg; omega
  · rw [roM_H] at hi
    simp only [roN]
    by_cases h0 : i = 0
    · rw [if_pos h0] at hi; cases hi
    · rw [if_neg h0] at hi ⊢
      by_cases h1 : i = 1
      · rw [if_pos h1] at hi; cases hi
      · rw [if_neg h1]
/-- A run that was reckoned, in such a world. -/
theorem calls_ro {W : World} {x y : RoB} (hx : RoHolds W x) (hy : RoHolds W y) {f : FuncId} {args args' : List Value} (ha : VsRel (roN x y) args args') {b : Bool} (h : ∃ hs, vx.call f args (retK fun r => r = .ret (.bool b)) (roM x y) hs) :
    Calls Try.prog f ⟨args'⟩ W fun e W' => e = .returned (.bool b) ∧ Below W.heap.size W W' := by
  obtain ⟨hs, h⟩ := h
  have h2 := (vx_sound.call h).2 W.heap.size (roN x y) W args' (rel_ro hx hy) ha 0
  refine callsIn_wide.1 (CallsIn.mono (h2 : CallsIn Fence.wide 0 Try.prog f ⟨args'⟩ W _) ?_)
  rintro e W' ⟨r, H', m', ⟨mm, hs', hk, _⟩, _, _, hb, hq⟩
  have hk : r = .ret (.bool b) := hk
  subst hk
  obtain ⟨v', rfl, hv⟩ := hq
  exact ⟨by rw [hv.eq_of_atomic rfl], hb⟩
end Go.Ab

/- what slices of bytes and of moves that a row hands in are, in a world; what the law's run gives for them. -/
set_option maxRecDepth 100000
namespace Go.Ab
open Go Go.RowKit Go.Proofs Go.ChangeShapes Go.WideShapes Go.Deep

theorem cells5 : Try.prog.cellsOf 5 = 1 := by kernel_rfl
theorem cells33 : Try.prog.cellsOf 33 = 4 := by kernel_rfl
theorem cells31 : Try.prog.cellsOf 31 = 2 := by kernel_rfl
theorem cells3 : Try.prog.cellsOf 3 = 1 := by kernel_rfl
theorem cells22 : Try.prog.cellsOf 22 = 1 := by kernel_rfl
theorem cells24 : Try.prog.cellsOf 24 = 2 := by kernel_rfl

/-- A cell that is read lies in a block of cells. -/
theorem cell_block {W : World} {a : Addr} {i : Nat} {v : Value} (h : W.cell? (a.add i) = some v) : ∃ c t fr, W.heap[a.block]? = some (.cells c t fr) ∧ c[a.off + i]? = some v ∧ (i = 0 → a.spot = none) := by
  unfold World.cell? Addr.add at h
  by_cases h0 : i = 0
  · subst h0
    rw [if_pos rfl] at h
    split at h
    · rename_i c t fr hc
      split at h
      · cases h
      · rename_i hs
        exact ⟨c, t, fr, hc, h, fun _ => by cases hsp : a.spot with
          | none => rfl
          | some x => rw [hsp] at hs; exact absurd rfl hs⟩
    · cases h
  · rw [if_neg h0] at h
    split at h
    · rename_i c t fr hc
      exact ⟨c, t, fr, hc, h, fun h1 => absurd h1 h0⟩
    · cases h

theorem wf_u8 {n : Int} (h : (Lit.int .u8 n).wf = true) : 0 ≤ n ∧ n < 256 := by
  simp only [Lit.wf, Bool.and_eq_true, decide_eq_true_eq] at h
  have h1 : IntKind.min .u8 ≤ n := h.1
  have h2 : n ≤ IntKind.max .u8 := h.2
  have e1 : IntKind.min .u8 = 0 := by decide
  have e2 : IntKind.max .u8 = 255 := by decide
  omega

/-- Where a slice that is not nil lies, and that its cells are these. -/
def SlAt (W : World) (v : Value) (n : Nat) (cs : List Value) (e : TypeId) : Prop :=
  ∃ (b o cap : Nat), v = .slice (some ⟨b, o, none⟩) n cap ∧ n ≤ cap ∧ RoHolds W (some (⟨b, o, 0⟩, cs, e))

section
variable {H : Type} {enc : TypeId × Value → H} {W : World}
/-- BYTES. -/
theorem bytes_in {fuel : Nat} {v : Value} {x : DataW H × List MemPlace} (h : DataW.trod enc Try.prog W 0 (fun _ => true) true fuel 25 [v] = some x) :
    v = .slice none 0 0 ∨ (∃ a, v = .slice (some a) 0 0) ∨ ∃ (n : Nat) (f : Nat → Int), (∀ i, i < n → 0 ≤ f i ∧ f i < 256) ∧ SlAt W v n (u8s n f) 2 := by
  rcases open_slice1 Try.underlying25 cells5 h with ⟨h0, _⟩ | ⟨a, len, cap, m, n, V, D, Pl, hv, _, hl, _, hm, _, hx⟩
  · exact Or.inl (List.cons.inj h0).1
  right
  obtain rfl := (List.cons.inj hv).1
  have hm : m = cap := by simpa using hm
  subst hm
  rcases Nat.eq_zero_or_pos m with h0 | h0
  · subst h0
    obtain rfl : len = 0 := by omega
    exact Or.inl ⟨a, rfl⟩
  · right
    have each : ∀ i, i < m → ∃ z : Int, V i = U8 z ∧ 0 ≤ z ∧ z < 256 := by
      intro i hi
      obtain ⟨z, h1, _, h3⟩ := DataW.trod_int Try.underlying5 (hx i hi).2
      exact ⟨z, (List.cons.inj h1).1, wf_u8 h3⟩
    obtain ⟨f, hf⟩ := choose_lt (α := Int) each
    obtain ⟨c, t, fr, hc, _, hsp⟩ := cell_block (hx 0 h0).1
    have hsp := hsp rfl
    refine ⟨len, f, fun i hi => (hf i (by omega)).2, a.block, a.off, m, ?_, hl, c, t, fr, hc, ?_⟩
    · obtain ⟨b, o, s⟩ := a
      cases hsp
      rfl
    · intro j v hj
      have hjl : j < len := by
        have := (List.getElem?_eq_some_iff.1 hj).1
        have e := flatC_len (n := len) (k := 1) (g := fun i => [U8 (f i)]) (fun _ _ => rfl)
        unfold u8s at this
        omega
      have e := flatC_get (n := len) (k := 1) (g := fun i => [U8 (f i)]) (fun _ _ => rfl) hjl (j := 0) (by omega)
      have hj : (flatC len fun i => [U8 (f i)])[j]? = some v := hj
      rw [show j * 1 + 0 = j by omega, hj] at e
      obtain rfl : v = U8 (f j) := Option.some.inj e
      refine ⟨rfl, ?_⟩
      obtain ⟨c', t', fr', hc', hv', _⟩ := cell_block (hx j (by omega)).1
      rw [hc] at hc'
      cases hc'
      rw [hv', (hf j (by omega)).1]

theorem int_in {fuel : Nat} {cs : List Value} {x : DataW H × List MemPlace} (h : DataW.trod enc Try.prog W 0 (fun _ => true) true fuel 3 cs = some x) : ∃ z : Int, cs = [I z] := by
  obtain ⟨z, h1, _, _⟩ := DataW.trod_int Try.underlying3 h
  exact ⟨z, h1⟩

theorem move_in {fuel : Nat} {cs : List Value} {x : DataW H × List MemPlace} (h : DataW.trod enc Try.prog W 0 (fun _ => true) true fuel 33 cs = some x) : ∃ m : Mv, cs = mvV m := by
  obtain ⟨y0, y1, y2, n, _, hl, h0, h1, h2⟩ := trod_struct3 Try.underlying33 h
  rw [cells33] at hl
  match cs, hl with
  | [w0, w1, w2, w3], _ =>
    obtain ⟨a, ha⟩ := int_in h0
    obtain ⟨b, hb⟩ := int_in h1
    obtain ⟨z0, z1, k, _, _, k0, k1⟩ := trod_struct2 Try.underlying31 h2
    obtain ⟨c, hc⟩ := int_in k0
    obtain ⟨d, hd⟩ := int_in k1
    have ha : [w0] = [I a] := ha
    have hb : [w1] = [I b] := hb
    have hc : [w2] = [I c] := hc
    have hd : [w3] = [I d] := hd
    cases ha; cases hb; cases hc; cases hd
    exact ⟨⟨a, b, c, d⟩, rfl⟩

/-- MOVES. -/
theorem moves_in {fuel : Nat} {v : Value} {x : DataW H × List MemPlace} (h : DataW.trod enc Try.prog W 0 (fun _ => true) true fuel 22 [v] = some x) :
    v = .slice none 0 0 ∨ (∃ a, v = .slice (some a) 0 0) ∨ ∃ (n : Nat) (f : Nat → Mv), SlAt W v n (mvs n f) 1 := by
  rcases open_slice Try.underlying22 h with ⟨h0, _⟩ | ⟨a, len, cap, m, n, D, Pl, hv, _, hl, _, hm, _, hx⟩
  · exact Or.inl (List.cons.inj h0).1
  right
  obtain rfl := (List.cons.inj hv).1
  have hm : m = cap := by simpa using hm
  subst hm
  rw [cells33] at hx
  rcases Nat.eq_zero_or_pos m with h0 | h0
  · subst h0
    obtain rfl : len = 0 := by omega
    exact Or.inl ⟨a, rfl⟩
  · right
    have each : ∀ i, i < m → ∃ z : Mv, ∀ j, j < 4 → W.cell? ((a.add (i * 4)).add j) = (mvV z)[j]? := by
      intro i hi
      obtain ⟨cs', h1, h2⟩ := hx i hi
      obtain ⟨z, rfl⟩ := move_in h2
      exact ⟨z, (World.cells?_some h1).2.2⟩
    haveI : Inhabited Mv := ⟨⟨0, 0, 0, 0⟩⟩
    obtain ⟨f, hf⟩ := choose_lt (α := Mv) each
    have cellOf : ∀ i j, i < m → j < 4 → W.cell? (a.add (i * 4 + j)) = (mvV (f i))[j]? := fun i j hi hj => by rw [← add_add]; exact hf i hi j hj
    obtain ⟨c, t, fr, hc, _, hsp⟩ := cell_block (show W.cell? (a.add 0) = some (I (f 0).at_) from cellOf 0 0 h0 (by omega))
    have hsp := hsp rfl
    refine ⟨len, f, a.block, a.off, m, ?_, hl, c, t, fr, hc, ?_⟩
    · obtain ⟨b, o, s⟩ := a
      cases hsp
      rfl
    · intro j v hj
      have hlen := flatC_len (n := len) (k := 4) (g := fun i => mvV (f i)) (fun _ _ => rfl)
      have hj : (flatC len fun i => mvV (f i))[j]? = some v := hj
      have hjl : j < len * 4 := by
        have := (List.getElem?_eq_some_iff.1 hj).1
        omega
      have hi : j / 4 < len := by omega
      have hr : j % 4 < 4 := by omega
      have e := flatC_get (n := len) (k := 4) (g := fun i => mvV (f i)) (fun _ _ => rfl) hi hr
      rw [show j / 4 * 4 + j % 4 = j by omega, hj] at e
      have e2 := cellOf (j / 4) (j % 4) (by omega) hr
      rw [show j / 4 * 4 + j % 4 = j by omega, ← e] at e2
      refine ⟨flatC_atomic (n := len) (g := fun i => mvV (f i)) (fun i _ w hw => ?_) v (List.mem_of_getElem? hj), ?_⟩
      · have hw : w ∈ [I (f i).at_, I (f i).place, I (f i).lo, I (f i).hi] := hw
        simp only [List.mem_cons, List.not_mem_nil, or_false] at hw
        rcases hw with rfl | rfl | rfl | rfl <;> rfl
      · obtain ⟨c', t', fr', hc', hv', _⟩ := cell_block e2
        rw [hc] at hc'
        cases hc'
        exact hv'

/-- WHAT A HORSES IS. -/
theorem horses_in {fuel : Nat} {cs : List Value} {x : DataW H × List MemPlace} (h : DataW.trod enc Try.prog W 0 (fun _ => true) true fuel 24 cs = some x) :
    ∃ (p : Int) (v : Value), cs = [I p, v] ∧ (v = .slice none 0 0 ∨ (∃ a, v = .slice (some a) 0 0) ∨ ∃ (n : Nat) (f : Nat → Mv), SlAt W v n (mvs n f) 1) := by
  obtain ⟨y0, y1, n, _, hl, h0, h1⟩ := trod_struct2 Try.underlying24 h
  rw [cells24] at hl
  match cs, hl with
  | [w0, w1], _ =>
    obtain ⟨p, hp⟩ := int_in h0
    have hp : [w0] = [I p] := hp
    cases hp
    exact ⟨p, w1, rfl, moves_in (show DataW.trod enc Try.prog W 0 (fun _ => true) true n 22 [w1] = some y1 from h1)⟩
end

end Go.Ab

/- a world in which three slices that only are read lie: what a run that was reckoned gives there. -/
set_option maxRecDepth 100000
namespace Go.Ab
open Go Go.RowKit Go.Proofs
/-- Where a name's cells lie, and which they are, if any are told. -/
abbrev RoC := BInfo × Option (List Value × TypeId)
def rcX (x : RoC) : XB := match x.2 with
  | none => .dead
  | some q => .cells q.1 q.2 .ro
noncomputable def rcM (x y z : RoC) : Mem := ⟨fillX [rcX x, rcX y, rcX z] 0 .nil, 3⟩
/-- What the world must hold. -/
def RcHolds (W : World) (x : RoC) : Prop := ∀ q, x.2 = some q → ∃ c t fr, W.heap[x.1.blk]? = some (.cells c t fr) ∧ ∀ (j : Nat) v, q.1[j]? = some v → atomic v = true ∧ c[x.1.off + j]? = some v
def rcN (x y z : RoC) : NMap := fun i => if i = 0 then some x.1 else if i = 1 then some y.1 else if i = 2 then some z.1 else none
theorem rcM_H (x y z : RoC) (i : Nat) : (rcM x y z).H i = if i = 0 then some (rcX x).a else if i = 1 then some (rcX y).a else if i = 2 then some (rcX z).a else none := by
  simp only [rcM, Mem.H]
  rw [fillX_get _ (by simp)]
  match i with
  | 0 => rfl
  | 1 => rfl
  | 2 => rfl
  | n + 3 =>
    rw [if_neg (by simp only [List.length_cons, List.length_nil]; omega), if_neg (by omega), if_neg (by omega), if_neg (by omega)]
    rfl
theorem rcX_own (x : RoC) : (rcX x).a.own = false := by
  obtain ⟨f, q⟩ := x
  cases q with
  | none => rfl
  | some q => rfl
theorem rel_rc {W : World} {x y z : RoC} (hx : RcHolds W x) (hy : RcHolds W y) (hz : RcHolds W z) : Rel Try.prog W.heap.size (rcN x y z) (rcM x y z).H W := by
  have one : ∀ u : RoC, RcHolds W u → BlkRel Try.prog W.heap.size (rcN x y z) W (rcX u).a u.1 := by
    intro u hu
    obtain ⟨f, q⟩ := u
    cases q with
    | none => trivial
    | some q =>
      obtain ⟨c, t, fr, h1, h2⟩ := hu q rfl
      exact ⟨c, t, fr, h1, fun j v hj => ⟨v, (h2 j v hj).2, VRel.of_atomic (h2 j v hj).1⟩, fun hk => absurd rfl hk, fun _ => (Array.getElem?_eq_some_iff.1 h1).1, fun hk => (by cases hk)⟩
  refine ⟨?_, ?_, ⟨3, fun i hi => ⟨?_, ?_⟩⟩, Nat.le_refl _, fun g hg => ?_, fun _ i hi => ?_⟩
  · intro i b f hb hf
    rw [rcM_H] at hb
    simp only [rcN] at hf
    by_cases h0 : i = 0
    · rw [if_pos h0] at hb hf
      cases hb; cases hf
      exact one x hx
    · rw [if_neg h0] at hb hf
      by_cases h1 : i = 1
      · rw [if_pos h1] at hb hf
        cases hb; cases hf
        exact one y hy
      · rw [if_neg h1] at hb hf
        by_cases h2 : i = 2
        · rw [if_pos h2] at hb hf
          cases hb; cases hf
          exact one z hz
        · rw [if_neg h2] at hb; cases hb
  · intro i j b c f g _ hb _ hob
    rw [rcM_H] at hb
    by_cases h0 : i = 0
    · rw [if_pos h0] at hb; cases hb
      rw [rcX_own] at hob; cases hob
    · rw [if_neg h0] at hb
      by_cases h1 : i = 1
      · rw [if_pos h1] at hb; cases hb
        rw [rcX_own] at hob; cases hob
      · rw [if_neg h1] at hb
        by_cases h2 : i = 2
        · rw [if_pos h2] at hb; cases hb
          rw [rcX_own] at hob; cases hob
        · rw [if_neg h2] at hb; cases hb
  · simp only [rcN]; rw [if_neg (by omega), if_neg (by omega), if_neg (by omega)]
  · rw [rcM_H, if_neg (by omega), if_neg (by omega), if_neg (by omega)]
  · rw [nglob] at hg; omega
  · rw [rcM_H] at hi
    simp only [rcN]
    by_cases h0 : i = 0
    · rw [if_pos h0] at hi; cases hi
    · rw [if_neg h0] at hi ⊢
      by_cases h1 : i = 1
      · rw [if_pos h1] at hi; cases hi
      · rw [if_neg h1] at hi ⊢
        by_cases h2 : i = 2
        · rw [if_pos h2] at hi; cases hi
        · rw [if_neg h2]
/-- A run that was reckoned, in such a world. -/
theorem calls_rc {W : World} {x y z : RoC} (hx : RcHolds W x) (hy : RcHolds W y) (hz : RcHolds W z) {f : FuncId} {args args' : List Value} (ha : VsRel (rcN x y z) args args') {b : Bool} (h : ∃ hs, vx.call f args (retK fun r => r = .ret (.bool b)) (rcM x y z) hs) :
    Calls Try.prog f ⟨args'⟩ W fun e W' => e = .returned (.bool b) ∧ Below W.heap.size W W' := by
  obtain ⟨hs, h⟩ := h
  have h2 := (vx_sound.call h).2 W.heap.size (rcN x y z) W args' (rel_rc hx hy hz) ha 0
  refine callsIn_wide.1 (CallsIn.mono (h2 : CallsIn Fence.wide 0 Try.prog f ⟨args'⟩ W _) ?_)
  rintro e W' ⟨r, H', m', ⟨mm, hs', hk, _⟩, _, _, hb, hq⟩
  have hk : r = .ret (.bool b) := hk
  subst hk
  obtain ⟨v', rfl, hv⟩ := hq
  exact ⟨by rw [hv.eq_of_atomic rfl], hb⟩
section
variable {W : World} {x y z : RoC}
theorem rc_none : VRel (rcN x y z) nilS (.slice none 0 0) := .atom rfl .nil
theorem rc_zero {i : Nat} {a : Addr} {f : BInfo} (h : rcN x y z i = some f) (he : f.extra = 0) : VRel (rcN x y z) (.slice (some ⟨i, 0, none⟩) 0 0) (.slice (some a) 0 0) := by
  have := VsRel.slice (m := rcN x y z) (i := i) (o := 0) (n := 0) (c := 0) (f := f) (a := a) (l := []) (l' := []) h (Nat.le_refl _) (fun hp => by omega) .nil
  rw [he] at this
  exact this
theorem rc_at {i b o n c : Nat} (h : rcN x y z i = some ⟨b, o, 0⟩) (hn : n ≤ c) : VRel (rcN x y z) (.slice (some ⟨i, 0, none⟩) n c) (.slice (some ⟨b, o, none⟩) n c) :=
  VsRel.slice (m := rcN x y z) (i := i) (o := 0) (n := n) (c := c) (f := ⟨b, o, 0⟩) (a := ⟨b, o, none⟩) (l := []) (l' := []) h hn (fun _ => rfl) .nil
/-- What a row hands in for bytes. -/
def BytesIn (W : World) (w : Value) : Prop := w = .slice none 0 0 ∨ (∃ a, w = .slice (some a) 0 0) ∨ ∃ (n : Nat) (f : Nat → Int), (∀ i, i < n → 0 ≤ f i ∧ f i < 256) ∧ SlAt W w n (u8s n f) 2
/-- Bytes of which nothing is read. -/
theorem any1 {w : Value} (hw : BytesIn W w) : ∃ (y : RoC) (w0 : Value), y.2 = none ∧ ∀ x z, VRel (rcN x y z) w0 w := by
  rcases hw with rfl | ⟨a, rfl⟩ | ⟨n, f, _, b, o, c, rfl, hn, _⟩
  · exact ⟨(⟨0, 0, 0⟩, none), nilS, rfl, fun _ _ => rc_none⟩
  · exact ⟨(⟨0, 0, 0⟩, none), slV 1 0 0, rfl, fun _ _ => rc_zero (i := 1) rfl rfl⟩
  · exact ⟨(⟨b, o, 0⟩, none), slV 1 n c, rfl, fun _ _ => rc_at (i := 1) rfl hn⟩
theorem any2 {w : Value} (hw : BytesIn W w) : ∃ (z : RoC) (w0 : Value), z.2 = none ∧ ∀ x y, VRel (rcN x y z) w0 w := by
  rcases hw with rfl | ⟨a, rfl⟩ | ⟨n, f, _, b, o, c, rfl, hn, _⟩
  · exact ⟨(⟨0, 0, 0⟩, none), nilS, rfl, fun _ _ => rc_none⟩
  · exact ⟨(⟨0, 0, 0⟩, none), slV 2 0 0, rfl, fun _ _ => rc_zero (i := 2) rfl rfl⟩
  · exact ⟨(⟨b, o, 0⟩, none), slV 2 n c, rfl, fun _ _ => rc_at (i := 2) rfl hn⟩
/-- Bytes that are read, where some cells lie. -/
theorem some1 {w : Value} {F : BInfo} {cs : List Value} {e : TypeId} (hF : F.extra = 0) (hx : RcHolds W (F, some (cs, e))) (hw : BytesIn W w) :
    (∀ x y z, VRel (rcN x y z) nilS w) ∨ ∃ (G : BInfo) (k d : Nat) (g : Nat → Int), (∀ i, i < k → 0 ≤ g i ∧ g i < 256) ∧ RcHolds W (G, some (u8s k g, 2)) ∧ (∀ x z q, VRel (rcN x (G, q) z) (slV 1 k d) w) ∧ ∀ x y q, VRel (rcN x y (G, q)) (slV 2 k d) w := by
  rcases hw with rfl | ⟨a, rfl⟩ | ⟨n, f, hf, b, o, c, rfl, hn, hy⟩
  · exact Or.inl fun _ _ _ => rc_none
  · refine Or.inr ⟨F, 0, 0, fun _ => 0, fun i hi => absurd hi (Nat.not_lt_zero i), fun q hq => ?_, fun _ _ _ => rc_zero (i := 1) rfl hF, fun _ _ _ => rc_zero (i := 2) rfl hF⟩
    obtain ⟨c, t, fr, h1, _⟩ := hx _ rfl
    cases hq
    exact ⟨c, t, fr, h1, fun j v hj => by cases hj⟩
  · refine Or.inr ⟨⟨b, o, 0⟩, n, c, f, hf, fun q hq => ?_, fun _ _ _ => rc_at (i := 1) rfl hn, fun _ _ _ => rc_at (i := 2) rfl hn⟩
    cases hq
    exact hy
end
end Go.Ab

/- no moves: what is told, and what is refused. -/
set_option maxRecDepth 100000
namespace Go.Ab
open Go Go.RowKit Go.Proofs
noncomputable def md1 : Mem := ⟨fillX [.dead] 0 .nil, 1⟩
noncomputable def md0 : Mem := ⟨.nil, 0⟩
noncomputable def md2 (v : Int) : Mem := ⟨fillX [.dead, .cells [I v] 3 .ro] 0 .nil, 2⟩
noncomputable def mdr (v : Int) : Mem := ⟨fillX [.cells [I v] 3 .ro] 0 .nil, 1⟩
noncomputable def K0 (A : TL) (bs : List TB) (x0 : Hx) (r : Value) : Con := ⟨A, bs, fun x => x = x0, fun _ => .ret r⟩
theorem K0_ok {g : FuncId} {A : TL} {bs : List TB} {x0 : Hx} {r : Value} (h : ∃ hs, vx.call g ((K0 A bs x0 r).args x0) (retK fun r' => r' = .ret r) ((K0 A bs x0 r).mem x0) hs) (hc : cl 50 r = true) (ha : Atoms x0.ls) (hr : allRo bs = true) (hs : bs.length ≤ 1000000) : ConOK Try.prog g (K0 A bs x0 r) :=
  con_of vx_sound x0 (fun x hx => by cases hx; exact h) rfl (fun _ _ => hc) (fun x hx => by cases hx; exact ha) hr hs (by rw [nglob]; exact Nat.zero_le _)
theorem at0 : Atoms [] := fun cs h => by cases h
theorem at1 (v : Int) : Atoms [[I v]] := fun cs h => by
  simp only [List.mem_singleton] at h
  subst h
  intro u hu
  simp only [List.mem_singleton] at hu
  subst hu
  rfl
theorem q21s (p : Int) (c : Nat) (R : ARes → Prop)  : (vx.call 21 [hV p 0 c] (retK R) md1 ([(9, .split ([(3, .split ([]) ([]))]) ([]))])) =
((((decide ((0 : Int) ≤ p)) = true → (((decide (p ≤ (3 : Int))) = true → R (.ret (.bool true))) ∧
((decide (p ≤ (3 : Int))) = false → R (.ret (.bool false))))) ∧
((decide ((0 : Int) ≤ p)) = false → R (.ret (.bool false))))) := by kernel_rfl

theorem q15s (p : Int) (c : Nat) (R : ARes → Prop)  : (vx.call 15 [hV p 0 c, nilS] (retK R) md1 ([(28, .split ([(3, .split ((135, Hint.again) :: []) ([]))]) ([]))])) =
((((decide ((0 : Int) ≤ p)) = true → (((decide (p ≤ (3 : Int))) = true → ((((((2 : Nat) ≤ (2 : Nat))) ∧ (((.agg ⟨[(.int IntKind.i64 (p)), (.slice (.some ⟨((0 : Nat)), ((0 : Nat)), .none⟩) ((0 : Nat)) (c))]⟩) : Value) = (.agg ⟨[(.int IntKind.i64 (p)), (.slice (.some ⟨((0 : Nat)), ((0 : Nat)), .none⟩) ((0 : Nat)) (c))]⟩))) ∧ (True)) ∧ 
R (.ret (.tuple ⟨[(.slice .none ((0 : Nat)) ((0 : Nat))), (.int IntKind.i64 ((0 : Int)))]⟩)))) ∧
((decide (p ≤ (3 : Int))) = false → R (.ret (.tuple ⟨[(.slice .none ((0 : Nat)) ((0 : Nat))), (.int IntKind.i64 ((1 : Int)))]⟩))))) ∧
((decide ((0 : Int) ≤ p)) = false → R (.ret (.tuple ⟨[(.slice .none ((0 : Nat)) ((0 : Nat))), (.int IntKind.i64 ((1 : Int)))]⟩))))) := by kernel_rfl

theorem q19s (p : Int) (c : Nat) (v : Int) (R : ARes → Prop)  : (vx.call 19 [hV p 0 c, I v] (retK R) md1 ([(28, .split ([(3, .split ([(35, .split ([(3, .split ((29, Hint.again) :: []) ([]))]) ([]))]) ([]))]) ([]))])) =
((((decide ((0 : Int) ≤ p)) = true → (((decide (p ≤ (3 : Int))) = true → (((decide ((0 : Int) ≤ v)) = true → (((decide (v ≤ (220 : Int))) = true → (((((some (.int IntKind.i64 (v)) : Option Value) = some (.int IntKind.i64 (v)))) ∧ (((((2 : Nat) ≤ (2 : Nat))) ∧ (((.agg ⟨[(.int IntKind.i64 (p)), (.slice (.some ⟨((0 : Nat)), ((0 : Nat)), .none⟩) ((0 : Nat)) (c))]⟩) : Value) = (.agg ⟨[(.int IntKind.i64 (p)), (.slice (.some ⟨((0 : Nat)), ((0 : Nat)), .none⟩) ((0 : Nat)) (c))]⟩))) ∧ (True))) ∧ 
R (.ret (.tuple ⟨[(.agg ⟨[(.int IntKind.i64 ((0 : Int))), (.int IntKind.i64 ((0 : Int)))]⟩), (.int IntKind.i64 ((0 : Int)))]⟩)))) ∧
((decide (v ≤ (220 : Int))) = false → R (.ret (.tuple ⟨[(.agg ⟨[(.int IntKind.i64 ((0 : Int))), (.int IntKind.i64 ((0 : Int)))]⟩), (.int IntKind.i64 ((2 : Int)))]⟩))))) ∧
((decide ((0 : Int) ≤ v)) = false → R (.ret (.tuple ⟨[(.agg ⟨[(.int IntKind.i64 ((0 : Int))), (.int IntKind.i64 ((0 : Int)))]⟩), (.int IntKind.i64 ((2 : Int)))]⟩))))) ∧
((decide (p ≤ (3 : Int))) = false → R (.ret (.tuple ⟨[(.agg ⟨[(.int IntKind.i64 ((0 : Int))), (.int IntKind.i64 ((0 : Int)))]⟩), (.int IntKind.i64 ((1 : Int)))]⟩))))) ∧
((decide ((0 : Int) ≤ p)) = false → R (.ret (.tuple ⟨[(.agg ⟨[(.int IntKind.i64 ((0 : Int))), (.int IntKind.i64 ((0 : Int)))]⟩), (.int IntKind.i64 ((1 : Int)))]⟩))))) := by kernel_rfl

theorem q21n (p : Int) (R : ARes → Prop)  : (vx.call 21 [hN p] (retK R) md0 ([(9, .split ([(3, .split ([]) ([]))]) ([]))])) =
((((decide ((0 : Int) ≤ p)) = true → (((decide (p ≤ (3 : Int))) = true → R (.ret (.bool true))) ∧
((decide (p ≤ (3 : Int))) = false → R (.ret (.bool false))))) ∧
((decide ((0 : Int) ≤ p)) = false → R (.ret (.bool false))))) := by kernel_rfl

theorem q15n (p : Int) (R : ARes → Prop)  : (vx.call 15 [hN p, nilS] (retK R) md0 ([(28, .split ([(3, .split ((135, Hint.again) :: []) ([]))]) ([]))])) =
((((decide ((0 : Int) ≤ p)) = true → (((decide (p ≤ (3 : Int))) = true → ((((((2 : Nat) ≤ (2 : Nat))) ∧ (((.agg ⟨[(.int IntKind.i64 (p)), (.slice .none ((0 : Nat)) ((0 : Nat)))]⟩) : Value) = (.agg ⟨[(.int IntKind.i64 (p)), (.slice .none ((0 : Nat)) ((0 : Nat)))]⟩))) ∧ (True)) ∧ 
R (.ret (.tuple ⟨[(.slice .none ((0 : Nat)) ((0 : Nat))), (.int IntKind.i64 ((0 : Int)))]⟩)))) ∧
((decide (p ≤ (3 : Int))) = false → R (.ret (.tuple ⟨[(.slice .none ((0 : Nat)) ((0 : Nat))), (.int IntKind.i64 ((1 : Int)))]⟩))))) ∧
((decide ((0 : Int) ≤ p)) = false → R (.ret (.tuple ⟨[(.slice .none ((0 : Nat)) ((0 : Nat))), (.int IntKind.i64 ((1 : Int)))]⟩))))) := by kernel_rfl

theorem q19n (p : Int) (v : Int) (R : ARes → Prop)  : (vx.call 19 [hN p, I v] (retK R) md0 ([(28, .split ([(3, .split ([(35, .split ([(3, .split ((29, Hint.again) :: []) ([]))]) ([]))]) ([]))]) ([]))])) =
((((decide ((0 : Int) ≤ p)) = true → (((decide (p ≤ (3 : Int))) = true → (((decide ((0 : Int) ≤ v)) = true → (((decide (v ≤ (220 : Int))) = true → (((((some (.int IntKind.i64 (v)) : Option Value) = some (.int IntKind.i64 (v)))) ∧ (((((2 : Nat) ≤ (2 : Nat))) ∧ (((.agg ⟨[(.int IntKind.i64 (p)), (.slice .none ((0 : Nat)) ((0 : Nat)))]⟩) : Value) = (.agg ⟨[(.int IntKind.i64 (p)), (.slice .none ((0 : Nat)) ((0 : Nat)))]⟩))) ∧ (True))) ∧ 
R (.ret (.tuple ⟨[(.agg ⟨[(.int IntKind.i64 ((0 : Int))), (.int IntKind.i64 ((0 : Int)))]⟩), (.int IntKind.i64 ((0 : Int)))]⟩)))) ∧
((decide (v ≤ (220 : Int))) = false → R (.ret (.tuple ⟨[(.agg ⟨[(.int IntKind.i64 ((0 : Int))), (.int IntKind.i64 ((0 : Int)))]⟩), (.int IntKind.i64 ((2 : Int)))]⟩))))) ∧
((decide ((0 : Int) ≤ v)) = false → R (.ret (.tuple ⟨[(.agg ⟨[(.int IntKind.i64 ((0 : Int))), (.int IntKind.i64 ((0 : Int)))]⟩), (.int IntKind.i64 ((2 : Int)))]⟩))))) ∧
((decide (p ≤ (3 : Int))) = false → R (.ret (.tuple ⟨[(.agg ⟨[(.int IntKind.i64 ((0 : Int))), (.int IntKind.i64 ((0 : Int)))]⟩), (.int IntKind.i64 ((1 : Int)))]⟩))))) ∧
((decide ((0 : Int) ≤ p)) = false → R (.ret (.tuple ⟨[(.agg ⟨[(.int IntKind.i64 ((0 : Int))), (.int IntKind.i64 ((0 : Int)))]⟩), (.int IntKind.i64 ((1 : Int)))]⟩))))) := by kernel_rfl

noncomputable def K21st (p : Int) (c : Nat)  : Con := K0 (.agg (.hole (.slice 0 0 .nil)) .nil) [.dead] ⟨⟨[I p], [(0, c)]⟩, []⟩ (.bool true)
theorem K21st_ok (p : Int) (c : Nat)  (hp : 0 ≤ p ∧ p ≤ 3) : ConOK Try.prog 21 (K21st p c ) := by
  refine K0_ok ?_ rfl (at0) rfl (Nat.le_of_ble_eq_true rfl)
  refine ⟨_, (q21s p c  _).mpr ?_⟩
  repeat' (first | with_reducible apply And.intro | with_reducible intro)
  all_goals first
    | trivial
    | rfl
    | omega
    | (exfalso; simp only [decide_eq_true_eq, decide_eq_false_iff_not] at *; omega)
noncomputable def K21sf (p : Int) (c : Nat)  : Con := K0 (.agg (.hole (.slice 0 0 .nil)) .nil) [.dead] ⟨⟨[I p], [(0, c)]⟩, []⟩ (.bool false)
theorem K21sf_ok (p : Int) (c : Nat)  (hp : ¬ (0 ≤ p ∧ p ≤ 3)) : ConOK Try.prog 21 (K21sf p c ) := by
  refine K0_ok ?_ rfl (at0) rfl (Nat.le_of_ble_eq_true rfl)
  refine ⟨_, (q21s p c  _).mpr ?_⟩
  repeat' (first | with_reducible apply And.intro | with_reducible intro)
  all_goals first
    | trivial
    | rfl
    | omega
    | (exfalso; simp only [decide_eq_true_eq, decide_eq_false_iff_not] at *; omega)
noncomputable def K15st (p : Int) (c : Nat)  : Con := K0 (.agg (.hole (.slice 0 0 .nil)) (.val nilS .nil)) [.dead] ⟨⟨[I p], [(0, c)]⟩, []⟩ (.tuple ⟨[nilS, I 0]⟩)
theorem K15st_ok (p : Int) (c : Nat)  (hp : 0 ≤ p ∧ p ≤ 3) : ConOK Try.prog 15 (K15st p c ) := by
  refine K0_ok ?_ rfl (at0) rfl (Nat.le_of_ble_eq_true rfl)
  refine ⟨_, (q15s p c  _).mpr ?_⟩
  repeat' (first | with_reducible apply And.intro | with_reducible intro)
  all_goals first
    | trivial
    | rfl
    | omega
    | (exfalso; simp only [decide_eq_true_eq, decide_eq_false_iff_not] at *; omega)
noncomputable def K19st (p : Int) (c : Nat) (m : Int) : Con := K0 (.agg (.hole (.slice 0 0 .nil)) (.hole .nil)) [.dead] ⟨⟨[I p, I m], [(0, c)]⟩, []⟩ (.tuple ⟨[.agg ⟨[I 0, I 0]⟩, I 0]⟩)
theorem K19st_ok (p : Int) (c : Nat) (m : Int) (hp : 0 ≤ p ∧ p ≤ 3) (hm : 0 ≤ m ∧ m ≤ 220) : ConOK Try.prog 19 (K19st p c m) := by
  refine K0_ok ?_ rfl (at0) rfl (Nat.le_of_ble_eq_true rfl)
  refine ⟨_, (q19s p c m _).mpr ?_⟩
  repeat' (first | with_reducible apply And.intro | with_reducible intro)
  all_goals first
    | trivial
    | rfl
    | omega
    | (exfalso; simp only [decide_eq_true_eq, decide_eq_false_iff_not] at *; omega)
noncomputable def K21nt (p : Int)  : Con := K0 (.agg (.hole (.val nilS .nil)) .nil) [] ⟨⟨[I p], []⟩, []⟩ (.bool true)
theorem K21nt_ok (p : Int)  (hp : 0 ≤ p ∧ p ≤ 3) : ConOK Try.prog 21 (K21nt p ) := by
  refine K0_ok ?_ rfl (at0) rfl (Nat.le_of_ble_eq_true rfl)
  refine ⟨_, (q21n p  _).mpr ?_⟩
  repeat' (first | with_reducible apply And.intro | with_reducible intro)
  all_goals first
    | trivial
    | rfl
    | omega
    | (exfalso; simp only [decide_eq_true_eq, decide_eq_false_iff_not] at *; omega)
noncomputable def K21nf (p : Int)  : Con := K0 (.agg (.hole (.val nilS .nil)) .nil) [] ⟨⟨[I p], []⟩, []⟩ (.bool false)
theorem K21nf_ok (p : Int)  (hp : ¬ (0 ≤ p ∧ p ≤ 3)) : ConOK Try.prog 21 (K21nf p ) := by
  refine K0_ok ?_ rfl (at0) rfl (Nat.le_of_ble_eq_true rfl)
  refine ⟨_, (q21n p  _).mpr ?_⟩
  repeat' (first | with_reducible apply And.intro | with_reducible intro)
  all_goals first
    | trivial
    | rfl
    | omega
    | (exfalso; simp only [decide_eq_true_eq, decide_eq_false_iff_not] at *; omega)
noncomputable def K15nt (p : Int)  : Con := K0 (.agg (.hole (.val nilS .nil)) (.val nilS .nil)) [] ⟨⟨[I p], []⟩, []⟩ (.tuple ⟨[nilS, I 0]⟩)
theorem K15nt_ok (p : Int)  (hp : 0 ≤ p ∧ p ≤ 3) : ConOK Try.prog 15 (K15nt p ) := by
  refine K0_ok ?_ rfl (at0) rfl (Nat.le_of_ble_eq_true rfl)
  refine ⟨_, (q15n p  _).mpr ?_⟩
  repeat' (first | with_reducible apply And.intro | with_reducible intro)
  all_goals first
    | trivial
    | rfl
    | omega
    | (exfalso; simp only [decide_eq_true_eq, decide_eq_false_iff_not] at *; omega)
noncomputable def K19nt (p : Int) (m : Int) : Con := K0 (.agg (.hole (.val nilS .nil)) (.hole .nil)) [] ⟨⟨[I p, I m], []⟩, []⟩ (.tuple ⟨[.agg ⟨[I 0, I 0]⟩, I 0]⟩)
theorem K19nt_ok (p : Int) (m : Int) (hp : 0 ≤ p ∧ p ≤ 3) (hm : 0 ≤ m ∧ m ≤ 220) : ConOK Try.prog 19 (K19nt p m) := by
  refine K0_ok ?_ rfl (at0) rfl (Nat.le_of_ble_eq_true rfl)
  refine ⟨_, (q19n p m _).mpr ?_⟩
  repeat' (first | with_reducible apply And.intro | with_reducible intro)
  all_goals first
    | trivial
    | rfl
    | omega
    | (exfalso; simp only [decide_eq_true_eq, decide_eq_false_iff_not] at *; omega)
end Go.Ab

/- the law HorseTrue: no moves. -/
set_option maxRecDepth 100000
namespace Go.Ab
open Go Go.RowKit Go.Proofs
noncomputable def m3d : Mem := ⟨fillX [.dead, .dead, .dead] 0 .nil, 3⟩
theorem q16st (p : Int) (c : Nat) (R : ARes → Prop)  : (vx.call 16 [hV p 0 c, nilS, .bool true] (retK R) md1 ([(30, .split ([(3, .split ((61, Hint.again) :: (28, Hint.again) :: []) ([]))]) ([]))])) =
((((decide ((0 : Int) ≤ p)) = true → (((decide (p ≤ (3 : Int))) = true → ((((((2 : Nat) ≤ (2 : Nat))) ∧ (((.agg ⟨[(.int IntKind.i64 (p)), (.slice (.some ⟨((0 : Nat)), ((0 : Nat)), .none⟩) ((0 : Nat)) (c))]⟩) : Value) = (.agg ⟨[(.int IntKind.i64 (p)), (.slice (.some ⟨((0 : Nat)), ((0 : Nat)), .none⟩) ((0 : Nat)) (c))]⟩))) ∧ ((((some (.slice .none ((0 : Nat)) ((0 : Nat))) : Option Value) = some (.slice .none ((0 : Nat)) ((0 : Nat))))) ∧ (((((2 : Nat) ≤ (2 : Nat))) ∧ (((.agg ⟨[(.int IntKind.i64 (p)), (.slice (.some ⟨((0 : Nat)), ((0 : Nat)), .none⟩) ((0 : Nat)) (c))]⟩) : Value) = (.agg ⟨[(.int IntKind.i64 (p)), (.slice (.some ⟨((0 : Nat)), ((0 : Nat)), .none⟩) ((0 : Nat)) (c))]⟩))) ∧ (True)))) ∧ 
(((((some (.slice .none ((0 : Nat)) ((0 : Nat))) : Option Value) = some (.slice .none ((0 : Nat)) ((0 : Nat))))) ∧ (((((2 : Nat) ≤ (2 : Nat))) ∧ (((.agg ⟨[(.int IntKind.i64 (p)), (.slice (.some ⟨((0 : Nat)), ((0 : Nat)), .none⟩) ((0 : Nat)) (c))]⟩) : Value) = (.agg ⟨[(.int IntKind.i64 (p)), (.slice (.some ⟨((0 : Nat)), ((0 : Nat)), .none⟩) ((0 : Nat)) (c))]⟩))) ∧ (True))) ∧ 
R (.ret (.tuple ⟨[(.int IntKind.i64 ((0 : Int))), (.int IntKind.i64 ((0 : Int))), (.int IntKind.i64 ((4 : Int)))]⟩))))) ∧
((decide (p ≤ (3 : Int))) = false → R (.ret (.tuple ⟨[(.int IntKind.i64 ((0 : Int))), (.int IntKind.i64 ((0 : Int))), (.int IntKind.i64 ((1 : Int)))]⟩))))) ∧
((decide ((0 : Int) ≤ p)) = false → R (.ret (.tuple ⟨[(.int IntKind.i64 ((0 : Int))), (.int IntKind.i64 ((0 : Int))), (.int IntKind.i64 ((1 : Int)))]⟩))))) := by kernel_rfl

theorem q16sf (p : Int) (c : Nat) (R : ARes → Prop)  : (vx.call 16 [hV p 0 c, nilS, .bool false] (retK R) md1 ([(30, .split ([(3, .split ((61, Hint.again) :: (28, Hint.again) :: []) ([]))]) ([]))])) =
((((decide ((0 : Int) ≤ p)) = true → (((decide (p ≤ (3 : Int))) = true → ((((((2 : Nat) ≤ (2 : Nat))) ∧ (((.agg ⟨[(.int IntKind.i64 (p)), (.slice (.some ⟨((0 : Nat)), ((0 : Nat)), .none⟩) ((0 : Nat)) (c))]⟩) : Value) = (.agg ⟨[(.int IntKind.i64 (p)), (.slice (.some ⟨((0 : Nat)), ((0 : Nat)), .none⟩) ((0 : Nat)) (c))]⟩))) ∧ ((((some (.slice .none ((0 : Nat)) ((0 : Nat))) : Option Value) = some (.slice .none ((0 : Nat)) ((0 : Nat))))) ∧ (((((2 : Nat) ≤ (2 : Nat))) ∧ (((.agg ⟨[(.int IntKind.i64 (p)), (.slice (.some ⟨((0 : Nat)), ((0 : Nat)), .none⟩) ((0 : Nat)) (c))]⟩) : Value) = (.agg ⟨[(.int IntKind.i64 (p)), (.slice (.some ⟨((0 : Nat)), ((0 : Nat)), .none⟩) ((0 : Nat)) (c))]⟩))) ∧ (True)))) ∧ 
(((((some (.slice .none ((0 : Nat)) ((0 : Nat))) : Option Value) = some (.slice .none ((0 : Nat)) ((0 : Nat))))) ∧ (((((2 : Nat) ≤ (2 : Nat))) ∧ (((.agg ⟨[(.int IntKind.i64 (p)), (.slice (.some ⟨((0 : Nat)), ((0 : Nat)), .none⟩) ((0 : Nat)) (c))]⟩) : Value) = (.agg ⟨[(.int IntKind.i64 (p)), (.slice (.some ⟨((0 : Nat)), ((0 : Nat)), .none⟩) ((0 : Nat)) (c))]⟩))) ∧ (True))) ∧ 
R (.ret (.tuple ⟨[(.int IntKind.i64 ((0 : Int))), (.int IntKind.i64 ((0 : Int))), (.int IntKind.i64 ((4 : Int)))]⟩))))) ∧
((decide (p ≤ (3 : Int))) = false → R (.ret (.tuple ⟨[(.int IntKind.i64 ((0 : Int))), (.int IntKind.i64 ((0 : Int))), (.int IntKind.i64 ((1 : Int)))]⟩))))) ∧
((decide ((0 : Int) ≤ p)) = false → R (.ret (.tuple ⟨[(.int IntKind.i64 ((0 : Int))), (.int IntKind.i64 ((0 : Int))), (.int IntKind.i64 ((1 : Int)))]⟩))))) := by kernel_rfl

theorem q16nt (p : Int) (R : ARes → Prop)  : (vx.call 16 [hN p, nilS, .bool true] (retK R) md0 ([(30, .split ([(3, .split ((61, Hint.again) :: (28, Hint.again) :: []) ([]))]) ([]))])) =
((((decide ((0 : Int) ≤ p)) = true → (((decide (p ≤ (3 : Int))) = true → ((((((2 : Nat) ≤ (2 : Nat))) ∧ (((.agg ⟨[(.int IntKind.i64 (p)), (.slice .none ((0 : Nat)) ((0 : Nat)))]⟩) : Value) = (.agg ⟨[(.int IntKind.i64 (p)), (.slice .none ((0 : Nat)) ((0 : Nat)))]⟩))) ∧ ((((some (.slice .none ((0 : Nat)) ((0 : Nat))) : Option Value) = some (.slice .none ((0 : Nat)) ((0 : Nat))))) ∧ (((((2 : Nat) ≤ (2 : Nat))) ∧ (((.agg ⟨[(.int IntKind.i64 (p)), (.slice .none ((0 : Nat)) ((0 : Nat)))]⟩) : Value) = (.agg ⟨[(.int IntKind.i64 (p)), (.slice .none ((0 : Nat)) ((0 : Nat)))]⟩))) ∧ (True)))) ∧ 
(((((some (.slice .none ((0 : Nat)) ((0 : Nat))) : Option Value) = some (.slice .none ((0 : Nat)) ((0 : Nat))))) ∧ (((((2 : Nat) ≤ (2 : Nat))) ∧ (((.agg ⟨[(.int IntKind.i64 (p)), (.slice .none ((0 : Nat)) ((0 : Nat)))]⟩) : Value) = (.agg ⟨[(.int IntKind.i64 (p)), (.slice .none ((0 : Nat)) ((0 : Nat)))]⟩))) ∧ (True))) ∧ 
R (.ret (.tuple ⟨[(.int IntKind.i64 ((0 : Int))), (.int IntKind.i64 ((0 : Int))), (.int IntKind.i64 ((4 : Int)))]⟩))))) ∧
((decide (p ≤ (3 : Int))) = false → R (.ret (.tuple ⟨[(.int IntKind.i64 ((0 : Int))), (.int IntKind.i64 ((0 : Int))), (.int IntKind.i64 ((1 : Int)))]⟩))))) ∧
((decide ((0 : Int) ≤ p)) = false → R (.ret (.tuple ⟨[(.int IntKind.i64 ((0 : Int))), (.int IntKind.i64 ((0 : Int))), (.int IntKind.i64 ((1 : Int)))]⟩))))) := by kernel_rfl

theorem q16nf (p : Int) (R : ARes → Prop)  : (vx.call 16 [hN p, nilS, .bool false] (retK R) md0 ([(30, .split ([(3, .split ((61, Hint.again) :: (28, Hint.again) :: []) ([]))]) ([]))])) =
((((decide ((0 : Int) ≤ p)) = true → (((decide (p ≤ (3 : Int))) = true → ((((((2 : Nat) ≤ (2 : Nat))) ∧ (((.agg ⟨[(.int IntKind.i64 (p)), (.slice .none ((0 : Nat)) ((0 : Nat)))]⟩) : Value) = (.agg ⟨[(.int IntKind.i64 (p)), (.slice .none ((0 : Nat)) ((0 : Nat)))]⟩))) ∧ ((((some (.slice .none ((0 : Nat)) ((0 : Nat))) : Option Value) = some (.slice .none ((0 : Nat)) ((0 : Nat))))) ∧ (((((2 : Nat) ≤ (2 : Nat))) ∧ (((.agg ⟨[(.int IntKind.i64 (p)), (.slice .none ((0 : Nat)) ((0 : Nat)))]⟩) : Value) = (.agg ⟨[(.int IntKind.i64 (p)), (.slice .none ((0 : Nat)) ((0 : Nat)))]⟩))) ∧ (True)))) ∧ 
(((((some (.slice .none ((0 : Nat)) ((0 : Nat))) : Option Value) = some (.slice .none ((0 : Nat)) ((0 : Nat))))) ∧ (((((2 : Nat) ≤ (2 : Nat))) ∧ (((.agg ⟨[(.int IntKind.i64 (p)), (.slice .none ((0 : Nat)) ((0 : Nat)))]⟩) : Value) = (.agg ⟨[(.int IntKind.i64 (p)), (.slice .none ((0 : Nat)) ((0 : Nat)))]⟩))) ∧ (True))) ∧ 
R (.ret (.tuple ⟨[(.int IntKind.i64 ((0 : Int))), (.int IntKind.i64 ((0 : Int))), (.int IntKind.i64 ((4 : Int)))]⟩))))) ∧
((decide (p ≤ (3 : Int))) = false → R (.ret (.tuple ⟨[(.int IntKind.i64 ((0 : Int))), (.int IntKind.i64 ((0 : Int))), (.int IntKind.i64 ((1 : Int)))]⟩))))) ∧
((decide ((0 : Int) ≤ p)) = false → R (.ret (.tuple ⟨[(.int IntKind.i64 ((0 : Int))), (.int IntKind.i64 ((0 : Int))), (.int IntKind.i64 ((1 : Int)))]⟩))))) := by kernel_rfl

noncomputable def K16st (p : Int) (c : Nat) : Con := K0 (.agg (.hole (.slice 0 0 .nil)) (.val nilS (.hole .nil))) [.dead] ⟨⟨[I p, .bool true], [(0, c)]⟩, []⟩ (.tuple ⟨[I 0, I 0, I 4]⟩)
theorem K16st_ok (p : Int) (c : Nat) (hp : 0 ≤ p ∧ p ≤ 3) : ConOK Try.prog 16 (K16st p c) := by
  refine K0_ok ?_ rfl (at0) rfl (Nat.le_of_ble_eq_true rfl)
  refine ⟨_, (q16st p c _).mpr ?_⟩
  repeat' (first | with_reducible apply And.intro | with_reducible intro)
  all_goals first
    | trivial
    | rfl
    | omega
    | (exfalso; simp only [decide_eq_true_eq, decide_eq_false_iff_not] at *; omega)
noncomputable def K16sf (p : Int) (c : Nat) : Con := K0 (.agg (.hole (.slice 0 0 .nil)) (.val nilS (.hole .nil))) [.dead] ⟨⟨[I p, .bool false], [(0, c)]⟩, []⟩ (.tuple ⟨[I 0, I 0, I 4]⟩)
theorem K16sf_ok (p : Int) (c : Nat) (hp : 0 ≤ p ∧ p ≤ 3) : ConOK Try.prog 16 (K16sf p c) := by
  refine K0_ok ?_ rfl (at0) rfl (Nat.le_of_ble_eq_true rfl)
  refine ⟨_, (q16sf p c _).mpr ?_⟩
  repeat' (first | with_reducible apply And.intro | with_reducible intro)
  all_goals first
    | trivial
    | rfl
    | omega
    | (exfalso; simp only [decide_eq_true_eq, decide_eq_false_iff_not] at *; omega)
noncomputable def K16nt (p : Int) : Con := K0 (.agg (.hole (.val nilS .nil)) (.val nilS (.hole .nil))) [] ⟨⟨[I p, .bool true], []⟩, []⟩ (.tuple ⟨[I 0, I 0, I 4]⟩)
theorem K16nt_ok (p : Int) (hp : 0 ≤ p ∧ p ≤ 3) : ConOK Try.prog 16 (K16nt p) := by
  refine K0_ok ?_ rfl (at0) rfl (Nat.le_of_ble_eq_true rfl)
  refine ⟨_, (q16nt p _).mpr ?_⟩
  repeat' (first | with_reducible apply And.intro | with_reducible intro)
  all_goals first
    | trivial
    | rfl
    | omega
    | (exfalso; simp only [decide_eq_true_eq, decide_eq_false_iff_not] at *; omega)
noncomputable def K16nf (p : Int) : Con := K0 (.agg (.hole (.val nilS .nil)) (.val nilS (.hole .nil))) [] ⟨⟨[I p, .bool false], []⟩, []⟩ (.tuple ⟨[I 0, I 0, I 4]⟩)
theorem K16nf_ok (p : Int) (hp : 0 ≤ p ∧ p ≤ 3) : ConOK Try.prog 16 (K16nf p) := by
  refine K0_ok ?_ rfl (at0) rfl (Nat.le_of_ble_eq_true rfl)
  refine ⟨_, (q16nf p _).mpr ?_⟩
  repeat' (first | with_reducible apply And.intro | with_reducible intro)
  all_goals first
    | trivial
    | rfl
    | omega
    | (exfalso; simp only [decide_eq_true_eq, decide_eq_false_iff_not] at *; omega)
end Go.Ab

/- the law HorseTrue: what its run gives in a world. -/
set_option maxRecDepth 100000
namespace Go.Ab
open Go Go.RowKit Go.Proofs
theorem far_dec3 {n : Nat} (h : 40 < n) : ¬ decide ((if ((0 : Nat) : Int) > (n : Int) then ((0 : Nat) : Int) else (n : Int)) > (40 : Int)) = false := by
  intro hf
  have hf := of_decide_eq_false hf
  apply hf
  split <;> omega
theorem z3t (p : Int) (c : Nat) (m8 : Int) (w t : Value) (R : ARes → Prop)  : (vx.call 3 [hV p 0 c, w, t, U8 m8] (retK R) m3d ((22, Hint.con (K21st p c)) :: (53, Hint.con (K15st p c)) :: (7, Hint.con (K16st p c)) :: (9, Hint.con (K16sf p c)) :: (56, Hint.con (K19st p c ((IntKind.i64.wrap m8).tmod (221 : Int)))) :: (34, Hint.con C12) :: [])) =
(((ConOK Try.prog ((21 : Nat)) (K21st p c)) ∧ (Con.pre (K21st p c) ⟨⟨[(.int IntKind.i64 (p))], [⟨((0 : Nat)), (c)⟩]⟩, []⟩) ∧ 
((ConOK Try.prog ((15 : Nat)) (K15st p c)) ∧ (Con.pre (K15st p c) ⟨⟨[(.int IntKind.i64 (p))], [⟨((0 : Nat)), (c)⟩]⟩, []⟩) ∧ 
((ConOK Try.prog ((16 : Nat)) (K16st p c)) ∧ (Con.pre (K16st p c) ⟨⟨[(.int IntKind.i64 (p)), (.bool true)], [⟨((0 : Nat)), (c)⟩]⟩, []⟩) ∧ 
((ConOK Try.prog ((16 : Nat)) (K16sf p c)) ∧ (Con.pre (K16sf p c) ⟨⟨[(.int IntKind.i64 (p)), (.bool false)], [⟨((0 : Nat)), (c)⟩]⟩, []⟩) ∧ 
((ConOK Try.prog ((19 : Nat)) (K19st p c ((IntKind.i64.wrap m8).tmod (OfNat.ofNat (221 : Nat))))) ∧ (Con.pre (K19st p c ((IntKind.i64.wrap m8).tmod (OfNat.ofNat (221 : Nat)))) ⟨⟨[(.int IntKind.i64 (p)), (.int IntKind.i64 ((IntKind.i64.wrap m8).tmod (221 : Int)))], [⟨((0 : Nat)), (c)⟩]⟩, []⟩) ∧ 
((ConOK Try.prog ((12 : Nat)) (C12)) ∧ (Con.pre (C12) ⟨⟨[], []⟩, []⟩) ∧ 
R (.ret (.bool true))))))))) := by kernel_rfl

theorem z3f (p : Int) (c : Nat) (m8 : Int) (w t : Value) (R : ARes → Prop)  : (vx.call 3 [hV p 0 c, w, t, U8 m8] (retK R) m3d ((22, Hint.con (K21sf p c)) :: (4, Hint.con C12) :: [])) =
(((ConOK Try.prog ((21 : Nat)) (K21sf p c)) ∧ (Con.pre (K21sf p c) ⟨⟨[(.int IntKind.i64 (p))], [⟨((0 : Nat)), (c)⟩]⟩, []⟩) ∧ 
((ConOK Try.prog ((12 : Nat)) (C12)) ∧ (Con.pre (C12) ⟨⟨[], []⟩, []⟩) ∧ 
R (.ret (.bool true))))) := by kernel_rfl

theorem y3t (p : Int) (m8 : Int) (w t : Value) (R : ARes → Prop)  : (vx.call 3 [hN p, w, t, U8 m8] (retK R) m3d ((22, Hint.con (K21nt p)) :: (53, Hint.con (K15nt p)) :: (7, Hint.con (K16nt p)) :: (9, Hint.con (K16nf p)) :: (56, Hint.con (K19nt p ((IntKind.i64.wrap m8).tmod (221 : Int)))) :: (34, Hint.con C12) :: [])) =
(((ConOK Try.prog ((21 : Nat)) (K21nt p)) ∧ (Con.pre (K21nt p) ⟨⟨[(.int IntKind.i64 (p))], []⟩, []⟩) ∧ 
((ConOK Try.prog ((15 : Nat)) (K15nt p)) ∧ (Con.pre (K15nt p) ⟨⟨[(.int IntKind.i64 (p))], []⟩, []⟩) ∧ 
((ConOK Try.prog ((16 : Nat)) (K16nt p)) ∧ (Con.pre (K16nt p) ⟨⟨[(.int IntKind.i64 (p)), (.bool true)], []⟩, []⟩) ∧ 
((ConOK Try.prog ((16 : Nat)) (K16nf p)) ∧ (Con.pre (K16nf p) ⟨⟨[(.int IntKind.i64 (p)), (.bool false)], []⟩, []⟩) ∧ 
((ConOK Try.prog ((19 : Nat)) (K19nt p ((IntKind.i64.wrap m8).tmod (OfNat.ofNat (221 : Nat))))) ∧ (Con.pre (K19nt p ((IntKind.i64.wrap m8).tmod (OfNat.ofNat (221 : Nat)))) ⟨⟨[(.int IntKind.i64 (p)), (.int IntKind.i64 ((IntKind.i64.wrap m8).tmod (221 : Int)))], []⟩, []⟩) ∧ 
((ConOK Try.prog ((12 : Nat)) (C12)) ∧ (Con.pre (C12) ⟨⟨[], []⟩, []⟩) ∧ 
R (.ret (.bool true))))))))) := by kernel_rfl

theorem y3f (p : Int) (m8 : Int) (w t : Value) (R : ARes → Prop)  : (vx.call 3 [hN p, w, t, U8 m8] (retK R) m3d ((22, Hint.con (K21nf p)) :: (4, Hint.con C12) :: [])) =
(((ConOK Try.prog ((21 : Nat)) (K21nf p)) ∧ (Con.pre (K21nf p) ⟨⟨[(.int IntKind.i64 (p))], []⟩, []⟩) ∧ 
((ConOK Try.prog ((12 : Nat)) (C12)) ∧ (Con.pre (C12) ⟨⟨[], []⟩, []⟩) ∧ 
R (.ret (.bool true))))) := by kernel_rfl

theorem z3_ok (p : Int) (c : Nat) (m8 : Int) (w t : Value) (hm : 0 ≤ m8 ∧ m8 < 256) : ∃ hs, vx.call 3 [hV p 0 c, w, t, U8 m8] (retK fun r => r = .ret (.bool true)) m3d hs := by
  have hmm := min_mod3 hm
  by_cases hp : 0 ≤ p ∧ p ≤ 3
  · refine ⟨_, (z3t p c m8 w t _).mpr ?_⟩
    repeat' (first | with_reducible apply And.intro | with_reducible intro)
    all_goals first
      | exact C12_ok
      | exact K21st_ok p c hp
      | exact K15st_ok p c hp
      | exact K16st_ok p c hp
      | exact K16sf_ok p c hp
      | exact K19st_ok p c _ hp hmm
      | trivial
      | rfl
  · refine ⟨_, (z3f p c m8 w t _).mpr ?_⟩
    repeat' (first | with_reducible apply And.intro | with_reducible intro)
    all_goals first
      | exact C12_ok
      | exact K21sf_ok p c hp
      | trivial
      | rfl
theorem y3_ok (p : Int) (m8 : Int) (w t : Value) (hm : 0 ≤ m8 ∧ m8 < 256) : ∃ hs, vx.call 3 [hN p, w, t, U8 m8] (retK fun r => r = .ret (.bool true)) m3d hs := by
  have hmm := min_mod3 hm
  by_cases hp : 0 ≤ p ∧ p ≤ 3
  · refine ⟨_, (y3t p m8 w t _).mpr ?_⟩
    repeat' (first | with_reducible apply And.intro | with_reducible intro)
    all_goals first
      | exact C12_ok
      | exact K21nt_ok p hp
      | exact K15nt_ok p hp
      | exact K16nt_ok p hp
      | exact K16nf_ok p hp
      | exact K19nt_ok p _ hp hmm
      | trivial
      | rfl
  · refine ⟨_, (y3f p m8 w t _).mpr ?_⟩
    repeat' (first | with_reducible apply And.intro | with_reducible intro)
    all_goals first
      | exact C12_ok
      | exact K21nf_ok p hp
      | trivial
      | rfl
theorem any3ss (p : Int) (n c k d t e : Nat) (m8 : Int) (f : Nat → Mv) (bs : Nat → Int) (ts : Nat → Int) (h0 : 0 < n) (hb : ∀ i, i < k → 0 ≤ bs i ∧ bs i < 256) (ht : ∀ i, i < t → 0 ≤ ts i ∧ ts i < 256) (hm : 0 ≤ m8 ∧ m8 < 256) :
    ∃ hs, vx.call 3 [hV p n c, slV 1 k d, slV 2 t e, U8 m8] (retK fun r => r = .ret (.bool true)) ⟨fillX [.cells (mvs n f) 1 .ro, .cells (u8s k bs) 2 .ro, .cells (u8s t ts) 2 .ro] 0 .nil, 3⟩ hs := by
  by_cases h : 40 < n
  · exact ⟨_, (f3xss p n c k d t e m8 f bs ts _).mpr ⟨fun _ => ⟨C12_ok, rfl, rfl⟩, fun hf => absurd hf (far_dec3 h)⟩⟩
  · exact law3ss p n c k d t e m8 f bs ts h0 (by omega) hb ht hm
theorem any3sn (p : Int) (n c k d : Nat) (m8 : Int) (f : Nat → Mv) (bs : Nat → Int) (h0 : 0 < n) (hb : ∀ i, i < k → 0 ≤ bs i ∧ bs i < 256) (hm : 0 ≤ m8 ∧ m8 < 256) :
    ∃ hs, vx.call 3 [hV p n c, slV 1 k d, nilS, U8 m8] (retK fun r => r = .ret (.bool true)) ⟨fillX [.cells (mvs n f) 1 .ro, .cells (u8s k bs) 2 .ro, .dead] 0 .nil, 3⟩ hs := by
  by_cases h : 40 < n
  · exact ⟨_, (f3xsn p n c k d m8 f bs _).mpr ⟨fun _ => ⟨C12_ok, rfl, rfl⟩, fun hf => absurd hf (far_dec3 h)⟩⟩
  · exact law3sn p n c k d m8 f bs h0 (by omega) hb hm
theorem any3ns (p : Int) (n c t e : Nat) (m8 : Int) (f : Nat → Mv) (ts : Nat → Int) (h0 : 0 < n) (ht : ∀ i, i < t → 0 ≤ ts i ∧ ts i < 256) (hm : 0 ≤ m8 ∧ m8 < 256) :
    ∃ hs, vx.call 3 [hV p n c, nilS, slV 2 t e, U8 m8] (retK fun r => r = .ret (.bool true)) ⟨fillX [.cells (mvs n f) 1 .ro, .dead, .cells (u8s t ts) 2 .ro] 0 .nil, 3⟩ hs := by
  by_cases h : 40 < n
  · exact ⟨_, (f3xns p n c t e m8 f ts _).mpr ⟨fun _ => ⟨C12_ok, rfl, rfl⟩, fun hf => absurd hf (far_dec3 h)⟩⟩
  · exact law3ns p n c t e m8 f ts h0 (by omega) ht hm
theorem any3nn (p : Int) (n c : Nat) (m8 : Int) (f : Nat → Mv) (h0 : 0 < n) (hm : 0 ≤ m8 ∧ m8 < 256) :
    ∃ hs, vx.call 3 [hV p n c, nilS, nilS, U8 m8] (retK fun r => r = .ret (.bool true)) ⟨fillX [.cells (mvs n f) 1 .ro, .dead, .dead] 0 .nil, 3⟩ hs := by
  by_cases h : 40 < n
  · exact ⟨_, (f3xnn p n c m8 f _).mpr ⟨fun _ => ⟨C12_ok, rfl, rfl⟩, fun hf => absurd hf (far_dec3 h)⟩⟩
  · exact law3nn p n c m8 f h0 (by omega) hm
section
variable {W : World}
theorem vs5 {x y z : RoC} {p m : Int} {v v' w w' t t' : Value} (hv : VRel (rcN x y z) v v') (hw : VRel (rcN x y z) w w') (ht : VRel (rcN x y z) t t') :
    VsRel (rcN x y z) [.agg ⟨[I p, v]⟩, w, t, U8 m] [.agg ⟨[I p, v']⟩, w', t', U8 m] :=
  .agg (.atom rfl hv) (VsRel.cons hw (VsRel.cons ht (.atom rfl .nil)))
theorem holds_none {x : RoC} (h : x.2 = none) : RcHolds W x := fun q hq => by rw [h] at hq; cases hq
theorem dead3 {p m : Int} {v v0 w t : Value} {x : RoC} (hF : x.2 = none) (hv : ∀ y z, VRel (rcN x y z) v0 v) (hw : BytesIn W w) (ht : BytesIn W t)
    (hc : ∀ w0 t0, ∃ hs, vx.call 3 [.agg ⟨[I p, v0]⟩, w0, t0, U8 m] (retK fun r => r = .ret (.bool true)) m3d hs) :
    Calls Try.prog 3 #[.agg #[I p, v], w, t, .int .u8 m] W fun e W' => e = .returned (.bool true) ∧ Below W.heap.size W W' := by
  obtain ⟨y, w0, hy, hw0⟩ := any1 hw
  obtain ⟨z, t0, hz, ht0⟩ := any2 ht
  have hmem : rcM x y z = m3d := by simp only [rcM, rcX, hF, hy, hz, m3d]
  exact calls_rc (x := x) (y := y) (z := z) (holds_none hF) (holds_none hy) (holds_none hz) (vs5 (hv y z) (hw0 x z) (ht0 x y)) (by rw [hmem]; exact hc w0 t0)
/-- THE RUN OF THE LAW, FOR ALL THAT A ROW HANDS IN. -/
theorem run3 {p m : Int} {v w t : Value}
    (hv : v = .slice none 0 0 ∨ (∃ a, v = .slice (some a) 0 0) ∨ ∃ (n : Nat) (f : Nat → Mv), SlAt W v n (mvs n f) 1)
    (hw : BytesIn W w) (ht : BytesIn W t) (hm : 0 ≤ m ∧ m < 256) :
    Calls Try.prog 3 #[.agg #[I p, v], w, t, .int .u8 m] W fun e W' => e = .returned (.bool true) ∧ Below W.heap.size W W' := by
  rcases hv with rfl | ⟨a, rfl⟩ | ⟨n, f, b, o, c, rfl, hn, hx⟩
  · exact dead3 (x := (⟨0, 0, 0⟩, none)) (v0 := nilS) rfl (fun _ _ => rc_none) hw ht (fun w0 t0 => y3_ok p m w0 t0 hm)
  · exact dead3 (x := (⟨0, 0, 0⟩, none)) (v0 := slV 0 0 0) rfl (fun _ _ => rc_zero (i := 0) rfl rfl) hw ht (fun w0 t0 => z3_ok p 0 m w0 t0 hm)
  · rcases Nat.eq_zero_or_pos n with h0 | h0
    · subst h0
      exact dead3 (x := (⟨b, o, 0⟩, none)) (v0 := slV 0 0 c) rfl (fun _ _ => rc_at (i := 0) rfl hn) hw ht (fun w0 t0 => z3_ok p c m w0 t0 hm)
    · have hx' : RcHolds W (⟨b, o, 0⟩, some (mvs n f, 1)) := fun q hq => by cases hq; exact hx
      have hd : RcHolds W (⟨0, 0, 0⟩, none) := holds_none rfl
      rcases some1 rfl hx' hw with hw | ⟨G, k, d, g, hg, hG, hw, _⟩
      · rcases some1 rfl hx' ht with ht | ⟨T, k', d', g', hg', hT, _, ht⟩
        · exact calls_rc hx' hd hd (vs5 (rc_at (i := 0) rfl hn) (hw _ _ _) (ht _ _ _)) (any3nn p n c m f h0 hm)
        · exact calls_rc hx' hd hT (vs5 (rc_at (i := 0) rfl hn) (hw _ _ _) (ht _ _ _)) (any3ns p n c k' d' m f g' h0 hg' hm)
      · rcases some1 rfl hx' ht with ht | ⟨T, k', d', g', hg', hT, _, ht⟩
        · exact calls_rc hx' hG hd (vs5 (rc_at (i := 0) rfl hn) (hw _ _ _) (ht _ _ _)) (any3sn p n c k d m f g h0 hg hm)
        · exact calls_rc hx' hG hT (vs5 (rc_at (i := 0) rfl hn) (hw _ _ _) (ht _ _ _)) (any3ss p n c k d k' d' m f g g' h0 hg hg' hm)
end
end Go.Ab

