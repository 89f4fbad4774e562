/- what slices of bytes and of moves that a row hands in are, in a world; what the law's run gives for them. -/
import Derived.Test.YtamfplmmfbbabaaUT
import Derived.Test.YtamfplmmfbbabaaVC
import Derived.WalkKit
import Derived.ProofKit
import Derived.OpenShut
import Derived.Deep.Slices
import Derived.Deep.Strs
set_option maxRecDepth 100000
namespace Go.Ab
open Go Go.RowKit Go.Proofs Go.ChangeShapes Go.WideShapes Go.Deep
theorem cells5 : Try.prog.cellsOf 5 = 1 := by kernel_rfl
theorem cells33 : Try.prog.cellsOf 33 = 4 := by kernel_rfl
theorem cells31 : Try.prog.cellsOf 31 = 2 := by kernel_rfl
theorem cells3 : Try.prog.cellsOf 3 = 1 := by kernel_rfl
theorem cells22 : Try.prog.cellsOf 22 = 1 := by kernel_rfl
theorem cells24 : Try.prog.cellsOf 24 = 2 := by kernel_rfl
theorem cell_block {W : World} {a : Addr} {i : Nat} {v : Value} (h : W.cell? (a.add i) = some v) : ∃ c t fr, W.heap[a.block]? = some (.cells c t fr) ∧ c[a.off + i]? = some v ∧ (i = 0 → a.spot = none) := by
  unfold World.cell? Addr.add at h
  by_cases h0 : i = 0
  · subst h0
    rw [if_pos rfl] at h
    split at h
    · rename_i c t fr hc
      split at h
      · cases h
      · rename_i hs
        exact ⟨c, t, fr, hc, h, fun _ => by cases hsp : a.spot with
          | none => rfl
          | some x => rw [hsp] at hs; exact absurd rfl hs⟩
    · cases h
  · rw [if_neg h0] at h
    split at h
    · rename_i c t fr hc
      exact ⟨c, t, fr, hc, h, fun h1 => absurd h1 h0⟩
    · cases h
theorem wf_u8 {n : Int} (h : (Lit.int .u8 n).wf = true) : 0 ≤ n ∧ n < 256 := by
  simp only [Lit.wf, Bool.and_eq_true, decide_eq_true_eq] at h
  have h1 : IntKind.min .u8 ≤ n := h.1
  have h2 : n ≤ IntKind.max .u8 := h.2
  have e1 : IntKind.min .u8 = 0 := by decide
  have e2 : IntKind.max .u8 = 255 := by decide
  omega
def SlAt (W : World) (v : Value) (n : Nat) (cs : List Value) (e : TypeId) : Prop :=
  ∃ (b o cap : Nat), v = .slice (some ⟨b, o, none⟩) n cap ∧ n ≤ cap ∧ RoHolds W (some (⟨b, o, 0⟩, cs, e))
section
variable {H : Type} {enc : TypeId × Value → H} {W : World}
theorem bytes_in {fuel : Nat} {v : Value} {x : DataW H × List MemPlace} (h : DataW.trod enc Try.prog W 0 (fun _ => true) true fuel 25 [v] = some x) :
    v = .slice none 0 0 ∨ (∃ a, v = .slice (some a) 0 0) ∨ ∃ (n : Nat) (f : Nat → Int), (∀ i, i < n → 0 ≤ f i ∧ f i < 256) ∧ SlAt W v n (u8s n f) 2 := by
  rcases open_slice1 Try.underlying25 cells5 h with ⟨h0, _⟩ | ⟨a, len, cap, m, n, V, D, Pl, hv, _, hl, _, hm, _, hx⟩
  · exact Or.inl (List.cons.inj h0).1
  right
  obtain rfl := (List.cons.inj hv).1
  have hm : m = cap := by simpa using hm
  subst hm
  rcases Nat.eq_zero_or_pos m with h0 | h0
  · subst h0
    obtain rfl : len = 0 := by omega
    exact Or.inl ⟨a, rfl⟩
  · right
    have each : ∀ i, i < m → ∃ z : Int, V i = U8 z ∧ 0 ≤ z ∧ z < 256 := by
      intro i hi
      obtain ⟨z, h1, _, h3⟩ := DataW.trod_int Try.underlying5 (hx i hi).2
      exact ⟨z, (List.cons.inj h1).1, wf_u8 h3⟩
    obtain ⟨f, hf⟩ := choose_lt (α := Int) each
    obtain ⟨c, t, fr, hc, _, hsp⟩ := cell_block (hx 0 h0).1
    have hsp := hsp rfl
    refine ⟨len, f, fun i hi => (hf i (by omega)).2, a.block, a.off, m, ?_, hl, c, t, fr, hc, ?_⟩
    · obtain ⟨b, o, s⟩ := a
      cases hsp
      rfl
    · intro j v hj
      have hjl : j < len := by
        have := (List.getElem?_eq_some_iff.1 hj).1
        have e := flatC_len (n := len) (k := 1) (g := fun i => [U8 (f i)]) (fun _ _ => rfl)
        unfold u8s at this
        omega
      have e := flatC_get (n := len) (k := 1) (g := fun i => [U8 (f i)]) (fun _ _ => rfl) hjl (j := 0) (by omega)
      have hj : (flatC len fun i => [U8 (f i)])[j]? = some v := hj
      rw [show j * 1 + 0 = j by omega, hj] at e
      obtain rfl : v = U8 (f j) := Option.some.inj e
      refine ⟨rfl, ?_⟩
      obtain ⟨c', t', fr', hc', hv', _⟩ := cell_block (hx j (by omega)).1
      rw [hc] at hc'
      cases hc'
      rw [hv', (hf j (by omega)).1]
theorem int_in {fuel : Nat} {cs : List Value} {x : DataW H × List MemPlace} (h : DataW.trod enc Try.prog W 0 (fun _ => true) true fuel 3 cs = some x) : ∃ z : Int, cs = [I z] := by
  obtain ⟨z, h1, _, _⟩ := DataW.trod_int Try.underlying3 h
  exact ⟨z, h1⟩
theorem move_in {fuel : Nat} {cs : List Value} {x : DataW H × List MemPlace} (h : DataW.trod enc Try.prog W 0 (fun _ => true) true fuel 33 cs = some x) : ∃ m : Mv, cs = mvV m := by
  obtain ⟨y0, y1, y2, n, _, hl, h0, h1, h2⟩ := trod_struct3 Try.underlying33 h
  rw [cells33] at hl
  match cs, hl with
  | [w0, w1, w2, w3], _ =>
    obtain ⟨a, ha⟩ := int_in h0
    obtain ⟨b, hb⟩ := int_in h1
    obtain ⟨z0, z1, k, _, _, k0, k1⟩ := trod_struct2 Try.underlying31 h2
    obtain ⟨c, hc⟩ := int_in k0
    obtain ⟨d, hd⟩ := int_in k1
    have ha : [w0] = [I a] := ha
    have hb : [w1] = [I b] := hb
    have hc : [w2] = [I c] := hc
    have hd : [w3] = [I d] := hd
    cases ha; cases hb; cases hc; cases hd
    exact ⟨⟨a, b, c, d⟩, rfl⟩
theorem moves_in {fuel : Nat} {v : Value} {x : DataW H × List MemPlace} (h : DataW.trod enc Try.prog W 0 (fun _ => true) true fuel 22 [v] = some x) :
    v = .slice none 0 0 ∨ (∃ a, v = .slice (some a) 0 0) ∨ ∃ (n : Nat) (f : Nat → Mv), SlAt W v n (mvs n f) 1 := by
  rcases open_slice Try.underlying22 h with ⟨h0, _⟩ | ⟨a, len, cap, m, n, D, Pl, hv, _, hl, _, hm, _, hx⟩
  · exact Or.inl (List.cons.inj h0).1
  right
  obtain rfl := (List.cons.inj hv).1
  have hm : m = cap := by simpa using hm
  subst hm
  rw [cells33] at hx
  rcases Nat.eq_zero_or_pos m with h0 | h0
  · subst h0
    obtain rfl : len = 0 := by omega
    exact Or.inl ⟨a, rfl⟩
  · right
    have each : ∀ i, i < m → ∃ z : Mv, ∀ j, j < 4 → W.cell? ((a.add (i * 4)).add j) = (mvV z)[j]? := by
      intro i hi
      obtain ⟨cs', h1, h2⟩ := hx i hi
      obtain ⟨z, rfl⟩ := move_in h2
      exact ⟨z, (World.cells?_some h1).2.2⟩
    haveI : Inhabited Mv := ⟨⟨0, 0, 0, 0⟩⟩
    obtain ⟨f, hf⟩ := choose_lt (α := Mv) each
    have cellOf : ∀ i j, i < m → j < 4 → W.cell? (a.add (i * 4 + j)) = (mvV (f i))[j]? := fun i j hi hj => by rw [← add_add]; exact hf i hi j hj
    obtain ⟨c, t, fr, hc, _, hsp⟩ := cell_block (show W.cell? (a.add 0) = some (I (f 0).at_) from cellOf 0 0 h0 (by omega))
    have hsp := hsp rfl
    refine ⟨len, f, a.block, a.off, m, ?_, hl, c, t, fr, hc, ?_⟩
    · obtain ⟨b, o, s⟩ := a
      cases hsp
      rfl
    · intro j v hj
      have hlen := flatC_len (n := len) (k := 4) (g := fun i => mvV (f i)) (fun _ _ => rfl)
      have hj : (flatC len fun i => mvV (f i))[j]? = some v := hj
      have hjl : j < len * 4 := by
        have := (List.getElem?_eq_some_iff.1 hj).1
        omega
      have hi : j / 4 < len := by omega
      have hr : j % 4 < 4 := by omega
      have e := flatC_get (n := len) (k := 4) (g := fun i => mvV (f i)) (fun _ _ => rfl) hi hr
      rw [show j / 4 * 4 + j % 4 = j by omega, hj] at e
      have e2 := cellOf (j / 4) (j % 4) (by omega) hr
      rw [show j / 4 * 4 + j % 4 = j by omega, ← e] at e2
      refine ⟨flatC_atomic (n := len) (g := fun i => mvV (f i)) (fun i _ w hw => ?_) v (List.mem_of_getElem? hj), ?_⟩
      · have hw : w ∈ [I (f i).at_, I (f i).place, I (f i).lo, I (f i).hi] := hw
        simp only [List.mem_cons, List.not_mem_nil, or_false] at hw
        rcases hw with rfl | rfl | rfl | rfl <;> rfl
      · obtain ⟨c', t', fr', hc', hv', _⟩ := cell_block e2
        rw [hc] at hc'
        cases hc'
        exact hv'
theorem horses_in {fuel : Nat} {cs : List Value} {x : DataW H × List MemPlace} (h : DataW.trod enc Try.prog W 0 (fun _ => true) true fuel 24 cs = some x) :
    ∃ (p : Int) (v : Value), cs = [I p, v] ∧ (v = .slice none 0 0 ∨ (∃ a, v = .slice (some a) 0 0) ∨ ∃ (n : Nat) (f : Nat → Mv), SlAt W v n (mvs n f) 1) := by
  obtain ⟨y0, y1, n, _, hl, h0, h1⟩ := trod_struct2 Try.underlying24 h
  rw [cells24] at hl
  match cs, hl with
  | [w0, w1], _ =>
    obtain ⟨p, hp⟩ := int_in h0
    have hp : [w0] = [I p] := hp
    cases hp
    exact ⟨p, w1, rfl, moves_in (show DataW.trod enc Try.prog W 0 (fun _ => true) true n 22 [w1] = some y1 from h1)⟩
end
section
variable {W : World}
theorem vs3 {x y : RoB} {p : Int} {b : Bool} {v v' w w' : Value} (hv : VRel (roN x y) v v') (hw : VRel (roN x y) w w') :
    VsRel (roN x y) [.agg ⟨[I p, v]⟩, .bool b, w] [.agg ⟨[I p, v']⟩, .bool b, w'] :=
  .agg (.atom rfl hv) (.atom rfl hw)
theorem v_none {x y : RoB} : VRel (roN x y) nilS (.slice none 0 0) := .atom rfl .nil
theorem v_zero {x y : RoB} {i : Nat} {a : Addr} {f : BInfo} (h : roN x y i = some f) (he : f.extra = 0) : VRel (roN x y) (.slice (some ⟨i, 0, none⟩) 0 0) (.slice (some a) 0 0) := by
  have := VsRel.slice (m := roN x y) (i := i) (o := 0) (n := 0) (c := 0) (f := f) (a := a) (l := []) (l' := []) h (Nat.le_refl _) (fun hp => by omega) .nil
  rw [he] at this
  exact this
theorem v_at {x y : RoB} {i b o n c : Nat} (h : roN x y i = some ⟨b, o, 0⟩) (hn : n ≤ c) : VRel (roN x y) (.slice (some ⟨i, 0, none⟩) n c) (.slice (some ⟨b, o, none⟩) n c) :=
  VsRel.slice (m := roN x y) (i := i) (o := 0) (n := n) (c := c) (f := ⟨b, o, 0⟩) (a := ⟨b, o, none⟩) (l := []) (l' := []) h hn (fun _ => rfl) .nil
theorem run5 {p : Int} {sure : Bool} {v w : Value}
    (hv : v = .slice none 0 0 ∨ (∃ a, v = .slice (some a) 0 0) ∨ ∃ (n : Nat) (f : Nat → Mv), SlAt W v n (mvs n f) 1)
    (hw : w = .slice none 0 0 ∨ (∃ a, w = .slice (some a) 0 0) ∨ ∃ (n : Nat) (f : Nat → Int), (∀ i, i < n → 0 ≤ f i ∧ f i < 256) ∧ SlAt W w n (u8s n f) 2) :
    Calls Try.prog 5 #[.agg #[I p, v], .bool sure, w] W fun e W' => e = .returned (.bool true) ∧ Below W.heap.size W W' := by
  rcases hv with rfl | ⟨a, rfl⟩ | ⟨n, f, b, o, c, rfl, hn, hx⟩
  · rcases hw with rfl | ⟨a', rfl⟩ | ⟨k, g, hg, b', o', d, rfl, hk, hy⟩
    · exact calls_ro (x := none) (y := none) trivial trivial (vs3 v_none v_none) (law5zn p sure)
    · exact calls_ro (x := none) (y := none) trivial trivial (vs3 v_none (v_zero (i := 1) rfl rfl)) (law5w4 p sure 0 0)
    · exact calls_ro (x := none) (y := some (⟨b', o', 0⟩, u8s k g, 2)) trivial hy (vs3 v_none (v_at rfl hk)) (law5z p sure k d _)
  · rcases hw with rfl | ⟨a', rfl⟩ | ⟨k, g, hg, b', o', d, rfl, hk, hy⟩
    · exact calls_ro (x := none) (y := none) trivial trivial (vs3 (v_zero (i := 0) rfl rfl) v_none) (law5w2 p sure)
    · exact calls_ro (x := none) (y := none) trivial trivial (vs3 (v_zero (i := 0) rfl rfl) (v_zero (i := 1) rfl rfl)) (law5w3 p sure 0 0)
    · exact calls_ro (x := none) (y := some (⟨b', o', 0⟩, u8s k g, 2)) trivial hy (vs3 (v_zero (i := 0) rfl rfl) (v_at rfl hk)) (law5w1 p sure k d _)
  · rcases hw with rfl | ⟨a', rfl⟩ | ⟨k, g, hg, b', o', d, rfl, hk, hy⟩
    · exact calls_ro (x := some (⟨b, o, 0⟩, mvs n f, 1)) (y := none) hx trivial (vs3 (v_at rfl hn) v_none) (law5nany p sure n c f)
    · have hy : RoHolds W (some (⟨b, o, 0⟩, u8s 0 fun _ => 0, 2)) := by
        obtain ⟨cs, t, fr, h1, _⟩ := hx
        exact ⟨cs, t, fr, h1, fun j v hj => by cases hj⟩
      exact calls_ro (x := some (⟨b, o, 0⟩, mvs n f, 1)) (y := some (⟨b, o, 0⟩, u8s 0 fun _ => 0, 2)) hx hy (vs3 (v_at rfl hn) (v_zero (i := 1) rfl rfl)) (law5any p sure n c 0 0 f (fun _ => 0) (fun i hi => by omega))
    · exact calls_ro (x := some (⟨b, o, 0⟩, mvs n f, 1)) (y := some (⟨b', o', 0⟩, u8s k g, 2)) hx hy (vs3 (v_at rfl hn) (v_at rfl hk)) (law5any p sure n c k d f g hg)
end
end Go.Ab
