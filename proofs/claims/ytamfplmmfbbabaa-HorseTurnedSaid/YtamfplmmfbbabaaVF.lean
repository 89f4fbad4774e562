/- package horse: how late moves begin: its loop. -/
import Derived.Test.YtamfplmmfbbabaaVE
set_option maxRecDepth 100000
namespace Go.Ab
open Go Go.RowKit Go.Proofs
def lgS (sure : Bool) (f : Nat → Mv) (i : Nat) : Int := cond sure (f i).hi (f i).lo
theorem lgS_le {p : Int} {n : Nat} {f : Nat → Mv} (h : okH p n f = true) (sure : Bool) : ∀ i, i < n → 0 ≤ lgS sure f i ∧ lgS sure f i ≤ 20 := fun i hi => by
  have h1 := (okH_iff h).mv i hi
  have := h1.lo1; have := h1.lohi; have := h1.hi1
  cases sure <;> simp only [lgS, cond_true, cond_false] <;> omega
theorem ints_cons (n : Nat) (g : Nat → Int) : ints n g = (List.range n).map fun i => I (g i) := by
  simp only [ints, flatC]
  exact List.map_eq_flatMap.symm
theorem zCells_ints (n : Nat) : zCells [Value.int .i64 (0 : Int)] (n * 1) = ints n fun _ => (0 : Int) := by
  rw [Nat.mul_one, ints_cons]
  simp only [zCells, List.length_singleton, Nat.mod_one]
  rfl
end Go.Ab
set_option maxRecDepth 100000
namespace Go.Ab
open Go Go.RowKit Go.Proofs
def p54 : Loc := .l (.r (.l (.r (.r (.top 54)))))
noncomputable def T54 (sure : Bool) : Tw := ⟨33, mkS 33 [(1, .hole .nil), (2, .iface (trI sure) (.agg .nil .nil) .nil), (7, .hole .nil), (12, .slice 0 0 .nil), (13, .hole .nil), (14, .hole .nil)], 2, [.list 1 .ro, .dead]⟩
end Go.Ab
set_option maxRecDepth 100000
namespace Go.Ab
open Go Go.RowKit Go.Proofs
end Go.Ab
set_option maxRecDepth 100000
namespace Go.Ab
open Go Go.RowKit Go.Proofs
theorem b54t (m : Int) (n c i : Nat) (k : Int) (f : Nat → Mv) (ms : List Value) (R : Nat → AExit → Hw → Prop) : (vx.code none (.l p54) (leafW [T54 true] R) ((T54 true).inst ⟨⟨[I m, I k, I n, I i], [(n, c)]⟩, [ms], []⟩) ([(0, .split ((1, .val (.pointer (.some ⟨((0 : Nat)), ((0 : Nat) + i * (4 : Nat)), .none⟩))) :: (0, .val (.agg ⟨[(.int .i64 ((f i).at_)), (.int .i64 ((f i).place)), (.int .i64 ((f i).lo)), (.int .i64 ((f i).hi))]⟩)) :: (17, Hint.again) :: [(6, .split ([(3, .split ([(8, .tm 0 [])]) ([(5, .tm 0 [])]))]) ([(6, .tm 0 [])]))]) ([(1, .tm 0 [])]))])) =
((((decide ((↑i : Int) < (↑n : Int))) = true → ((((((0 : Int) ≤ (↑i : Int))) ∧ (((↑i : Int) < (↑n : Int)))) ∧ (((.pointer (.some ⟨((0 : Nat)), ((0 : Nat) + i * (4 : Nat)), .none⟩)) : Value) = (.pointer (.some ⟨((0 : Nat)), ((0 : Nat) + i * (4 : Nat)), .none⟩)))) ∧
(((((0 : Nat) + i * (4 : Nat) + (4 : Nat) ≤ ms.length)) ∧ (((.agg ⟨[(.int .i64 ((f i).at_)), (.int .i64 ((f i).place)), (.int .i64 ((f i).lo)), (.int .i64 ((f i).hi))]⟩) : Value) = (.agg ⟨(List.take ((4 : Nat)) (List.drop ((0 : Nat) + i * (4 : Nat)) (ms)))⟩))) ∧
(((((some (.int .i64 ((f i).at_)) : Option Value) = some (.int .i64 ((f i).at_)))) ∧ ((((some (.int .i64 ((f i).at_)) : Option Value) = some (.int .i64 ((f i).at_)))) ∧ (True))) ∧
(((decide ((f i).at_ ≤ m)) = true → (((decide (m ≤ IntKind.i64.wrap (IntKind.i64.wrap ((f i).at_ + (f i).hi) - (1 : Int)))) = true → R 0 .normal ⟨⟨[(.int .i64 m), (.int .i64 (IntKind.i64.wrap (k + (1 : Int)))), (.int .i64 n), (.int .i64 (IntKind.i64.wrap ((↑i : Int) + (1 : Int))))], [⟨n, c⟩]⟩, [(ms)], []⟩) ∧
((decide (m ≤ IntKind.i64.wrap (IntKind.i64.wrap ((f i).at_ + (f i).hi) - (1 : Int)))) = false → R 0 .normal ⟨⟨[(.int .i64 m), (.int .i64 k), (.int .i64 n), (.int .i64 (IntKind.i64.wrap ((↑i : Int) + (1 : Int))))], [⟨n, c⟩]⟩, [(ms)], []⟩))) ∧
((decide ((f i).at_ ≤ m)) = false → R 0 .normal ⟨⟨[(.int .i64 m), (.int .i64 k), (.int .i64 n), (.int .i64 (IntKind.i64.wrap ((↑i : Int) + (1 : Int))))], [⟨n, c⟩]⟩, [(ms)], []⟩)))))) ∧
((decide ((↑i : Int) < (↑n : Int))) = false → R 0 (.exit ((0 : Nat))) ⟨⟨[(.int .i64 m), (.int .i64 k), (.int .i64 n), (.int .i64 i)], [⟨n, c⟩]⟩, [(ms)], []⟩))) := by kernel_rfl
theorem b54f (m : Int) (n c i : Nat) (k : Int) (f : Nat → Mv) (ms : List Value) (R : Nat → AExit → Hw → Prop) : (vx.code none (.l p54) (leafW [T54 false] R) ((T54 false).inst ⟨⟨[I m, I k, I n, I i], [(n, c)]⟩, [ms], []⟩) ([(0, .split ((1, .val (.pointer (.some ⟨((0 : Nat)), ((0 : Nat) + i * (4 : Nat)), .none⟩))) :: (0, .val (.agg ⟨[(.int .i64 ((f i).at_)), (.int .i64 ((f i).place)), (.int .i64 ((f i).lo)), (.int .i64 ((f i).hi))]⟩)) :: (17, Hint.again) :: [(6, .split ([(3, .split ([(8, .tm 0 [])]) ([(5, .tm 0 [])]))]) ([(6, .tm 0 [])]))]) ([(1, .tm 0 [])]))])) =
((((decide ((↑i : Int) < (↑n : Int))) = true → ((((((0 : Int) ≤ (↑i : Int))) ∧ (((↑i : Int) < (↑n : Int)))) ∧ (((.pointer (.some ⟨((0 : Nat)), ((0 : Nat) + i * (4 : Nat)), .none⟩)) : Value) = (.pointer (.some ⟨((0 : Nat)), ((0 : Nat) + i * (4 : Nat)), .none⟩)))) ∧
(((((0 : Nat) + i * (4 : Nat) + (4 : Nat) ≤ ms.length)) ∧ (((.agg ⟨[(.int .i64 ((f i).at_)), (.int .i64 ((f i).place)), (.int .i64 ((f i).lo)), (.int .i64 ((f i).hi))]⟩) : Value) = (.agg ⟨(List.take ((4 : Nat)) (List.drop ((0 : Nat) + i * (4 : Nat)) (ms)))⟩))) ∧
(((((some (.int .i64 ((f i).at_)) : Option Value) = some (.int .i64 ((f i).at_)))) ∧ ((((some (.int .i64 ((f i).at_)) : Option Value) = some (.int .i64 ((f i).at_)))) ∧ (True))) ∧
(((decide ((f i).at_ ≤ m)) = true → (((decide (m ≤ IntKind.i64.wrap (IntKind.i64.wrap ((f i).at_ + (f i).lo) - (1 : Int)))) = true → R 0 .normal ⟨⟨[(.int .i64 m), (.int .i64 (IntKind.i64.wrap (k + (1 : Int)))), (.int .i64 n), (.int .i64 (IntKind.i64.wrap ((↑i : Int) + (1 : Int))))], [⟨n, c⟩]⟩, [(ms)], []⟩) ∧
((decide (m ≤ IntKind.i64.wrap (IntKind.i64.wrap ((f i).at_ + (f i).lo) - (1 : Int)))) = false → R 0 .normal ⟨⟨[(.int .i64 m), (.int .i64 k), (.int .i64 n), (.int .i64 (IntKind.i64.wrap ((↑i : Int) + (1 : Int))))], [⟨n, c⟩]⟩, [(ms)], []⟩))) ∧
((decide ((f i).at_ ≤ m)) = false → R 0 .normal ⟨⟨[(.int .i64 m), (.int .i64 k), (.int .i64 n), (.int .i64 (IntKind.i64.wrap ((↑i : Int) + (1 : Int))))], [⟨n, c⟩]⟩, [(ms)], []⟩)))))) ∧
((decide ((↑i : Int) < (↑n : Int))) = false → R 0 (.exit ((0 : Nat))) ⟨⟨[(.int .i64 m), (.int .i64 k), (.int .i64 n), (.int .i64 i)], [⟨n, c⟩]⟩, [(ms)], []⟩))) := by kernel_rfl
theorem f54t (p m k : Int) (n c : Nat) (ms : List Value) (R : ARes → Prop) : (vx.call 54 [hV p n c, I m, .iface (trI true) (.agg ⟨[]⟩)] (retK R) (m1 ms) ((9, Hint.loopW (T54 true) (AExit.exit (0 : Nat)) (T54 true) fun _ => { hs := { vs := [I m, I k, I (↑n : Int), I (↑n : Int)], ns := [(n, c)] }, ls := [ms], es := [] }) :: [])) =
(((ClW ⟨⟨[(.int .i64 m), (.int .i64 0), (.int .i64 n), (.int .i64 0)], [⟨n, c⟩]⟩, [(ms)], []⟩) ∧ (LoopOW Try.prog .none p54 (T54 true) ⟨⟨[(.int .i64 m), (.int .i64 0), (.int .i64 n), (.int .i64 0)], [⟨n, c⟩]⟩, [(ms)], []⟩ (.exit ((0 : Nat))) (T54 true) ⟨⟨[(.int .i64 m), (.int .i64 k), (.int .i64 n), (.int .i64 n)], [⟨n, c⟩]⟩, [(ms)], []⟩) ∧
R (.ret (.int .i64 k)))) := by kernel_rfl
theorem f54f (p m k : Int) (n c : Nat) (ms : List Value) (R : ARes → Prop) : (vx.call 54 [hV p n c, I m, .iface (trI false) (.agg ⟨[]⟩)] (retK R) (m1 ms) ((9, Hint.loopW (T54 false) (AExit.exit (0 : Nat)) (T54 false) fun _ => { hs := { vs := [I m, I k, I (↑n : Int), I (↑n : Int)], ns := [(n, c)] }, ls := [ms], es := [] }) :: [])) =
(((ClW ⟨⟨[(.int .i64 m), (.int .i64 0), (.int .i64 n), (.int .i64 0)], [⟨n, c⟩]⟩, [(ms)], []⟩) ∧ (LoopOW Try.prog .none p54 (T54 false) ⟨⟨[(.int .i64 m), (.int .i64 0), (.int .i64 n), (.int .i64 0)], [⟨n, c⟩]⟩, [(ms)], []⟩ (.exit ((0 : Nat))) (T54 false) ⟨⟨[(.int .i64 m), (.int .i64 k), (.int .i64 n), (.int .i64 n)], [⟨n, c⟩]⟩, [(ms)], []⟩) ∧
R (.ret (.int .i64 k)))) := by kernel_rfl
def cntN (b : Nat → Bool) : Nat → Nat
  | 0 => 0
  | i + 1 => if b i then cntN b i + 1 else cntN b i
theorem cntN_le (b : Nat → Bool) (i : Nat) : cntN b i ≤ i := by
  induction i with
  | zero => exact Nat.le_refl 0
  | succ i ih => simp only [cntN]; split <;> omega
def undB (m : Int) (f : Nat → Mv) (lg : Nat → Int) (i : Nat) : Bool := decide ((f i).at_ ≤ m) && decide (m < (f i).at_ + lg i)
noncomputable def h54 (m : Int) (n c : Nat) (f : Nat → Mv) (lg : Nat → Int) (i : Nat) : Hw := ⟨⟨[I m, I (cntN (undB m f lg) i : Nat), I n, I i], [(n, c)]⟩, [mvs n f], []⟩
theorem mvs_atom (n : Nat) (f : Nat → Mv) : ∀ v ∈ mvs n f, atomic v = true := fun v hv => mvs_atoms n f _ (by simp) v hv
theorem round54 (sure : Bool) {p m : Int} {n c : Nat} {f : Nat → Mv} {i : Nat} (hok : okH p n f = true) (hi : i < n) {R : Nat → AExit → Hw → Prop} (hR : R 0 .normal (h54 m n c f (lgS sure f) (i + 1))) :
    ∃ hs, vx.code none (.l p54) (leafW [T54 sure] R) ((T54 sure).inst (h54 m n c f (lgS sure f) i)) hs := by
  have hH := okH_iff hok
  have h7 := hH.n7
  have hm := hH.mv i hi
  have a1 := hm.at0; have a2 := hm.at1; have a3 := hm.lo1; have a4 := hm.lohi; have a5 := hm.hi1
  have hl := lgS_le hok sure i hi
  have hc := cntN_le (undB m f (lgS sure f)) i
  have hw : IntKind.i64.wrap ((i : Int) + 1) = ((i + 1 : Nat) : Int) := wrapI (by omega) (by omega)
  have hw2 : IntKind.i64.wrap (((cntN (undB m f (lgS sure f)) i : Nat) : Int) + 1) = ((cntN (undB m f (lgS sure f)) i + 1 : Nat) : Int) := wrapI (by omega) (by omega)
  have w1 : IntKind.i64.wrap (IntKind.i64.wrap ((f i).at_ + lgS sure f i) - 1) = (f i).at_ + lgS sure f i - 1 := by
    rw [wrapI (x := (f i).at_ + lgS sure f i) (by omega) (by omega)]
    exact wrapI (by omega) (by omega)
  have l1 := flatC_bound (k := 4) hi
  simp only [h54, cntN] at hR
  simp only [h54]
  have hu : undB m f (lgS sure f) i = (decide ((f i).at_ ≤ m) && decide (m ≤ (f i).at_ + lgS sure f i - 1)) := by
    simp only [undB]
    congr 1
    exact decide_eq_decide.2 (by omega)
  rw [hu] at hR
  generalize cntN (undB m f (lgS sure f)) i = k at hR hw2
  cases sure
  · refine ⟨_, (b54f m n c i k f (mvs n f) R).mpr ⟨fun _ => ?_, fun h => absurd hi (by simpa using h)⟩⟩
    have w1' : IntKind.i64.wrap (IntKind.i64.wrap ((f i).at_ + (f i).lo) - 1) = (f i).at_ + lgS false f i - 1 := w1
    rw [hw, hw2, w1']
    repeat' (first | with_reducible apply And.intro | with_reducible intro)
    all_goals first
      | trivial
      | omega
      | rfl
      | (rw [mvs_len]; omega)
      | (rw [mvs_part f hi]; rfl)
      | (simp only [*, Bool.and_true, Bool.and_false, Bool.false_and, if_true, if_false, Bool.false_eq_true] at hR; exact hR)
  · refine ⟨_, (b54t m n c i k f (mvs n f) R).mpr ⟨fun _ => ?_, fun h => absurd hi (by simpa using h)⟩⟩
    have w1' : IntKind.i64.wrap (IntKind.i64.wrap ((f i).at_ + (f i).hi) - 1) = (f i).at_ + lgS true f i - 1 := w1
    rw [hw, hw2, w1']
    repeat' (first | with_reducible apply And.intro | with_reducible intro)
    all_goals first
      | trivial
      | omega
      | rfl
      | (rw [mvs_len]; omega)
      | (rw [mvs_part f hi]; rfl)
      | (simp only [*, Bool.and_true, Bool.and_false, Bool.false_and, if_true, if_false, Bool.false_eq_true] at hR; exact hR)
theorem loop54 (sure : Bool) {p m : Int} {n c : Nat} {f : Nat → Mv} (hok : okH p n f = true) : LoopOW Try.prog none p54 (T54 sure) (h54 m n c f (lgS sure f) 0) (.exit 0) (T54 sure) (h54 m n c f (lgS sure f) n) := by
  refine loop_forW (Ts := [T54 sure]) (k := 2) (n := n) (st := fun i => (0, h54 m n c f (lgS sure f) i)) (e := .exit 0) rfl vx_sound (by intro T hT; simp only [List.mem_singleton] at hT; subst hT; rfl) (by rw [nglob]; omega) ⟨by simp, trivial⟩ (fun i hi => cl1 (mvs_atom n f))
    (fun i hi R hR => ?_) (fun R hR => ?_) (T0 := T54 sure) (T1 := T54 sure) rfl (Nat.le_of_ble_eq_true rfl) (by decide) rfl
  · obtain ⟨hs, h⟩ := round54 sure hok hi hR
    exact ⟨T54 sure, hs, rfl, h⟩
  · cases sure
    · exact ⟨T54 false, _, rfl, (b54f m n c n _ f (mvs n f) R).mpr ⟨fun h => absurd (of_decide_eq_true h) (by omega), fun _ => hR⟩⟩
    · exact ⟨T54 true, _, rfl, (b54t m n c n _ f (mvs n f) R).mpr ⟨fun h => absurd (of_decide_eq_true h) (by omega), fun _ => hR⟩⟩
noncomputable def C54 (sure : Bool) (p m : Int) (n c : Nat) (f : Nat → Mv) : Con where
  A := .agg (.hole (.slice 0 0 .nil)) (.hole (.iface (trI sure) (.agg .nil .nil) .nil))
  bs := [.list 1 .ro]
  pre x := x = ⟨⟨[I p, I m], [(n, c)]⟩, [mvs n f]⟩
  res _ := .ret (I (cntN (undB m f (lgS sure f)) n : Nat))
theorem C54_ok (sure : Bool) (p m : Int) (n c : Nat) (f : Nat → Mv) (hok : okH p n f = true) : ConOK Try.prog 54 (C54 sure p m n c f) := by
  refine con_of vx_sound ⟨⟨[I p, I m], [(n, c)]⟩, [mvs n f]⟩ (fun x hx => ?_) rfl (fun _ _ => rfl) (fun x hx => by cases hx; exact mvs_atoms n f) rfl (Nat.le_of_ble_eq_true rfl) (by rw [nglob]; exact Nat.zero_le _)
  cases hx
  have hl := loop54 sure (m := m) (c := c) hok
  cases sure
  · exact ⟨_, (f54f p m (cntN (undB m f (lgS false f)) n : Nat) n c (mvs n f) _).mpr ⟨cl1 (mvs_atom n f), hl, rfl⟩⟩
  · exact ⟨_, (f54t p m (cntN (undB m f (lgS true f)) n : Nat) n c (mvs n f) _).mpr ⟨cl1 (mvs_atom n f), hl, rfl⟩⟩
end Go.Ab
