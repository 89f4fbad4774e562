/- FORMS OF STATES AT LOOPS' HEADS, package horse and what speaks of it. -/
import Derived.Test.YtamfplmmfbbabaaUT
set_option maxRecDepth 100000
namespace Go.Ab
open Go Go.RowKit Go.Proofs
noncomputable def m2 (ms ps : List Value) : Mem := ⟨fillX [.cells ms 1 .ro, .cells ps 3 .ro] 0 .nil, 2⟩
noncomputable def slV (j n c : Nat) : Value := .slice (some ⟨j, 0, none⟩) n c
def p68 : Loc := .l (.r (.l (.r (.r (.top 68)))))
def T68 : Tm := ⟨26, mkS 26 [(16, .slice 0 0 .nil), (17, .hole .nil), (18, .hole .nil)], 2, [.list 1 .ro, .dead]⟩
def R68 : Tm := ⟨26, mkS 26 [(2, .hole .nil)], 2, [.dead, .dead]⟩
def p39 : Loc := .l (.r (.l (.r (.r (.top 39)))))
def T39 : Tm := ⟨23, mkS 23 [(13, .slice 1 0 .nil), (14, .hole .nil), (15, .hole .nil)], 3, [.dead, .list 3 .ro, .dead]⟩
def R39 : Tm := ⟨23, mkS 23 [(4, .hole .nil)], 3, [.dead, .dead, .dead]⟩
def p49 : Loc := .l (.r (.l (.r (.r (.top 49)))))
noncomputable def nilS : Value := .slice none 0 0
noncomputable def T49a : Tm := ⟨23, mkS 23 [(3, .val nilS .nil), (8, .slice 0 0 .nil), (9, .hole .nil), (10, .hole .nil)], 2, [.list 1 .ro, .dead]⟩
noncomputable def T49b : Tm := ⟨23, mkS 23 [(3, .slice 2 0 .nil), (8, .slice 0 0 .nil), (9, .hole .nil), (10, .hole .nil)], 2, [.list 1 .ro, .dead, .list 97 .row]⟩
end Go.Ab
set_option maxRecDepth 100000
namespace Go.Ab
open Go Go.RowKit Go.Proofs
theorem b68 (k : Int) (i n c : Nat) (ms : List Value) (f : Nat → Mv) (R : Nat → AExit → Hx → Prop) : (vx.code none (.l p68) (leafK [T68, R68] R) (T68.inst ⟨⟨[I k, I i], [(n, c)]⟩, [ms]⟩) ([(0, .split ((1, .val (.pointer (.some ⟨((0 : Nat)), ((0 : Nat) + i * (4 : Nat)), .none⟩))) :: (0, .val (.agg ⟨[(.int .i64 ((f i).at_)), (.int .i64 ((f i).place)), (.int .i64 ((f i).lo)), (.int .i64 ((f i).hi))]⟩)) :: [(12, .split ([(3, .split ([(9, .split ([(3, .split ([(11, .split ([(3, .split ([(6, .split ([(8, .tm 0 [])]) ([(7, .tm 1 [])]))]) ([(9, .tm 1 [])]))]) ([(10, .tm 1 [])]))]) ([(9, .tm 1 [])]))]) ([(10, .tm 1 [])]))]) ([(10, .tm 1 [])]))]) ([(11, .tm 1 [])]))]) ([(1, .tm 0 [])]))])) =
((((decide ((↑i : Int) < k)) = true → ((((((0 : Int) ≤ (↑i : Int))) ∧ (((↑i : Int) < (↑n : Int)))) ∧ (((.pointer (.some ⟨((0 : Nat)), ((0 : Nat) + i * (4 : Nat)), .none⟩)) : Value) = (.pointer (.some ⟨((0 : Nat)), ((0 : Nat) + i * (4 : Nat)), .none⟩)))) ∧
(((((0 : Nat) + i * (4 : Nat) + (4 : Nat) ≤ ms.length)) ∧ (((.agg ⟨[(.int .i64 ((f i).at_)), (.int .i64 ((f i).place)), (.int .i64 ((f i).lo)), (.int .i64 ((f i).hi))]⟩) : Value) = (.agg ⟨(List.take ((4 : Nat)) (List.drop ((0 : Nat) + i * (4 : Nat)) (ms)))⟩))) ∧
(((decide ((0 : Int) ≤ (f i).at_)) = true → (((decide ((f i).at_ ≤ (200 : Int))) = true → (((decide ((0 : Int) ≤ (f i).place)) = true → (((decide ((f i).place ≤ (30 : Int))) = true → (((decide ((f i).lo ≥ (1 : Int))) = true → (((decide ((f i).hi ≤ (20 : Int))) = true → (((decide ((f i).lo ≤ (f i).hi)) = true → R 0 .normal ⟨⟨[(.int .i64 k), (.int .i64 (IntKind.i64.wrap ((↑i : Int) + (1 : Int))))], [⟨n, c⟩]⟩, [(ms)]⟩) ∧
((decide ((f i).lo ≤ (f i).hi)) = false → R 1 .ret ⟨⟨[(.bool false)], []⟩, []⟩))) ∧
((decide ((f i).hi ≤ (20 : Int))) = false → R 1 .ret ⟨⟨[(.bool false)], []⟩, []⟩))) ∧
((decide ((f i).lo ≥ (1 : Int))) = false → R 1 .ret ⟨⟨[(.bool false)], []⟩, []⟩))) ∧
((decide ((f i).place ≤ (30 : Int))) = false → R 1 .ret ⟨⟨[(.bool false)], []⟩, []⟩))) ∧
((decide ((0 : Int) ≤ (f i).place)) = false → R 1 .ret ⟨⟨[(.bool false)], []⟩, []⟩))) ∧
((decide ((f i).at_ ≤ (200 : Int))) = false → R 1 .ret ⟨⟨[(.bool false)], []⟩, []⟩))) ∧
((decide ((0 : Int) ≤ (f i).at_)) = false → R 1 .ret ⟨⟨[(.bool false)], []⟩, []⟩))))) ∧
((decide ((↑i : Int) < k)) = false → R 0 (.exit ((0 : Nat))) ⟨⟨[(.int .i64 k), (.int .i64 i)], [⟨n, c⟩]⟩, [(ms)]⟩))) := by kernel_rfl
theorem f68t (p : Int) (n c : Nat) (ms : List Value) (R : ARes → Prop) : (vx.call 68 [hV p n c] (retK R) (m1 ms) ([(9, .split ([(3, .split ([(7, .split ([]) ((6, Hint.loopT T68 (AExit.exit (0 : Nat)) T68 fun _ => { hs := { vs := [I (↑n : Int), I (↑n : Int)], ns := [(n, c)] }, ls := [ms] }) :: []))]) ([]))]) ([]))])) =
((((decide ((0 : Int) ≤ p)) = true → (((decide (p ≤ (3 : Int))) = true → (((decide ((↑n : Int) > (7 : Int))) = true → R (.ret (.bool false))) ∧
((decide ((↑n : Int) > (7 : Int))) = false → ((Atoms [(ms)]) ∧ (LoopOK Try.prog .none p68 T68 ⟨⟨[(.int .i64 n), (.int .i64 0)], [⟨n, c⟩]⟩, [(ms)]⟩ (.exit ((0 : Nat))) T68 ⟨⟨[(.int .i64 n), (.int .i64 n)], [⟨n, c⟩]⟩, [(ms)]⟩) ∧
R (.ret (.bool true)))))) ∧
((decide (p ≤ (3 : Int))) = false → R (.ret (.bool false))))) ∧
((decide ((0 : Int) ≤ p)) = false → R (.ret (.bool false))))) := by kernel_rfl
theorem f68f (p : Int) (n c : Nat) (ms : List Value) (R : ARes → Prop) : (vx.call 68 [hV p n c] (retK R) (m1 ms) ([(9, .split ([(3, .split ([(7, .split ([]) ((6, Hint.loopT T68 AExit.ret R68 fun _ => { hs := { vs := [Value.bool false], ns := [] }, ls := [] }) :: []))]) ([]))]) ([]))])) =
((((decide ((0 : Int) ≤ p)) = true → (((decide (p ≤ (3 : Int))) = true → (((decide ((↑n : Int) > (7 : Int))) = true → R (.ret (.bool false))) ∧
((decide ((↑n : Int) > (7 : Int))) = false → ((Atoms [(ms)]) ∧ (LoopOK Try.prog .none p68 T68 ⟨⟨[(.int .i64 n), (.int .i64 0)], [⟨n, c⟩]⟩, [(ms)]⟩ .ret R68 ⟨⟨[(.bool false)], []⟩, []⟩) ∧
R (.ret (.bool false)))))) ∧
((decide (p ≤ (3 : Int))) = false → R (.ret (.bool false))))) ∧
((decide ((0 : Int) ≤ p)) = false → R (.ret (.bool false))))) := by kernel_rfl
theorem b39 (k : Int) (i n c : Nat) (ms : List Value) (f : Nat → Int) (R : Nat → AExit → Hx → Prop) : (vx.code none (.l p39) (leafK [T39, R39] R) (T39.inst ⟨⟨[I k, I i], [(n, c)]⟩, [ms]⟩) ([(0, .split ((1, .val (.pointer (.some ⟨((1 : Nat)), ((0 : Nat) + i * (1 : Nat)), .none⟩))) :: (0, .val (.int .i64 (f i))) :: [(6, .split ([(3, .split ([(6, .tm 0 [])]) ([(5, .tm 1 [])]))]) ([(6, .tm 1 [])]))]) ([(1, .tm 0 [])]))])) =
((((decide ((↑i : Int) < k)) = true → ((((((0 : Int) ≤ (↑i : Int))) ∧ (((↑i : Int) < (↑n : Int)))) ∧ (((.pointer (.some ⟨((1 : Nat)), ((0 : Nat) + i * (1 : Nat)), .none⟩)) : Value) = (.pointer (.some ⟨((1 : Nat)), ((0 : Nat) + i * (1 : Nat)), .none⟩)))) ∧
(((ms[(0 : Nat) + i * (1 : Nat)]? = some (.int .i64 (f i)))) ∧
(((decide ((0 : Int) ≤ f i)) = true → (((decide (f i ≤ (6 : Int))) = true → R 0 .normal ⟨⟨[(.int .i64 k), (.int .i64 (IntKind.i64.wrap ((↑i : Int) + (1 : Int))))], [⟨n, c⟩]⟩, [(ms)]⟩) ∧
((decide (f i ≤ (6 : Int))) = false → R 1 .ret ⟨⟨[(.bool false)], []⟩, []⟩))) ∧
((decide ((0 : Int) ≤ f i)) = false → R 1 .ret ⟨⟨[(.bool false)], []⟩, []⟩))))) ∧
((decide ((↑i : Int) < k)) = false → R 0 (.exit ((0 : Nat))) ⟨⟨[(.int .i64 k), (.int .i64 i)], [⟨n, c⟩]⟩, [(ms)]⟩))) := by kernel_rfl
theorem f39t (p : Int) (n c k d : Nat) (ms ps : List Value) (R : ARes → Prop) : (vx.call 39 [hV p n c, slV 1 k d] (retK R) (m2 ms ps) ([(8, .split ([]) ((4, Hint.loopT T39 (AExit.exit (0 : Nat)) T39 fun _ => { hs := { vs := [I (↑k : Int), I (↑k : Int)], ns := [(k, d)] }, ls := [ps] }) :: []))])) =
(((((↑k : Int) != (↑n : Int)) = true → R (.ret (.bool false))) ∧
(((↑k : Int) != (↑n : Int)) = false → ((Atoms [(ps)]) ∧ (LoopOK Try.prog .none p39 T39 ⟨⟨[(.int .i64 k), (.int .i64 0)], [⟨k, d⟩]⟩, [(ps)]⟩ (.exit ((0 : Nat))) T39 ⟨⟨[(.int .i64 k), (.int .i64 k)], [⟨k, d⟩]⟩, [(ps)]⟩) ∧
R (.ret (.bool true)))))) := by kernel_rfl
theorem f39f (p : Int) (n c k d : Nat) (ms ps : List Value) (R : ARes → Prop) : (vx.call 39 [hV p n c, slV 1 k d] (retK R) (m2 ms ps) ([(8, .split ([]) ((4, Hint.loopT T39 AExit.ret R39 fun _ => { hs := { vs := [Value.bool false], ns := [] }, ls := [] }) :: []))])) =
(((((↑k : Int) != (↑n : Int)) = true → R (.ret (.bool false))) ∧
(((↑k : Int) != (↑n : Int)) = false → ((Atoms [(ps)]) ∧ (LoopOK Try.prog .none p39 T39 ⟨⟨[(.int .i64 k), (.int .i64 0)], [⟨k, d⟩]⟩, [(ps)]⟩ .ret R39 ⟨⟨[(.bool false)], []⟩, []⟩) ∧
R (.ret (.bool false)))))) := by kernel_rfl
theorem b49a (k : Int) (i n c : Nat) (ms : List Value) (f : Nat → Mv) (R : Nat → AExit → Hx → Prop) : (vx.code none (.l p49) (leafK [T49a, T49b] R) (T49a.inst ⟨⟨[I k, I i], [(n, c)]⟩, [ms]⟩) ([(0, .split ((2, .val (.pointer (.some ⟨((0 : Nat)), ((0 : Nat) + i * (4 : Nat)), .none⟩))) :: (0, .val (.agg ⟨[(.int .i64 ((f i).at_)), (.int .i64 ((f i).place)), (.int .i64 ((f i).lo)), (.int .i64 ((f i).hi))]⟩)) :: [(12, Hint.tm (1 : Nat) [((2 : Nat), (4 : Nat))])]) ([(1, .tm 0 [])]))])) =
((((decide ((↑i : Int) < k)) = true → ((((((0 : Int) ≤ (↑i : Int))) ∧ (((↑i : Int) < (↑n : Int)))) ∧ (((.pointer (.some ⟨((0 : Nat)), ((0 : Nat) + i * (4 : Nat)), .none⟩)) : Value) = (.pointer (.some ⟨((0 : Nat)), ((0 : Nat) + i * (4 : Nat)), .none⟩)))) ∧
(((((0 : Nat) + i * (4 : Nat) + (4 : Nat) ≤ ms.length)) ∧ (((.agg ⟨[(.int .i64 ((f i).at_)), (.int .i64 ((f i).place)), (.int .i64 ((f i).lo)), (.int .i64 ((f i).hi))]⟩) : Value) = (.agg ⟨(List.take ((4 : Nat)) (List.drop ((0 : Nat) + i * (4 : Nat)) (ms)))⟩))) ∧
R 1 .normal ⟨⟨[(.int .i64 k), (.int .i64 (IntKind.i64.wrap ((↑i : Int) + (1 : Int))))], [⟨((1 : Nat)), ((1 : Nat))⟩, ⟨n, c⟩]⟩, [(ms), [(.int .i64 ((f i).at_)), (.int .i64 ((f i).place)), (.int .i64 ((f i).lo)), (.int .i64 ((f i).hi)), (.int .i64 i)]]⟩))) ∧
((decide ((↑i : Int) < k)) = false → R 0 (.exit ((0 : Nat))) ⟨⟨[(.int .i64 k), (.int .i64 i)], [⟨n, c⟩]⟩, [(ms)]⟩))) := by kernel_rfl
theorem b49b (k : Int) (i n c j : Nat) (ms ls : List Value) (f : Nat → Mv) (R : Nat → AExit → Hx → Prop) : (vx.code none (.l p49) (leafK [T49a, T49b] R) (T49b.inst ⟨⟨[I k, I i], [(j, j), (n, c)]⟩, [ms, ls]⟩) ([(0, .split ((2, .val (.pointer (.some ⟨((0 : Nat)), ((0 : Nat) + i * (4 : Nat)), .none⟩))) :: (0, .val (.agg ⟨[(.int .i64 ((f i).at_)), (.int .i64 ((f i).place)), (.int .i64 ((f i).lo)), (.int .i64 ((f i).hi))]⟩)) :: (8, Hint.grow) :: [(3, Hint.tm (1 : Nat) [((2 : Nat), (5 : Nat))])]) ([(1, Hint.tm (1 : Nat) [((2 : Nat), (2 : Nat))])]))])) =
((((decide ((↑i : Int) < k)) = true → ((((((0 : Int) ≤ (↑i : Int))) ∧ (((↑i : Int) < (↑n : Int)))) ∧ (((.pointer (.some ⟨((0 : Nat)), ((0 : Nat) + i * (4 : Nat)), .none⟩)) : Value) = (.pointer (.some ⟨((0 : Nat)), ((0 : Nat) + i * (4 : Nat)), .none⟩)))) ∧
(((((0 : Nat) + i * (4 : Nat) + (4 : Nat) ≤ ms.length)) ∧ (((.agg ⟨[(.int .i64 ((f i).at_)), (.int .i64 ((f i).place)), (.int .i64 ((f i).lo)), (.int .i64 ((f i).hi))]⟩) : Value) = (.agg ⟨(List.take ((4 : Nat)) (List.drop ((0 : Nat) + i * (4 : Nat)) (ms)))⟩))) ∧
((((¬j + (1 : Nat) ≤ j)) ∧ (((j * (5 : Nat) = ls.length)) ∧ ((((j + (1 : Nat)) * (40 : Nat) ≤ (140737488355328 : Nat))) ∧ ((j + (1 : Nat) ≤ (4611686018427387904 : Nat)))))) ∧
R 1 .normal ⟨⟨[(.int .i64 k), (.int .i64 (IntKind.i64.wrap ((↑i : Int) + (1 : Int))))], [⟨(j + (1 : Nat)), (j + (1 : Nat))⟩, ⟨n, c⟩]⟩, [(ms), ((List.take (j * (5 : Nat)) (ls)) ++ [(.int .i64 ((f i).at_)), (.int .i64 ((f i).place)), (.int .i64 ((f i).lo)), (.int .i64 ((f i).hi)), (.int .i64 i)])]⟩)))) ∧
((decide ((↑i : Int) < k)) = false → R 1 (.exit ((0 : Nat))) ⟨⟨[(.int .i64 k), (.int .i64 i)], [⟨j, j⟩, ⟨n, c⟩]⟩, [(ms), (ls)]⟩))) := by kernel_rfl
theorem f49 (p : Int) (n c : Nat) (ms js : List Value) (R : Hx → Prop) : (vx.call 49 [hV p n c] (retN (rowT 1 97) R) (m1 ms) ((9, Hint.loopT T49a (AExit.exit (0 : Nat)) T49b fun _ => { hs := { vs := [I (↑n : Int), I (↑n : Int)], ns := [(n, n), (n, c)] }, ls := [ms, js] }) :: [(2, Hint.tm (0 : Nat) [((1 : Nat), (2 : Nat))])])) =
(((Atoms [(ms)]) ∧ (LoopOK Try.prog .none p49 T49a ⟨⟨[(.int .i64 n), (.int .i64 0)], [⟨n, c⟩]⟩, [(ms)]⟩ (.exit ((0 : Nat))) T49b ⟨⟨[(.int .i64 n), (.int .i64 n)], [⟨n, n⟩, ⟨n, c⟩]⟩, [(ms), (js)]⟩) ∧
R ⟨⟨[], [⟨n, n⟩]⟩, [(js)]⟩)) := by kernel_rfl
noncomputable def st68 (n c : Nat) (f : Nat → Mv) (i : Nat) : Hx := ⟨⟨[I n, I i], [(n, c)]⟩, [mvs n f]⟩
noncomputable def out68 (n c : Nat) (f : Nat → Mv) (i : Nat) : AExit × Nat × Hx := if allFrom (fun i => okMv (f i)) (n - i) i then (.exit 0, 0, st68 n c f n) else (.ret, 1, ⟨⟨[.bool false], []⟩, []⟩)
theorem round68 {i n c : Nat} {f : Nat → Mv} {R : Nat → AExit → Hx → Prop} (hn : n ≤ 1000000) (h1 : i < n → okMv (f i) = true → R 0 .normal (st68 n c f (i + 1))) (h2 : i < n → okMv (f i) = false → R 1 .ret ⟨⟨[.bool false], []⟩, []⟩)
    (h3 : ¬ i < n → R 0 (.exit 0) (st68 n c f i)) : ∃ hs, vx.code none (.l p68) (leafK [T68, R68] R) (T68.inst (st68 n c f i)) hs := by
  refine ⟨_, (b68 n i n c (mvs n f) f R).mpr ⟨fun h => ?_, fun h => ?_⟩⟩
  · have hi : i < n := by simpa using h
    have hw : IntKind.i64.wrap ((i : Int) + 1) = ((i + 1 : Nat) : Int) := wrapI (by omega) (by omega)
    have h1 := h1 hi
    have h2 := h2 hi
    refine ⟨⟨⟨by omega, by omega⟩, rfl⟩, ⟨by rw [mvs_len]; have := flatC_bound (k := 4) hi; omega, by rw [mvs_part f hi]; rfl⟩, ?_⟩
    rw [hw]
    simp only [okMv] at h1 h2
    repeat' (first | with_reducible apply And.intro | with_reducible intro)
    all_goals first | (refine h2 ?_; simp_all; done) | (refine h1 ?_; simp_all; done) | (refine h2 ?_; simp_all; omega) | (refine h1 ?_; simp_all; omega)
  · exact h3 (by simpa using h)
theorem loop68 (n c : Nat) (f : Nat → Mv) (hn : n ≤ 1000000) : LoopOK Try.prog none p68 T68 (st68 n c f 0) (out68 n c f 0).1 (if allFrom (fun i => okMv (f i)) n 0 then T68 else R68) (out68 n c f 0).2.2 := by
  refine loop_vc (Ts := [T68, R68]) (k := 2) (X := Nat) (inv := fun i => i ≤ n) (μ := fun i => n - i) (st := fun i => (0, st68 n c f i)) (out := out68 n c f) rfl vx_sound (by decide) (by rw [nglob]; omega) (fun i hi => ?_) (Nat.zero_le n) rfl (by decide) (by decide) ?_
  · have step : i < n → out68 n c f i = if okMv (f i) then out68 n c f (i + 1) else (.ret, 1, ⟨⟨[.bool false], []⟩, []⟩) := fun h => by
      have e : n - i = (n - (i + 1)) + 1 := by omega
      simp only [out68, e, allFrom]
      cases okMv (f i) <;> simp
    obtain ⟨hs, hr⟩ := round68 (c := c) (R := RoundR (fun i => i ≤ n) (fun i => n - i) (fun i => (0, st68 n c f i)) (out68 n c f) i) hn
      (fun h ho => ⟨⟨mvs_atoms n f, trivial⟩, .inl ⟨rfl, i + 1, by omega, by show n - (i + 1) < n - i; omega, rfl, by rw [step h, if_pos ho]⟩⟩)
      (fun h ho => ⟨⟨fun _ h => (by cases h), trivial⟩, .inr ⟨by simp, by rw [step h, ho]; rfl⟩⟩)
      (fun h => ⟨⟨mvs_atoms n f, trivial⟩, .inr ⟨by simp, by
        have e : i = n := by omega
        subst e
        simp [out68, allFrom]⟩⟩)
    exact ⟨T68, hs, rfl, hr⟩
  · simp only [out68, Nat.sub_zero]
    split <;> rfl
noncomputable def C68 (p : Int) (n c : Nat) (f : Nat → Mv) : Con := C21 p n c f
theorem C68_ok (p : Int) (n c : Nat) (f : Nat → Mv) (hn : n ≤ 1000000) : ConOK Try.prog 68 (C68 p n c f) := by
  refine con_of vx_sound _ (fun x hx => ?_) rfl (fun _ _ => rfl) (fun x hx => by cases hx; exact mvs_atoms n f) rfl (Nat.le_of_ble_eq_true rfl) (by rw [nglob]; exact Nat.zero_le _)
  cases hx
  have hl := loop68 n c f hn
  simp only [out68, Nat.sub_zero] at hl
  have hres : ∀ b, okH p n f = b → (ARes.ret (.bool b) = ((C68 p n c f).res ⟨⟨[I p], [(n, c)]⟩, [mvs n f]⟩)) := fun b hb => by subst hb; rfl
  cases hb : allFrom (fun i => okMv (f i)) n 0 with
  | true =>
    simp only [hb, if_true] at hl
    refine ⟨_, (f68t p n c (mvs n f) _).mpr ?_⟩
    generalize ((C68 p n c f).res ⟨⟨[I p], [(n, c)]⟩, [mvs n f]⟩) = z at hres
    simp only [okH, hb] at hres
    repeat' (first | with_reducible apply And.intro | with_reducible intro)
    all_goals first | exact mvs_atoms n f | exact hl | (refine hres _ ?_; simp [*]; done)
  | false =>
    simp only [hb, Bool.false_eq_true, if_false] at hl
    refine ⟨_, (f68f p n c (mvs n f) _).mpr ?_⟩
    generalize ((C68 p n c f).res ⟨⟨[I p], [(n, c)]⟩, [mvs n f]⟩) = z at hres
    simp only [okH, hb] at hres
    repeat' (first | with_reducible apply And.intro | with_reducible intro)
    all_goals first | exact mvs_atoms n f | exact hl | (refine hres _ ?_; simp [*]; done)
noncomputable def ints (n : Nat) (g : Nat → Int) : List Value := flatC n fun i => [I (g i)]
theorem ints_atoms (n : Nat) (g : Nat → Int) : Atoms [ints n g] := by
  intro cs hcs
  simp only [List.mem_singleton] at hcs
  subst hcs
  refine flatC_atomic fun i _ v hv => ?_
  simp only [List.mem_cons, List.not_mem_nil, or_false] at hv
  rcases hv with rfl; rfl
theorem ints_get {n i : Nat} (g : Nat → Int) (h : i < n) : (ints n g)[0 + i * 1]? = some (I (g i)) := by
  rw [Nat.zero_add]
  have := flatC_get (n := n) (k := 1) (g := fun i => [I (g i)]) (fun i _ => rfl) h (j := 0) (by omega)
  simp only [ints]
  simpa using this
def okN (x : Int) : Bool := decide (0 ≤ x) && decide (x ≤ 6)
noncomputable def st39 (n c : Nat) (g : Nat → Int) (i : Nat) : Hx := ⟨⟨[I n, I i], [(n, c)]⟩, [ints n g]⟩
noncomputable def out39 (n c : Nat) (g : Nat → Int) (i : Nat) : AExit × Nat × Hx := if allFrom (fun i => okN (g i)) (n - i) i then (.exit 0, 0, st39 n c g n) else (.ret, 1, ⟨⟨[.bool false], []⟩, []⟩)
theorem loop39 (n c : Nat) (g : Nat → Int) (hn : n ≤ 1000000) : LoopOK Try.prog none p39 T39 (st39 n c g 0) (out39 n c g 0).1 (if allFrom (fun i => okN (g i)) n 0 then T39 else R39) (out39 n c g 0).2.2 := by
  refine loop_vc (Ts := [T39, R39]) (k := 3) (X := Nat) (inv := fun i => i ≤ n) (μ := fun i => n - i) (st := fun i => (0, st39 n c g i)) (out := out39 n c g) rfl vx_sound (by decide) (by rw [nglob]; omega) (fun i hi => ?_) (Nat.zero_le n) rfl (by decide) (by decide) ?_
  · have step : i < n → out39 n c g i = if okN (g i) then out39 n c g (i + 1) else (.ret, 1, ⟨⟨[.bool false], []⟩, []⟩) := fun h => by
      have e : n - i = (n - (i + 1)) + 1 := by omega
      simp only [out39, e, allFrom]
      cases okN (g i) <;> simp
    have key : ∀ R : Nat → AExit → Hx → Prop, (i < n → okN (g i) = true → R 0 .normal (st39 n c g (i + 1))) → (i < n → okN (g i) = false → R 1 .ret ⟨⟨[.bool false], []⟩, []⟩) → (¬ i < n → R 0 (.exit 0) (st39 n c g i)) → ∃ hs, vx.code none (.l p39) (leafK [T39, R39] R) (T39.inst (st39 n c g i)) hs := by
      intro R h1 h2 h3
      refine ⟨_, (b39 n i n c (ints n g) g R).mpr ⟨fun h => ?_, fun h => h3 (by simpa using h)⟩⟩
      have hi : i < n := by simpa using h
      have hw : IntKind.i64.wrap ((i : Int) + 1) = ((i + 1 : Nat) : Int) := wrapI (by omega) (by omega)
      have h1 := h1 hi
      have h2 := h2 hi
      refine ⟨⟨⟨by omega, by omega⟩, rfl⟩, ints_get g hi, ?_⟩
      rw [hw]
      simp only [okN] at h1 h2
      repeat' (first | with_reducible apply And.intro | with_reducible intro)
      all_goals first | (refine h2 ?_; simp [*]; done) | (refine h1 ?_; simp [*]; done)
    obtain ⟨hs, hr⟩ := key (RoundR (fun i => i ≤ n) (fun i => n - i) (fun i => (0, st39 n c g i)) (out39 n c g) i)
      (fun h ho => ⟨⟨ints_atoms n g, trivial⟩, .inl ⟨rfl, i + 1, by omega, by show n - (i + 1) < n - i; omega, rfl, by rw [step h, if_pos ho]⟩⟩)
      (fun h ho => ⟨⟨fun _ h => (by cases h), trivial⟩, .inr ⟨by simp, by rw [step h, ho]; rfl⟩⟩)
      (fun h => ⟨⟨ints_atoms n g, trivial⟩, .inr ⟨by simp, by
        have e : i = n := by omega
        subst e
        simp [out39, allFrom]⟩⟩)
    exact ⟨T39, hs, rfl, hr⟩
  · simp only [out39, Nat.sub_zero]
    split <;> rfl
def okP (n k : Nat) (g : Nat → Int) : Bool := !((k : Int) != (n : Int)) && allFrom (fun i => okN (g i)) k 0
noncomputable def C39 (p : Int) (n c : Nat) (f : Nat → Mv) (k d : Nat) (g : Nat → Int) : Con where
  A := .agg (.hole (.slice 0 0 .nil)) (.slice 1 0 .nil)
  bs := [.list 1 .ro, .list 3 .ro]
  pre x := x = ⟨⟨[I p], [(n, c), (k, d)]⟩, [mvs n f, ints k g]⟩
  res _ := .ret (.bool (okP n k g))
theorem C39_ok (p : Int) (n c : Nat) (f : Nat → Mv) (k d : Nat) (g : Nat → Int) (hn : n ≤ 1000000) (hk : k ≤ 1000000) : ConOK Try.prog 39 (C39 p n c f k d g) := by
  refine con_of vx_sound _ (fun x hx => ?_) rfl (fun _ _ => rfl) (fun x hx => ?_) rfl (Nat.le_of_ble_eq_true rfl) (by rw [nglob]; exact Nat.zero_le _)
  · cases hx
    have hl := loop39 k d g hk
    simp only [out39, Nat.sub_zero] at hl
    have hres : ∀ b, okP n k g = b → (ARes.ret (.bool b) = ((C39 p n c f k d g).res ⟨⟨[I p], [(n, c), (k, d)]⟩, [mvs n f, ints k g]⟩)) := fun b hb => by subst hb; rfl
    cases hb : allFrom (fun i => okN (g i)) k 0 with
    | true =>
      simp only [hb, if_true] at hl
      refine ⟨_, (f39t p n c k d (mvs n f) (ints k g) _).mpr ?_⟩
      generalize ((C39 p n c f k d g).res ⟨⟨[I p], [(n, c), (k, d)]⟩, [mvs n f, ints k g]⟩) = z at hres
      simp only [okP, hb] at hres
      repeat' (first | with_reducible apply And.intro | with_reducible intro)
      all_goals first | exact ints_atoms k g | exact hl | (refine hres _ ?_; simp [*]; done)
    | false =>
      simp only [hb, Bool.false_eq_true, if_false] at hl
      refine ⟨_, (f39f p n c k d (mvs n f) (ints k g) _).mpr ?_⟩
      generalize ((C39 p n c f k d g).res ⟨⟨[I p], [(n, c), (k, d)]⟩, [mvs n f, ints k g]⟩) = z at hres
      simp only [okP, hb] at hres
      repeat' (first | with_reducible apply And.intro | with_reducible intro)
      all_goals first | exact ints_atoms k g | exact hl | (refine hres _ ?_; simp [*]; done)
  · cases hx
    intro cs hcs
    simp only [List.mem_cons, List.not_mem_nil, or_false] at hcs
    rcases hcs with rfl | rfl
    · exact mvs_atoms n f _ (by simp)
    · exact ints_atoms k g _ (by simp)
noncomputable def jobV (f : Nat → Mv) (i : Nat) : List Value := [I (f i).at_, I (f i).place, I (f i).lo, I (f i).hi, I i]
noncomputable def jobsC (n : Nat) (f : Nat → Mv) : List Value := flatC n (jobV f)
theorem jobsC_len (n : Nat) (f : Nat → Mv) : (jobsC n f).length = n * 5 := flatC_len fun i _ => rfl
theorem jobsC_atoms (n : Nat) (f : Nat → Mv) : ∀ v ∈ jobsC n f, atomic v = true := by
  refine flatC_atomic fun i _ v hv => ?_
  simp only [jobV, List.mem_cons, List.not_mem_nil, or_false] at hv
  rcases hv with rfl | rfl | rfl | rfl | rfl <;> rfl
noncomputable def st49 (n c : Nat) (f : Nat → Mv) (i : Nat) : Nat × Hx := if i = 0 then (0, ⟨⟨[I n, I (0 : Nat)], [(n, c)]⟩, [mvs n f]⟩) else (1, ⟨⟨[I n, I i], [(i, i), (n, c)]⟩, [mvs n f, jobsC i f]⟩)
theorem loop49 (n c : Nat) (f : Nat → Mv) (h0 : 0 < n) (hn : n ≤ 1000000) : LoopOK Try.prog none p49 T49a ⟨⟨[I n, I (0 : Nat)], [(n, c)]⟩, [mvs n f]⟩ (.exit 0) T49b ⟨⟨[I n, I n], [(n, n), (n, c)]⟩, [mvs n f, jobsC n f]⟩ := by
  have hat : ∀ i, Atoms [mvs n f, jobsC i f] := fun i cs hcs => by
    simp only [List.mem_cons, List.not_mem_nil, or_false] at hcs
    rcases hcs with rfl | rfl
    · exact mvs_atoms n f _ (by simp)
    · exact jobsC_atoms i f
  refine loop_vc (Ts := [T49a, T49b]) (k := 2) (X := Nat) (inv := fun i => i ≤ n) (μ := fun i => n - i) (st := st49 n c f) (out := fun _ => (.exit 0, 1, ⟨⟨[I n, I n], [(n, n), (n, c)]⟩, [mvs n f, jobsC n f]⟩)) rfl vx_sound (by simp [T49a, T49b]) (by rw [nglob]; omega) (fun i hi => ?_) (Nat.zero_le n) (x := 0) rfl (Nat.le_of_ble_eq_true rfl) (by decide) rfl
  have hw : i < n → IntKind.i64.wrap ((i : Int) + 1) = ((i + 1 : Nat) : Int) := fun _ => wrapI (by omega) (by omega)
  by_cases hz : i = 0
  · subst hz
    refine ⟨T49a, _, rfl, (b49a n 0 n c (mvs n f) f _).mpr ⟨fun h => ?_, fun h => ?_⟩⟩
    · refine ⟨⟨⟨by omega, by omega⟩, rfl⟩, ⟨by rw [mvs_len]; have := flatC_bound (k := 4) h0; omega, by rw [mvs_part f h0]; rfl⟩, ?_⟩
      rw [hw h0]
      exact ⟨⟨hat 1, trivial⟩, .inl ⟨rfl, 1, by omega, by show n - 1 < n - 0; omega, rfl, rfl⟩⟩
    · have : ¬ (0 : Nat) < n := by simpa using h
      omega
  · have hst : st49 n c f i = (1, ⟨⟨[I n, I i], [(i, i), (n, c)]⟩, [mvs n f, jobsC i f]⟩) := by simp only [st49, if_neg hz]
    rw [hst]
    refine ⟨T49b, _, rfl, (b49b n i n c i (mvs n f) (jobsC i f) f _).mpr ⟨fun h => ?_, fun h => ?_⟩⟩
    · have hi' : i < n := by simpa using h
      refine ⟨⟨⟨by omega, by omega⟩, rfl⟩, ⟨by rw [mvs_len]; have := flatC_bound (k := 4) hi'; omega, by rw [mvs_part f hi']; rfl⟩, ⟨by omega, by rw [jobsC_len], by omega, by omega⟩, ?_⟩
      rw [hw hi', ← jobsC_len i f, List.take_length]
      have e : jobsC (i + 1) f = jobsC i f ++ jobV f i := flatC_succ
      refine ⟨⟨by have h2 := hat (i + 1); rw [e] at h2; exact h2, trivial⟩, .inl ⟨rfl, i + 1, by omega, by show n - (i + 1) < n - i; omega, ?_, rfl⟩⟩
      simp only [st49, if_neg (show ¬ i + 1 = 0 by omega)]
      rw [e]
      rfl
    · have e : i = n := by have : ¬ i < n := by simpa using h
                           omega
      subst e
      exact ⟨⟨hat i, trivial⟩, .inr ⟨by simp, rfl⟩⟩
noncomputable def C49 (p : Int) (n c : Nat) (f : Nat → Mv) : ConN where
  A := .agg (.hole (.slice 0 0 .nil)) .nil
  bs := [.list 1 .ro]
  pre x := x = ⟨⟨[I p], [(n, c)]⟩, [mvs n f]⟩
  news _ := [(jobsC n f, 97)]
  one := true
  res _ := [.sl 0 n]
theorem C49_ok (p : Int) (n c : Nat) (f : Nat → Mv) (h0 : 0 < n) (hn : n ≤ 1000000) : ConNOK Try.prog 49 (C49 p n c f) := by
  refine conRow_of rfl vx_sound (C := C49 p n c f) (n := n) (cells := jobsC n f) (e := 97) ⟨⟨[I p], [(n, c)]⟩, [mvs n f]⟩ (fun x => Iff.rfl) rfl rfl rfl ⟨_, (f49 p n c (mvs n f) (jobsC n f) _).mpr ⟨mvs_atoms n f, loop49 n c f h0 hn, rfl⟩⟩ (mvs_atoms n f) (jobsC_atoms n f) rfl (Nat.le_of_ble_eq_true rfl) (by rw [nglob]; exact Nat.zero_le _)
end Go.Ab
set_option maxRecDepth 100000
namespace Go.Ab
open Go Go.RowKit Go.Proofs
noncomputable def trI (sure : Bool) : Nat := cond sure 103 102
noncomputable def tr (sure : Bool) : Value := .iface (trI sure) (.agg ⟨[]⟩)
def p44o : Loc := .l (.r (.l (.r (.r (.r (.top 44))))))
def p44i : Loc := .l (.r (.r (.r (.l (.l (.r (.r (.l (.l (.r (.l (.r (.r (.r (.top 44)))))))))))))))
noncomputable def T44o (sure : Bool) : Tm := ⟨59, mkS 59 [(1, .iface (trI sure) (.agg .nil .nil) .nil), (2, .ptr 1 0 .nil), (4, .ptr 2 0 .nil), (5, .ptr 3 0 .nil), (6, .slice 4 0 .nil), (14, .slice 4 0 .nil), (15, .hole .nil), (16, .hole .nil)], 5, [.list 1 .ro, .cells (.hole (.slice 0 0 .nil)) 73 .var, .list 85 .var, .list 85 .var, .list 97 .row]⟩
noncomputable def T44i (sure : Bool) : Tm := ⟨59, mkS 59 [(1, .iface (trI sure) (.agg .nil .nil) .nil), (2, .ptr 1 0 .nil), (4, .ptr 2 0 .nil), (5, .ptr 3 0 .nil), (6, .slice 4 0 .nil), (8, .ptr 5 0 .nil), (9, .hole .nil), (14, .slice 4 0 .nil), (15, .hole .nil), (16, .hole .nil), (28, .slice 4 0 .nil), (29, .hole .nil), (30, .hole .nil)], 8, [.list 1 .ro, .cells (.hole (.slice 0 0 .nil)) 73 .var, .list 85 .var, .list 85 .var, .list 97 .row, .list 97 .var, .dead, .dead]⟩
end Go.Ab
