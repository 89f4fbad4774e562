/- package dipworksref02: which horses are valid. -/
import Derived.Test.YtamfplmmfbbabaaUS
set_option maxRecDepth 100000
namespace Go.Ab
open Go Go.RowKit Go.Proofs
def p21 : Loc := .l (.r (.l (.r (.r (.top 21)))))
def T21 : Tm := ⟨58, mkS 58 [(1, .ptr 1 0 .nil), (3, .hole .nil)], 2, [.list 1 .ro, .cells (.hole (.slice 0 0 .nil)) 24 .var]⟩
def R21 : Tm := ⟨58, mkS 58 [(2, .hole .nil)], 2, [.dead, .dead]⟩
noncomputable def m1 (ms : List Value) : Mem := ⟨fillX [.cells ms 1 .ro] 0 .nil, 1⟩
theorem b21 (p : Int) (i n c : Nat) (ms : List Value) (f : Nat → Mv) (R : Nat → AExit → Hx → Prop) : (vx.code none (.l p21) (leafK [T21, R21] R) (T21.inst ⟨⟨[I i, I p], [(n, c)]⟩, [ms]⟩) ([(4, .split ((4, .val (.pointer (.some ⟨((0 : Nat)), ((0 : Nat) + i * (4 : Nat)), .none⟩))) :: (0, .val (.agg ⟨[(.int .i64 ((f i).at_)), (.int .i64 ((f i).place)), (.int .i64 ((f i).lo)), (.int .i64 ((f i).hi))]⟩)) :: [(8, .split ([(3, .split ([(10, .split ([(3, .split ([(8, .split ([(7, .tm 1 [])]) ([(8, .split ([(5, .tm 1 [])]) ([(5, .split ([(3, .tm 1 [])]) ([(5, .tm 0 [])]))]))]))]) ([(12, .tm 1 [])]))]) ([(13, .tm 1 [])]))]) ([(13, .tm 1 [])]))]) ([(14, .tm 1 [])]))]) ([(1, .tm 0 [])]))])) =
((((decide ((↑i : Int) < (↑n : Int))) = true → ((((((0 : Int) ≤ (↑i : Int))) ∧ (((↑i : Int) < (↑n : Int)))) ∧ (((.pointer (.some ⟨((0 : Nat)), ((0 : Nat) + i * (4 : Nat)), .none⟩)) : Value) = (.pointer (.some ⟨((0 : Nat)), ((0 : Nat) + i * (4 : Nat)), .none⟩)))) ∧
(((((0 : Nat) + i * (4 : Nat) + (4 : Nat) ≤ ms.length)) ∧ (((.agg ⟨[(.int .i64 ((f i).at_)), (.int .i64 ((f i).place)), (.int .i64 ((f i).lo)), (.int .i64 ((f i).hi))]⟩) : Value) = (.agg ⟨(List.take (4 : Nat) (List.drop ((0 : Nat) + i * (4 : Nat)) ms))⟩))) ∧
(((decide ((0 : Int) ≤ (f i).at_)) = true → (((decide ((f i).at_ ≤ (200 : Int))) = true → (((decide ((0 : Int) ≤ (f i).place)) = true → (((decide ((f i).place ≤ (30 : Int))) = true → (((decide ((f i).lo < (1 : Int))) = true → R 1 .ret ⟨⟨[(.bool false)], []⟩, []⟩) ∧
((decide ((f i).lo < (1 : Int))) = false → (((decide ((f i).lo > (f i).hi)) = true → R 1 .ret ⟨⟨[(.bool false)], []⟩, []⟩) ∧
((decide ((f i).lo > (f i).hi)) = false → (((decide ((f i).hi > (20 : Int))) = true → R 1 .ret ⟨⟨[(.bool false)], []⟩, []⟩) ∧
((decide ((f i).hi > (20 : Int))) = false → R 0 .normal ⟨⟨[(.int .i64 (IntKind.i64.wrap ((↑i : Int) + (1 : Int)))), (.int .i64 p)], [⟨n, c⟩]⟩, [(ms)]⟩))))))) ∧
((decide ((f i).place ≤ (30 : Int))) = false → R 1 .ret ⟨⟨[(.bool false)], []⟩, []⟩))) ∧
((decide ((0 : Int) ≤ (f i).place)) = false → R 1 .ret ⟨⟨[(.bool false)], []⟩, []⟩))) ∧
((decide ((f i).at_ ≤ (200 : Int))) = false → R 1 .ret ⟨⟨[(.bool false)], []⟩, []⟩))) ∧
((decide ((0 : Int) ≤ (f i).at_)) = false → R 1 .ret ⟨⟨[(.bool false)], []⟩, []⟩))))) ∧
((decide ((↑i : Int) < (↑n : Int))) = false → R 0 (.exit ((0 : Nat))) ⟨⟨[(.int .i64 i), (.int .i64 p)], [⟨n, c⟩]⟩, [(ms)]⟩))) := by kernel_rfl
theorem f21t (p : Int) (n c : Nat) (ms : List Value) (R : ARes → Prop) : (vx.call 21 [hV p n c] (retK R) (m1 ms) ([(9, .split ([(3, .split ([(7, .split ([]) ((3, Hint.loopT T21 (AExit.exit (0 : Nat)) T21 fun _ => { hs := { vs := [I (↑n : Int), I p], ns := [(n, c)] }, ls := [ms] }) :: []))]) ([]))]) ([]))])) =
((((decide ((0 : Int) ≤ p)) = true → (((decide (p ≤ (3 : Int))) = true → (((decide ((↑n : Int) > (7 : Int))) = true → R (.ret (.bool false))) ∧
((decide ((↑n : Int) > (7 : Int))) = false → ((Atoms [(ms)]) ∧ (LoopOK Try.prog .none p21 T21 ⟨⟨[(.int .i64 0), (.int .i64 p)], [⟨n, c⟩]⟩, [(ms)]⟩ (.exit ((0 : Nat))) T21 ⟨⟨[(.int .i64 n), (.int .i64 p)], [⟨n, c⟩]⟩, [(ms)]⟩) ∧
R (.ret (.bool true)))))) ∧
((decide (p ≤ (3 : Int))) = false → R (.ret (.bool false))))) ∧
((decide ((0 : Int) ≤ p)) = false → R (.ret (.bool false))))) := by kernel_rfl
theorem f21f (p : Int) (n c : Nat) (ms : List Value) (R : ARes → Prop) : (vx.call 21 [hV p n c] (retK R) (m1 ms) ([(9, .split ([(3, .split ([(7, .split ([]) ((3, Hint.loopT T21 AExit.ret R21 fun _ => { hs := { vs := [Value.bool false], ns := [] }, ls := [] }) :: []))]) ([]))]) ([]))])) =
((((decide ((0 : Int) ≤ p)) = true → (((decide (p ≤ (3 : Int))) = true → (((decide ((↑n : Int) > (7 : Int))) = true → R (.ret (.bool false))) ∧
((decide ((↑n : Int) > (7 : Int))) = false → ((Atoms [(ms)]) ∧ (LoopOK Try.prog .none p21 T21 ⟨⟨[(.int .i64 0), (.int .i64 p)], [⟨n, c⟩]⟩, [(ms)]⟩ .ret R21 ⟨⟨[(.bool false)], []⟩, []⟩) ∧
R (.ret (.bool false)))))) ∧
((decide (p ≤ (3 : Int))) = false → R (.ret (.bool false))))) ∧
((decide ((0 : Int) ≤ p)) = false → R (.ret (.bool false))))) := by kernel_rfl
def okMv (m : Mv) : Bool := decide (0 ≤ m.at_) && (decide (m.at_ ≤ 200) && (decide (0 ≤ m.place) && (decide (m.place ≤ 30) && (!decide (m.lo < 1) && (!decide (m.lo > m.hi) && !decide (m.hi > 20))))))
def allFrom (p : Nat → Bool) : Nat → Nat → Bool
  | 0, _ => true
  | k + 1, i => p i && allFrom p k (i + 1)
theorem mvs_len (n : Nat) (f : Nat → Mv) : (mvs n f).length = n * 4 := flatC_len fun i _ => rfl
theorem mvs_part {n i : Nat} (f : Nat → Mv) (h : i < n) : ((mvs n f).drop (0 + i * 4)).take 4 = mvV (f i) := by
  rw [Nat.zero_add]; exact flatC_part (k := 4) (fun i _ => rfl) h
theorem mvs_atoms (n : Nat) (f : Nat → Mv) : Atoms [mvs n f] := by
  intro cs hcs
  simp only [List.mem_singleton] at hcs
  subst hcs
  refine flatC_atomic fun i _ v hv => ?_
  simp only [mvV, List.mem_cons, List.not_mem_nil, or_false] at hv
  rcases hv with rfl | rfl | rfl | rfl <;> rfl
noncomputable def st21 (p : Int) (n c : Nat) (f : Nat → Mv) (i : Nat) : Hx := ⟨⟨[I i, I p], [(n, c)]⟩, [mvs n f]⟩
noncomputable def out21 (p : Int) (n c : Nat) (f : Nat → Mv) (i : Nat) : AExit × Nat × Hx := if allFrom (fun i => okMv (f i)) (n - i) i then (.exit 0, 0, st21 p n c f n) else (.ret, 1, ⟨⟨[.bool false], []⟩, []⟩)
theorem round21 {p : Int} {i n c : Nat} {f : Nat → Mv} {R : Nat → AExit → Hx → Prop} (hn : n ≤ 1000000) (h1 : i < n → okMv (f i) = true → R 0 .normal (st21 p n c f (i + 1))) (h2 : i < n → okMv (f i) = false → R 1 .ret ⟨⟨[.bool false], []⟩, []⟩)
    (h3 : ¬ i < n → R 0 (.exit 0) (st21 p n c f i)) : ∃ hs, vx.code none (.l p21) (leafK [T21, R21] R) (T21.inst (st21 p n c f i)) hs := by
  refine ⟨_, (b21 p i n c (mvs n f) f R).mpr ⟨fun h => ?_, fun h => ?_⟩⟩
  · have hi : i < n := by simpa using h
    have hw : IntKind.i64.wrap ((i : Int) + 1) = ((i + 1 : Nat) : Int) := wrapI (by omega) (by omega)
    have h1 := h1 hi
    have h2 := h2 hi
    refine ⟨⟨⟨by omega, by omega⟩, rfl⟩, ⟨by rw [mvs_len]; have := flatC_bound (k := 4) hi; omega, by rw [mvs_part f hi]; rfl⟩, ?_⟩
    rw [hw]
    simp only [okMv] at h1 h2
    repeat' (first | with_reducible apply And.intro | with_reducible intro)
    all_goals first | (refine h2 ?_; simp [*]; done) | (refine h1 ?_; simp [*]; done)
  · exact h3 (by simpa using h)
theorem loop21 (p : Int) (n c : Nat) (f : Nat → Mv) (hn : n ≤ 1000000) : LoopOK Try.prog none p21 T21 (st21 p n c f 0) (out21 p n c f 0).1 (if allFrom (fun i => okMv (f i)) n 0 then T21 else R21) (out21 p n c f 0).2.2 := by
  refine loop_vc (Ts := [T21, R21]) (k := 2) (X := Nat) (inv := fun i => i ≤ n) (μ := fun i => n - i) (st := fun i => (0, st21 p n c f i)) (out := out21 p n c f) rfl vx_sound (by decide) (by rw [nglob]; omega) (fun i hi => ?_) (Nat.zero_le n) rfl (by decide) (by decide) ?_
  · have step : i < n → out21 p n c f i = if okMv (f i) then out21 p n c f (i + 1) else (.ret, 1, ⟨⟨[.bool false], []⟩, []⟩) := fun h => by
      have e : n - i = (n - (i + 1)) + 1 := by omega
      simp only [out21, e, allFrom]
      cases okMv (f i) <;> simp
    obtain ⟨hs, hr⟩ := round21 (p := p) (c := c) (R := RoundR (fun i => i ≤ n) (fun i => n - i) (fun i => (0, st21 p n c f i)) (out21 p n c f) i) hn
      (fun h ho => ⟨⟨mvs_atoms n f, trivial⟩, .inl ⟨rfl, i + 1, by omega, by show n - (i + 1) < n - i; omega, rfl, by rw [step h, if_pos ho]⟩⟩)
      (fun h ho => ⟨⟨fun _ h => (by cases h), trivial⟩, .inr ⟨by simp, by rw [step h, ho]; rfl⟩⟩)
      (fun h => ⟨⟨mvs_atoms n f, trivial⟩, .inr ⟨by simp, by
        have e : i = n := by omega
        subst e
        simp [out21, allFrom]⟩⟩)
    exact ⟨T21, hs, rfl, hr⟩
  · simp only [out21, Nat.sub_zero]
    split <;> rfl
def okH (p : Int) (n : Nat) (f : Nat → Mv) : Bool := decide (0 ≤ p) && (decide (p ≤ 3) && (!decide ((n : Int) > 7) && allFrom (fun i => okMv (f i)) n 0))
noncomputable def C21 (p : Int) (n c : Nat) (f : Nat → Mv) : Con where
  A := .agg (.hole (.slice 0 0 .nil)) .nil
  bs := [.list 1 .ro]
  pre x := x = ⟨⟨[I p], [(n, c)]⟩, [mvs n f]⟩
  res _ := .ret (.bool (okH p n f))
theorem C21_ok (p : Int) (n c : Nat) (f : Nat → Mv) (hn : n ≤ 1000000) : ConOK Try.prog 21 (C21 p n c f) := by
  refine con_of vx_sound _ (fun x hx => ?_) rfl (fun _ _ => rfl) (fun x hx => by cases hx; exact mvs_atoms n f) rfl (Nat.le_of_ble_eq_true rfl) (by rw [nglob]; exact Nat.zero_le _)
  cases hx
  have hl := loop21 p n c f hn
  simp only [out21, Nat.sub_zero] at hl
  cases hb : allFrom (fun i => okMv (f i)) n 0 with
  | true =>
    simp only [hb, if_true] at hl
    refine ⟨_, (f21t p n c (mvs n f) _).mpr ?_⟩
    have hres : ∀ b, okH p n f = b → (ARes.ret (.bool b) = ((C21 p n c f).res ⟨⟨[I p], [(n, c)]⟩, [mvs n f]⟩)) := fun b hb => by subst hb; rfl
    generalize ((C21 p n c f).res ⟨⟨[I p], [(n, c)]⟩, [mvs n f]⟩) = z at hres
    simp only [okH, hb] at hres
    repeat' (first | with_reducible apply And.intro | with_reducible intro)
    all_goals first | exact mvs_atoms n f | exact hl | (refine hres _ ?_; simp [*]; done)
  | false =>
    simp only [hb, Bool.false_eq_true, if_false] at hl
    refine ⟨_, (f21f p n c (mvs n f) _).mpr ?_⟩
    have hres : ∀ b, okH p n f = b → (ARes.ret (.bool b) = ((C21 p n c f).res ⟨⟨[I p], [(n, c)]⟩, [mvs n f]⟩)) := fun b hb => by subst hb; rfl
    generalize ((C21 p n c f).res ⟨⟨[I p], [(n, c)]⟩, [mvs n f]⟩) = z at hres
    simp only [okH, hb] at hres
    repeat' (first | with_reducible apply And.intro | with_reducible intro)
    all_goals first | exact mvs_atoms n f | exact hl | (refine hres _ ?_; simp [*]; done)
end Go.Ab
