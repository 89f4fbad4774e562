/- the document's own look whether a surf is valid. -/
import Derived.Test.YtoelpblmhmhglaaDoorOU
set_option maxRecDepth 100000
namespace Go.Ab
open Go Go.RowKit Go.Proofs
theorem f52 (x a b : Int) (R : ARes → Prop) : (vx.call 52 [I x, I a, I b] (retK R) m2d ([(4, .split ([(3, .split ([]) ([]))]) ([]))])) =
(((decide (a ≤ x)) = true → (((decide (x ≤ b)) = true → R (.ret (.bool true))) ∧
((decide (x ≤ b)) = false → R (.ret (.bool false))))) ∧
((decide (a ≤ x)) = false → R (.ret (.bool false)))) := by kernel_rfl
theorem f53 (lo hi most : Int) (R : ARes → Prop) : (vx.call 53 [.agg ⟨[I lo, I hi]⟩, I most] (retK R) m2d ([(5, .split ([(5, .split ([(5, .split ([(7, .split ([]) ([]))]) ([]))]) ([]))]) ([]))])) =
(((decide ((0 : Int) ≤ lo)) = true → (((decide (lo ≤ hi)) = true → (((decide (hi ≤ most)) = true → (((decide (IntKind.i64.wrap (hi - lo) ≤ (3 : Int))) = true → R (.ret (.bool true))) ∧
((decide (IntKind.i64.wrap (hi - lo) ≤ (3 : Int))) = false → R (.ret (.bool false))))) ∧
((decide (hi ≤ most)) = false → R (.ret (.bool false))))) ∧
((decide (lo ≤ hi)) = false → R (.ret (.bool false))))) ∧
((decide ((0 : Int) ≤ lo)) = false → R (.ret (.bool false)))) := by kernel_rfl
theorem b20a (rw st : Int) (n cw n2 cv m cu : Nat) (i : Nat) (bw bv : Bool) (w v : Nat → Sp) (u : Nat → Raw) (R : Nat → AExit → Hw → Prop) : (vx.code none (.l p20a) (leafW [T20a, R20] R) (T20a.inst (h20 rw st n cw n2 cv m cu (spL n w) (spL n2 v) (raL m u) i)) ([(4, .split ((4, .val (.pointer (some ⟨2, 0 + i * 2, none⟩))) :: (0, .val (.agg ⟨[I (w i).lo, I (w i).hi]⟩)) :: (0, .con (C53 (w i).lo (w i).hi 30 bw)) :: [(0, .split ([(4, .tm 1 [])]) ((4, .val (.pointer (some ⟨3, 0 + i * 2, none⟩))) :: (0, .val (.agg ⟨[I (v i).lo, I (v i).hi]⟩)) :: (0, .con (C53 (v i).lo (v i).hi 10 bv)) :: [(0, .split ([(3, .tm 1 [])]) ([(5, .tm 0 [])]))]))]) ([(1, .tm 0 [])]))])) =
(((decide ((i : Int) < n)) = true → (((((0 : Int) ≤ i) ∧ ((i : Int) < n)) ∧ (VR (.pointer (some ⟨2, 0 + i * 2, none⟩)))) ∧
(((0 + i * 2 + 2 ≤ (spL n w).length) ∧ (((.agg ⟨[I (w i).lo, I (w i).hi]⟩) : Value) = (.agg ⟨List.take 2 (List.drop (0 + i * 2) (spL n w))⟩))) ∧
(CA 53 (C53 (w i).lo (w i).hi 30 bw) ⟨⟨[I (w i).lo, I (w i).hi, I 30], []⟩, []⟩ <|
(((!bw) = true → R (1 : Nat) .ret ⟨⟨[.bool false], []⟩, [], []⟩) ∧
((!bw) = false → (((((0 : Int) ≤ i) ∧ ((i : Int) < n2)) ∧ (VR (.pointer (some ⟨3, 0 + i * 2, none⟩)))) ∧
(((0 + i * 2 + 2 ≤ (spL n2 v).length) ∧ (((.agg ⟨[I (v i).lo, I (v i).hi]⟩) : Value) = (.agg ⟨List.take 2 (List.drop (0 + i * 2) (spL n2 v))⟩))) ∧
(CA 53 (C53 (v i).lo (v i).hi 10 bv) ⟨⟨[I (v i).lo, I (v i).hi, I 10], []⟩, []⟩ <|
(((!bv) = true → R (1 : Nat) .ret ⟨⟨[.bool false], []⟩, [], []⟩) ∧
((!bv) = false → R (0 : Nat) .normal ⟨⟨[I (IntKind.i64.wrap ((i : Int) + (1 : Int))), I rw, I st], [⟨n, cw⟩, ⟨n2, cv⟩, ⟨m, cu⟩]⟩, [spL n w, spL n2 v, raL m u], []⟩))))))))))) ∧
((decide ((i : Int) < n)) = false → R (0 : Nat) (.exit 0) ⟨⟨[I i, I rw, I st], [⟨n, cw⟩, ⟨n2, cv⟩, ⟨m, cu⟩]⟩, [spL n w, spL n2 v, raL m u], []⟩)) := by kernel_rfl
theorem b20b (rw st : Int) (n cw n2 cv m cu : Nat) (i : Nat) (b1 b2 b3 : Bool) (w v : Nat → Sp) (u : Nat → Raw) (R : Nat → AExit → Hw → Prop) : (vx.code none (.l p20b) (leafW [T20b, R20] R) (T20b.inst (h20 rw st n cw n2 cv m cu (spL n w) (spL n2 v) (raL m u) i)) ([(4, .split ((4, .val (.pointer (some ⟨4, 0 + i * 3, none⟩))) :: (0, .val (.agg ⟨[I (u i).fl, I (u i).br, I ((u i).row)]⟩)) :: (4, .con (C52 (u i).fl 0 40 b1)) :: [(0, .split ([(6, .tm 1 [])]) ((3, .con (C52 (u i).br 0 10 b2)) :: [(0, .split ([(5, .tm 1 [])]) ((7, .con (C52 (u i).row 0 (IntKind.i64.wrap (rw - 1)) b3)) :: [(0, .split ([(3, .tm 1 [])]) ([(5, .tm 0 [])]))]))]))]) ([(1, .tm 0 [])]))])) =
(((decide ((i : Int) < m)) = true → (((((0 : Int) ≤ i) ∧ ((i : Int) < m)) ∧ (VR (.pointer (some ⟨4, 0 + i * 3, none⟩)))) ∧
(((0 + i * 3 + 3 ≤ (raL m u).length) ∧ (((.agg ⟨[I (u i).fl, I (u i).br, I ((u i).row)]⟩) : Value) = (.agg ⟨List.take 3 (List.drop (0 + i * 3) (raL m u))⟩))) ∧
(CA 52 (C52 (u i).fl 0 40 b1) ⟨⟨[I (u i).fl, I 0, I 40], []⟩, []⟩ <|
(((!b1) = true → R (1 : Nat) .ret ⟨⟨[.bool false], []⟩, [], []⟩) ∧
((!b1) = false → (CA 52 (C52 (u i).br 0 10 b2) ⟨⟨[I (u i).br, I 0, I 10], []⟩, []⟩ <|
(((!b2) = true → R (1 : Nat) .ret ⟨⟨[.bool false], []⟩, [], []⟩) ∧
((!b2) = false → (CA 52 (C52 (u i).row 0 (IntKind.i64.wrap (rw - 1)) b3) ⟨⟨[I ((u i).row), I 0, I (IntKind.i64.wrap (rw - (1 : Int)))], []⟩, []⟩ <|
(((!b3) = true → R (1 : Nat) .ret ⟨⟨[.bool false], []⟩, [], []⟩) ∧
((!b3) = false → R (0 : Nat) .normal ⟨⟨[I (IntKind.i64.wrap ((i : Int) + (1 : Int))), I rw, I st], [⟨n, cw⟩, ⟨n2, cv⟩, ⟨m, cu⟩]⟩, [spL n w, spL n2 v, raL m u], []⟩)))))))))))) ∧
((decide ((i : Int) < m)) = false → R (0 : Nat) (.exit 2) ⟨⟨[I i, I rw, I st], [⟨n, cw⟩, ⟨n2, cv⟩, ⟨m, cu⟩]⟩, [spL n w, spL n2 v, raL m u], []⟩)) := by kernel_rfl
theorem f20t (rw st : Int) (n cw n2 cv m cu : Nat) (b1 b2 : Bool) (w v : Nat → Sp) (u : Nat → Raw) (R : ARes → Prop) : (vx.call 20 [suR rw st n cw n2 cv m cu] (retK R) (mSd (spL n w) (spL n2 v) (raL m u)) ((5, .con (C52 rw 1 6 b1)) :: [(0, .split ([]) ((3, .con (C52 st 0 4 b2)) :: [(0, .split ([]) ([(5, .split ([]) ([(8, .split ([]) ([(5, .split ([]) ((3, .loopW T20a (.exit 0) T20a fun _ => h20 rw st n cw n2 cv m cu (spL n w) (spL n2 v) (raL m u) n) :: (1, .loopW T20b (.exit 2) T20b fun _ => h20 rw st n cw n2 cv m cu (spL n w) (spL n2 v) (raL m u) m) :: []))]))]))]))]))])) =
(CA 52 (C52 rw 1 6 b1) ⟨⟨[I rw, I 1, I 6], []⟩, []⟩ <|
(((!b1) = true → R (.ret (.bool false))) ∧
((!b1) = false → (CA 52 (C52 st 0 4 b2) ⟨⟨[I st, I 0, I 4], []⟩, []⟩ <|
(((!b2) = true → R (.ret (.bool false))) ∧
((!b2) = false → (((decide ((n : Int) > 8)) = true → R (.ret (.bool false))) ∧
((decide ((n : Int) > 8)) = false → ((((n2 : Int) != n) = true → R (.ret (.bool false))) ∧
(((n2 : Int) != n) = false → (((decide ((m : Int) > 5)) = true → R (.ret (.bool false))) ∧
((decide ((m : Int) > 5)) = false → (LW p20a T20a ⟨⟨[I 0, I rw, I st], [⟨n, cw⟩, ⟨n2, cv⟩, ⟨m, cu⟩]⟩, [spL n w, spL n2 v, raL m u], []⟩ (.exit 0) T20a (h20 rw st n cw n2 cv m cu (spL n w) (spL n2 v) (raL m u) n) <|
(LW p20b T20b ⟨⟨[I 0, I rw, I st], [⟨n, cw⟩, ⟨n2, cv⟩, ⟨m, cu⟩]⟩, [spL n w, spL n2 v, raL m u], []⟩ (.exit 2) T20b (h20 rw st n cw n2 cv m cu (spL n w) (spL n2 v) (raL m u) m) <|
R (.ret (.bool true)))))))))))))))) := by kernel_rfl
theorem f20u (rw st : Int) (n cw n2 cv m cu : Nat) (b1 b2 : Bool) (w v : Nat → Sp) (u : Nat → Raw) (R : ARes → Prop) : (vx.call 20 [suR rw st n cw n2 cv m cu] (retK R) (mSd (spL n w) (spL n2 v) (raL m u)) ((5, .con (C52 rw 1 6 b1)) :: [(0, .split ([]) ((3, .con (C52 st 0 4 b2)) :: [(0, .split ([]) ([(5, .split ([]) ([(8, .split ([]) ([(5, .split ([]) ((3, .loopW T20a (.exit 0) T20a fun _ => h20 rw st n cw n2 cv m cu (spL n w) (spL n2 v) (raL m u) n) :: (1, .loopW T20b AExit.ret R20 fun _ => { hs := { vs := [Value.bool false], ns := [] }, ls := [], es := [] }) :: []))]))]))]))]))])) =
(CA 52 (C52 rw 1 6 b1) ⟨⟨[I rw, I 1, I 6], []⟩, []⟩ <|
(((!b1) = true → R (.ret (.bool false))) ∧
((!b1) = false → (CA 52 (C52 st 0 4 b2) ⟨⟨[I st, I 0, I 4], []⟩, []⟩ <|
(((!b2) = true → R (.ret (.bool false))) ∧
((!b2) = false → (((decide ((n : Int) > 8)) = true → R (.ret (.bool false))) ∧
((decide ((n : Int) > 8)) = false → ((((n2 : Int) != n) = true → R (.ret (.bool false))) ∧
(((n2 : Int) != n) = false → (((decide ((m : Int) > 5)) = true → R (.ret (.bool false))) ∧
((decide ((m : Int) > 5)) = false → (LW p20a T20a ⟨⟨[I 0, I rw, I st], [⟨n, cw⟩, ⟨n2, cv⟩, ⟨m, cu⟩]⟩, [spL n w, spL n2 v, raL m u], []⟩ (.exit 0) T20a (h20 rw st n cw n2 cv m cu (spL n w) (spL n2 v) (raL m u) n) <|
(LW p20b T20b ⟨⟨[I 0, I rw, I st], [⟨n, cw⟩, ⟨n2, cv⟩, ⟨m, cu⟩]⟩, [spL n w, spL n2 v, raL m u], []⟩ .ret R20 ⟨⟨[.bool false], []⟩, [], []⟩ <|
R (.ret (.bool false)))))))))))))))) := by kernel_rfl
theorem f20f (rw st : Int) (n cw n2 cv m cu : Nat) (b1 b2 : Bool) (w v : Nat → Sp) (u : Nat → Raw) (R : ARes → Prop) : (vx.call 20 [suR rw st n cw n2 cv m cu] (retK R) (mSd (spL n w) (spL n2 v) (raL m u)) ((5, .con (C52 rw 1 6 b1)) :: [(0, .split ([]) ((3, .con (C52 st 0 4 b2)) :: [(0, .split ([]) ([(5, .split ([]) ([(8, .split ([]) ([(5, .split ([]) ((3, .loopW T20a AExit.ret R20 fun _ => { hs := { vs := [Value.bool false], ns := [] }, ls := [], es := [] }) :: []))]))]))]))]))])) =
(CA 52 (C52 rw 1 6 b1) ⟨⟨[I rw, I 1, I 6], []⟩, []⟩ <|
(((!b1) = true → R (.ret (.bool false))) ∧
((!b1) = false → (CA 52 (C52 st 0 4 b2) ⟨⟨[I st, I 0, I 4], []⟩, []⟩ <|
(((!b2) = true → R (.ret (.bool false))) ∧
((!b2) = false → (((decide ((n : Int) > 8)) = true → R (.ret (.bool false))) ∧
((decide ((n : Int) > 8)) = false → ((((n2 : Int) != n) = true → R (.ret (.bool false))) ∧
(((n2 : Int) != n) = false → (((decide ((m : Int) > 5)) = true → R (.ret (.bool false))) ∧
((decide ((m : Int) > 5)) = false → (LW p20a T20a ⟨⟨[I 0, I rw, I st], [⟨n, cw⟩, ⟨n2, cv⟩, ⟨m, cu⟩]⟩, [spL n w, spL n2 v, raL m u], []⟩ .ret R20 ⟨⟨[.bool false], []⟩, [], []⟩ <|
R (.ret (.bool false))))))))))))))) := by kernel_rfl
theorem raL_at (m : Nat) (u : Nat → Raw) : ∀ v ∈ raL m u, atomic v = true := flatC_atomic fun i _ v hv => by
 have hv : v ∈ [I (u i).fl, I (u i).br, I (u i).row] := hv
 simp only [List.mem_cons, List.not_mem_nil, or_false] at hv
 rcases hv with rfl | rfl | rfl <;> rfl
theorem raL_len (m : Nat) (u : Nat → Raw) : (raL m u).length = m * 3 := flatC_len fun i _ => rfl
theorem raL_part {m i : Nat} (u : Nat → Raw) (h : i < m) : ((raL m u).drop (0 + i * 3)).take 3 = raV (u i) := by
 rw [Nat.zero_add]; exact flatC_part (k := 3) (fun i _ => rfl) h
theorem C52_ok (x a b : Int) : ConOK Tryd.prog 52 (C52 x a b (inB x a b)) := by
 refine con_of vx_sound _ (fun y hy => ?_) rfl (fun y _ => rfl) (fun y hy => ?_) rfl (Nat.le_of_ble_eq_true rfl) (by rw [nglob]; exact Nat.le_of_ble_eq_true rfl)
 · cases hy
   have key : ∀ R : ARes → Prop, R (.ret (.bool (inB x a b))) → ∃ hs, vx.call 52 [I x, I a, I b] (retK R) m2d hs := fun R hR => by
    refine ⟨_, (f52 x a b R).mpr ?_⟩
    unfold inB at hR
    repeat' (first | with_reducible apply And.intro | with_reducible intro)
    all_goals simp_all
   obtain ⟨hs, h⟩ := key (fun r => r = .ret (.bool (inB x a b))) rfl
   exact ⟨hs, h⟩
 · cases hy
   intro cs hcs
   cases hcs
theorem C53_ok (s : Sp) (most : Int) : ConOK Tryd.prog 53 (C53 s.lo s.hi most (spB s most)) := by
 refine con_of vx_sound _ (fun y hy => ?_) rfl (fun y _ => rfl) (fun y hy => ?_) rfl (Nat.le_of_ble_eq_true rfl) (by rw [nglob]; exact Nat.le_of_ble_eq_true rfl)
 · cases hy
   have key : ∀ R : ARes → Prop, R (.ret (.bool (spB s most))) → ∃ hs, vx.call 53 [.agg ⟨[I s.lo, I s.hi]⟩, I most] (retK R) m2d hs := fun R hR => by
    unfold spB at hR
    refine ⟨_, (f53 s.lo s.hi most R).mpr ⟨fun h1 => ⟨fun h2 => ⟨fun h3 => ⟨fun h4 => ?_, fun h4 => ?_⟩, fun h3 => ?_⟩, fun h2 => ?_⟩, fun h1 => ?_⟩⟩
    · rw [h1, h2, h3, h4] at hR; exact hR
    · rw [h1, h2, h3, h4] at hR; exact hR
    · rw [h1, h2, h3] at hR; exact hR
    · rw [h1, h2] at hR; exact hR
    · rw [h1] at hR; exact hR
   obtain ⟨hs, h⟩ := key (fun r => r = .ret (.bool (spB s most))) rfl
   exact ⟨hs, h⟩
 · cases hy
   intro cs hcs
   cases hcs
def allF (p : Nat → Bool) : Nat → Nat → Bool
 | 0, _ => true
 | r + 1, i => p i && allF p r (i + 1)
theorem allF_iff {p : Nat → Bool} : ∀ (r i : Nat), allF p r i = true ↔ ∀ j, i ≤ j → j < i + r → p j = true := by
 intro r
 induction r with
 | zero => intro i; exact ⟨fun _ j h1 h2 => by omega, fun _ => rfl⟩
 | succ r ih =>
  intro i
  simp only [allF, Bool.and_eq_true, ih]
  constructor
  · rintro ⟨h1, h2⟩ j h3 h4
    by_cases e : j = i
    · subst e; exact h1
    · exact h2 j (by omega) (by omega)
  · intro h
    exact ⟨h i (Nat.le_refl i) (by omega), fun j h1 h2 => h j (by omega) (by omega)⟩
section
variable {rw st : Int} {n cw n2 cv m cu : Nat} {w v : Nat → Sp} {u : Nat → Raw}
theorem cl3r {a : List Value} {b : List (Nat × Nat)} : ClW ⟨⟨a, b⟩, [spL n w, spL n2 v, raL m u], []⟩ := by
 refine ⟨fun cs hc => ?_, fun e hc => (by cases hc)⟩
 simp only [List.mem_cons, List.not_mem_nil, or_false] at hc
 rcases hc with rfl | rfl | rfl
 · exact spL_at _ _
 · exact spL_at _ _
 · exact raL_at _ _
theorem clF : ClW ⟨⟨[.bool false], []⟩, [], []⟩ := ⟨fun cs hc => (by cases hc), fun e hc => (by cases hc)⟩
def hoB (w v : Nat → Sp) (i : Nat) : Bool := spB (w i) 30 && spB (v i) 10
def huB (rw : Int) (u : Nat → Raw) (i : Nat) : Bool := inB (u i).fl 0 40 && (inB (u i).br 0 10 && inB (u i).row 0 (IntKind.i64.wrap (rw - 1)))
noncomputable def oa20 (rw st : Int) (n cw n2 cv m cu : Nat) (w v : Nat → Sp) (u : Nat → Raw) (b : Bool) : AExit × Nat × Hw :=
 if b = true then (.exit 0, 0, h20 rw st n cw n2 cv m cu (spL n w) (spL n2 v) (raL m u) n) else (.ret, 1, ⟨⟨[.bool false], []⟩, [], []⟩)
noncomputable def ob20 (rw st : Int) (n cw n2 cv m cu : Nat) (w v : Nat → Sp) (u : Nat → Raw) (b : Bool) : AExit × Nat × Hw :=
 if b = true then (.exit 2, 0, h20 rw st n cw n2 cv m cu (spL n w) (spL n2 v) (raL m u) m) else (.ret, 1, ⟨⟨[.bool false], []⟩, [], []⟩)
theorem loop20a (h8 : n ≤ 8) (hn2 : n2 = n) {b : Bool} (hb : allF (hoB w v) n 0 = b) {T1 : Tw} (h1 : [T20a, R20][(oa20 rw st n cw n2 cv m cu w v u b).2.1]? = some T1) :
    LoopOW Tryd.prog none p20a T20a (h20 rw st n cw n2 cv m cu (spL n w) (spL n2 v) (raL m u) 0) (oa20 rw st n cw n2 cv m cu w v u b).1 T1 (oa20 rw st n cw n2 cv m cu w v u b).2.2 := by
 have e0 : b = allF (hoB w v) (n - 0) 0 := by rw [Nat.sub_zero, hb]
 rw [e0] at h1 ⊢
 refine loop_vcW (P := Tryd.prog) (ro := none) (p := p20a) (Ts := [T20a, R20]) (k := 6) (X := Nat) (inv := fun i => i ≤ n) (μ := fun i => n - i) (st := fun i => (0, h20 rw st n cw n2 cv m cu (spL n w) (spL n2 v) (raL m u) i)) (out := fun i => oa20 rw st n cw n2 cv m cu w v u (allF (hoB w v) (n - i) i)) rfl vx_sound
  (by intro T hT; simp only [List.mem_cons, List.not_mem_nil, or_false] at hT; rcases hT with rfl | rfl <;> rfl) (by rw [nglob]; omega) (fun i hi => ?_) (x := 0) (Nat.zero_le n) (T0 := T20a) rfl (Nat.le_of_ble_eq_true rfl) (by decide) h1
 have hi : i ≤ n := hi
 by_cases hlt : i < n
 · have hw := wrS (i := i) (by omega)
   have hstep : allF (hoB w v) (n - i) i = (hoB w v i && allF (hoB w v) (n - (i + 1)) (i + 1)) := by
    have : n - i = (n - (i + 1)) + 1 := by omega
    rw [this]; rfl
   have pw := spL_part w hlt
   have pv := spL_part v (show i < n2 by omega)
   have lw := spL_len n w
   have lv := spL_len n2 v
   refine ⟨T20a, _, rfl, (b20a rw st n cw n2 cv m cu i (spB (w i) 30) (spB (v i) 10) w v u _).mpr ⟨fun _ => ⟨⟨⟨by omega, by omega⟩, rfl⟩, ⟨by rw [lw]; omega, by rw [pw]; rfl⟩, C53_ok (w i) 30, rfl, fun h => ?_, fun h => ⟨⟨⟨by omega, by omega⟩, rfl⟩, ⟨by rw [lv]; omega, by rw [pv]; rfl⟩, C53_ok (v i) 10, rfl, fun h' => ?_, fun h' => ?_⟩⟩, fun h => absurd (by omega) (of_decide_eq_false h)⟩⟩
   · have hf : allF (hoB w v) (n - i) i = false := by rw [hstep]; simp only [hoB]; rw [show spB (w i) 30 = false by simpa using h]; rfl
     exact ⟨⟨clF, trivial⟩, .inr ⟨by simp, by show oa20 rw st n cw n2 cv m cu w v u (allF (hoB w v) (n - i) i) = _; rw [hf]; rfl⟩⟩
   · have hf : allF (hoB w v) (n - i) i = false := by rw [hstep]; simp only [hoB]; rw [show spB (v i) 10 = false by simpa using h', Bool.and_false]; rfl
     exact ⟨⟨clF, trivial⟩, .inr ⟨by simp, by show oa20 rw st n cw n2 cv m cu w v u (allF (hoB w v) (n - i) i) = _; rw [hf]; rfl⟩⟩
   · have ht : hoB w v i = true := by simp only [hoB]; rw [show spB (w i) 30 = true by simpa using h, show spB (v i) 10 = true by simpa using h']; rfl
     rw [hw]
     refine ⟨⟨cl3r, trivial⟩, .inl ⟨rfl, i + 1, hlt, by show n - (i + 1) < n - i; omega, rfl, ?_⟩⟩
     show oa20 rw st n cw n2 cv m cu w v u (allF (hoB w v) (n - (i + 1)) (i + 1)) = oa20 rw st n cw n2 cv m cu w v u (allF (hoB w v) (n - i) i)
     rw [hstep, ht, Bool.true_and]
 · have e : i = n := by omega
   subst e
   refine ⟨T20a, _, rfl, (b20a rw st i cw n2 cv m cu i false false w v u _).mpr ⟨fun h => absurd (of_decide_eq_true h) (by omega), fun _ => ?_⟩⟩
   refine ⟨⟨cl3r, trivial⟩, .inr ⟨by simp, ?_⟩⟩
   show oa20 rw st i cw n2 cv m cu w v u (allF (hoB w v) (i - i) i) = _
   rw [Nat.sub_self]
   rfl
theorem loop20b (h5 : m ≤ 5) {b : Bool} (hb : allF (huB rw u) m 0 = b) {T1 : Tw} (h1 : [T20b, R20][(ob20 rw st n cw n2 cv m cu w v u b).2.1]? = some T1) :
    LoopOW Tryd.prog none p20b T20b (h20 rw st n cw n2 cv m cu (spL n w) (spL n2 v) (raL m u) 0) (ob20 rw st n cw n2 cv m cu w v u b).1 T1 (ob20 rw st n cw n2 cv m cu w v u b).2.2 := by
 have e0 : b = allF (huB rw u) (m - 0) 0 := by rw [Nat.sub_zero, hb]
 rw [e0] at h1 ⊢
 refine loop_vcW (P := Tryd.prog) (ro := none) (p := p20b) (Ts := [T20b, R20]) (k := 6) (X := Nat) (inv := fun i => i ≤ m) (μ := fun i => m - i) (st := fun i => (0, h20 rw st n cw n2 cv m cu (spL n w) (spL n2 v) (raL m u) i)) (out := fun i => ob20 rw st n cw n2 cv m cu w v u (allF (huB rw u) (m - i) i)) rfl vx_sound
  (by intro T hT; simp only [List.mem_cons, List.not_mem_nil, or_false] at hT; rcases hT with rfl | rfl <;> rfl) (by rw [nglob]; omega) (fun i hi => ?_) (x := 0) (Nat.zero_le m) (T0 := T20b) rfl (Nat.le_of_ble_eq_true rfl) (by decide) h1
 have hi : i ≤ m := hi
 by_cases hlt : i < m
 · have hw := wrS (i := i) (by omega)
   have hstep : allF (huB rw u) (m - i) i = (huB rw u i && allF (huB rw u) (m - (i + 1)) (i + 1)) := by
    have : m - i = (m - (i + 1)) + 1 := by omega
    rw [this]; rfl
   have pu := raL_part u hlt
   have lu := raL_len m u
   refine ⟨T20b, _, rfl, (b20b rw st n cw n2 cv m cu i (inB (u i).fl 0 40) (inB (u i).br 0 10) (inB (u i).row 0 (IntKind.i64.wrap (rw - 1))) w v u _).mpr ⟨fun _ => ⟨⟨⟨by omega, by omega⟩, rfl⟩, ⟨by rw [lu]; omega, by rw [pu]; rfl⟩, C52_ok _ _ _, rfl, fun h => ?_, fun h => ⟨C52_ok _ _ _, rfl, fun h' => ?_, fun h' => ⟨C52_ok _ _ _, rfl, fun h2 => ?_, fun h2 => ?_⟩⟩⟩, fun h => absurd (by omega) (of_decide_eq_false h)⟩⟩
   · have hf : allF (huB rw u) (m - i) i = false := by rw [hstep]; simp only [huB]; rw [show inB (u i).fl 0 40 = false by simpa using h]; rfl
     exact ⟨⟨clF, trivial⟩, .inr ⟨by simp, by show ob20 rw st n cw n2 cv m cu w v u (allF (huB rw u) (m - i) i) = _; rw [hf]; rfl⟩⟩
   · have hf : allF (huB rw u) (m - i) i = false := by rw [hstep]; simp only [huB]; rw [show inB (u i).br 0 10 = false by simpa using h', Bool.false_and, Bool.and_false]; rfl
     exact ⟨⟨clF, trivial⟩, .inr ⟨by simp, by show ob20 rw st n cw n2 cv m cu w v u (allF (huB rw u) (m - i) i) = _; rw [hf]; rfl⟩⟩
   · have hf : allF (huB rw u) (m - i) i = false := by rw [hstep]; simp only [huB]; rw [show inB (u i).row 0 (IntKind.i64.wrap (rw - 1)) = false by simpa using h2, Bool.and_false, Bool.and_false]; rfl
     exact ⟨⟨clF, trivial⟩, .inr ⟨by simp, by show ob20 rw st n cw n2 cv m cu w v u (allF (huB rw u) (m - i) i) = _; rw [hf]; rfl⟩⟩
   · have ht : huB rw u i = true := by simp only [huB]; rw [show inB (u i).fl 0 40 = true by simpa using h, show inB (u i).br 0 10 = true by simpa using h', show inB (u i).row 0 (IntKind.i64.wrap (rw - 1)) = true by simpa using h2]; rfl
     rw [hw]
     refine ⟨⟨cl3r, trivial⟩, .inl ⟨rfl, i + 1, hlt, by show m - (i + 1) < m - i; omega, rfl, ?_⟩⟩
     show ob20 rw st n cw n2 cv m cu w v u (allF (huB rw u) (m - (i + 1)) (i + 1)) = ob20 rw st n cw n2 cv m cu w v u (allF (huB rw u) (m - i) i)
     rw [hstep, ht, Bool.true_and]
 · have e : i = m := by omega
   subst e
   refine ⟨T20b, _, rfl, (b20b rw st n cw n2 cv i cu i false false false w v u _).mpr ⟨fun h => absurd (of_decide_eq_true h) (by omega), fun _ => ?_⟩⟩
   refine ⟨⟨cl3r, trivial⟩, .inr ⟨by simp, ?_⟩⟩
   show ob20 rw st n cw n2 cv i cu w v u (allF (huB rw u) (i - i) i) = _
   rw [Nat.sub_self]
   rfl
def okSu (rw st : Int) (n n2 m : Nat) (w v : Nat → Sp) (u : Nat → Raw) : Bool :=
 inB rw 1 6 && (inB st 0 4 && (!decide ((n : Int) > 8) && (!((n2 : Int) != (n : Int)) && (!decide ((m : Int) > 5) && (allF (hoB w v) n 0 && allF (huB rw u) m 0)))))
theorem C20_ok : ConOK Tryd.prog 20 (C20 rw st n cw n2 cv m cu (spL n w) (spL n2 v) (raL m u) (okSu rw st n n2 m w v u)) := by
 refine con_of vx_sound ⟨⟨[I rw, I st], [(n, cw), (n2, cv), (m, cu)]⟩, [spL n w, spL n2 v, raL m u]⟩ (fun y hy => ?_) rfl (fun y _ => rfl) (fun y hy => ?_) rfl (Nat.le_of_ble_eq_true rfl) (by rw [nglob]; exact Nat.le_of_ble_eq_true rfl)
 · cases hy
   have key : ∀ R : ARes → Prop, R (.ret (.bool (okSu rw st n n2 m w v u))) → ∃ hs, vx.call 20 [suR rw st n cw n2 cv m cu] (retK R) (mSd (spL n w) (spL n2 v) (raL m u)) hs := fun R hR => by
    have c1 := C52_ok rw 1 6
    have c2 := C52_ok st 0 4
    unfold okSu at hR
    have pre : ∀ X : Prop, ((decide ((n : Int) > 8)) = false → ((n2 : Int) != (n : Int)) = false → (decide ((m : Int) > 5)) = false → inB rw 1 6 = true → inB st 0 4 = true → X) → (((!inB rw 1 6) = true → R (.ret (.bool false))) ∧ ((!inB rw 1 6) = false → (ConOK Tryd.prog 52 (C52 st 0 4 (inB st 0 4)) ∧ (C52 st 0 4 (inB st 0 4)).pre ⟨⟨[I st, I 0, I 4], []⟩, []⟩ ∧ (((!inB st 0 4) = true → R (.ret (.bool false))) ∧ ((!inB st 0 4) = false → (((decide ((n : Int) > 8)) = true → R (.ret (.bool false))) ∧ ((decide ((n : Int) > 8)) = false → ((((n2 : Int) != (n : Int)) = true → R (.ret (.bool false))) ∧ (((n2 : Int) != (n : Int)) = false → (((decide ((m : Int) > 5)) = true → R (.ret (.bool false))) ∧ ((decide ((m : Int) > 5)) = false → X))))))))))) := fun X hX => by
     refine ⟨fun h => ?_, fun h => ⟨c2, rfl, fun h2 => ?_, fun h2 => ⟨fun h3 => ?_, fun h3 => ⟨fun h4 => ?_, fun h4 => ⟨fun h5 => ?_, fun h5 => hX h3 h4 h5 (by simpa using h) (by simpa using h2)⟩⟩⟩⟩⟩
     · rw [show inB rw 1 6 = false by simpa using h] at hR; exact hR
     · rw [show inB rw 1 6 = true by simpa using h, show inB st 0 4 = false by simpa using h2] at hR; exact hR
     · rw [show inB rw 1 6 = true by simpa using h, show inB st 0 4 = true by simpa using h2, h3] at hR; exact hR
     · rw [show inB rw 1 6 = true by simpa using h, show inB st 0 4 = true by simpa using h2, h3, h4] at hR; exact hR
     · rw [show inB rw 1 6 = true by simpa using h, show inB st 0 4 = true by simpa using h2, h3, h4, h5] at hR; exact hR
    have n8 : (decide ((n : Int) > 8)) = false → n ≤ 8 := fun h => by have := of_decide_eq_false h; omega
    have m5 : (decide ((m : Int) > 5)) = false → m ≤ 5 := fun h => by have := of_decide_eq_false h; omega
    have nn : ((n2 : Int) != (n : Int)) = false → n2 = n := fun h => by
     have : (n2 : Int) = n := by simpa using h
     omega
    cases ha : allF (hoB w v) n 0 with
    | false =>
     exact ⟨_, (f20f rw st n cw n2 cv m cu (inB rw 1 6) (inB st 0 4) w v u R).mpr ⟨c1, rfl, pre _ fun h3 h4 h5 h1 h2 => ⟨cl3r, loop20a (n8 h3) (nn h4) ha rfl, by rw [h1, h2, h3, h4, h5, ha] at hR; exact hR⟩⟩⟩
    | true =>
     cases hb : allF (huB rw u) m 0 with
     | false => exact ⟨_, (f20u rw st n cw n2 cv m cu (inB rw 1 6) (inB st 0 4) w v u R).mpr ⟨c1, rfl, pre _ fun h3 h4 h5 h1 h2 => ⟨cl3r, loop20a (n8 h3) (nn h4) ha rfl, cl3r, loop20b (m5 h5) hb rfl, by rw [h1, h2, h3, h4, h5, ha, hb] at hR; exact hR⟩⟩⟩
     | true => exact ⟨_, (f20t rw st n cw n2 cv m cu (inB rw 1 6) (inB st 0 4) w v u R).mpr ⟨c1, rfl, pre _ fun h3 h4 h5 h1 h2 => ⟨cl3r, loop20a (n8 h3) (nn h4) ha rfl, cl3r, loop20b (m5 h5) hb rfl, by rw [h1, h2, h3, h4, h5, ha, hb] at hR; exact hR⟩⟩⟩
   obtain ⟨hs, h⟩ := key (fun r => r = .ret (.bool (okSu rw st n n2 m w v u))) rfl
   exact ⟨hs, h⟩
 · cases hy
   intro cs hc
   simp only [List.mem_cons, List.not_mem_nil, or_false] at hc
   rcases hc with rfl | rfl | rfl
   · exact spL_at _ _
   · exact spL_at _ _
   · exact raL_at _ _
end
end Go.Ab
