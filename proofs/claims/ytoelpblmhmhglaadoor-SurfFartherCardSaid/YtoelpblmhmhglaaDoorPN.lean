/- package surf: the look whether a surf is valid, of any surf. -/
import Derived.Test.YtoelpblmhmhglaaDoorPL
import Derived.Test.YtoelpblmhmhglaaDoorPF
import Derived.Test.YtoelpblmhmhglaaDoorPK
set_option maxRecDepth 100000
namespace Go.Ab
open Go Go.RowKit Go.Proofs
theorem fwi (x a b : Int) (R : ARes → Prop) : (vx.call 56 [I x, I a, I b] (retK R) m2d ([(4, .split ([(3, .split ([]) ([]))]) ([]))])) =
(((decide (a ≤ x)) = true → (((decide (x ≤ b)) = true → R (.ret (.bool true))) ∧
((decide (x ≤ b)) = false → R (.ret (.bool false))))) ∧
((decide (a ≤ x)) = false → R (.ret (.bool false)))) := by kernel_rfl
theorem fna (lo hi most : Int) (b1 b2 b3 : Bool) (R : ARes → Prop) : (vx.call 95 [.agg ⟨[I lo, I hi]⟩, I most] (retK R) m2d ((6, .con (CWI lo 0 most b1)) :: [(0, .split ((3, .con (CWI hi 0 most b2)) :: [(0, .split ((6, .con (CWI (IntKind.i64.wrap (hi - lo)) 0 3 b3)) :: [(0, .split ([]) ([]))]) ([]))]) ([]))])) =
(CA 56 (CWI lo 0 most b1) ⟨⟨[I lo, I 0, I most], []⟩, []⟩ <|
((b1 = true → (CA 56 (CWI hi 0 most b2) ⟨⟨[I hi, I 0, I most], []⟩, []⟩ <|
((b2 = true → (CA 56 (CWI (IntKind.i64.wrap (hi - lo)) 0 3 b3) ⟨⟨[I (IntKind.i64.wrap (hi - lo)), I 0, I 3], []⟩, []⟩ <|
((b3 = true → R (.ret (.bool true))) ∧
(b3 = false → R (.ret (.bool false)))))) ∧
(b2 = false → R (.ret (.bool false)))))) ∧
(b1 = false → R (.ret (.bool false))))) := by kernel_rfl
theorem b79aN (rw st : Int) (n cw n2 cv : Nat) (i : Nat) (bw bv : Bool) (w v : Nat → Sp) (R : Nat → AExit → Hw → Prop) : (vx.code none (.l p79a) (leafW [T79aN, R79] R) (T79aN.inst (h79N rw st n cw n2 cv (spL n w) (spL n2 v) i)) ([(0, .split ((6, .val (.pointer (some ⟨2, 0 + i * 2, none⟩))) :: (0, .val (.agg ⟨[I (w i).lo, I (w i).hi]⟩)) :: (0, .con (CNA (w i).lo (w i).hi 30 bw)) :: [(0, .split ([(4, .tm 1 [])]) ((4, .val (.pointer (some ⟨3, 0 + i * 2, none⟩))) :: (0, .val (.agg ⟨[I (v i).lo, I (v i).hi]⟩)) :: (0, .con (CNA (v i).lo (v i).hi 10 bv)) :: [(0, .split ([(3, .tm 1 [])]) ([(4, .tm 0 [])]))]))]) ([(1, .tm 0 [])]))])) =
(((decide ((i : Int) < n)) = true → (((((0 : Int) ≤ i) ∧ ((i : Int) < n)) ∧ (VR (.pointer (some ⟨2, 0 + i * 2, none⟩)))) ∧
(((0 + i * 2 + 2 ≤ (spL n w).length) ∧ (((.agg ⟨[I (w i).lo, I (w i).hi]⟩) : Value) = (.agg ⟨List.take 2 (List.drop (0 + i * 2) (spL n w))⟩))) ∧
(CA 95 (CNA (w i).lo (w i).hi 30 bw) ⟨⟨[I (w i).lo, I (w i).hi, I 30], []⟩, []⟩ <|
(((!bw) = true → R (1 : Nat) .ret ⟨⟨[.bool false], []⟩, [], []⟩) ∧
((!bw) = false → (((((0 : Int) ≤ i) ∧ ((i : Int) < n2)) ∧ (VR (.pointer (some ⟨3, 0 + i * 2, none⟩)))) ∧
(((0 + i * 2 + 2 ≤ (spL n2 v).length) ∧ (((.agg ⟨[I (v i).lo, I (v i).hi]⟩) : Value) = (.agg ⟨List.take 2 (List.drop (0 + i * 2) (spL n2 v))⟩))) ∧
(CA 95 (CNA (v i).lo (v i).hi 10 bv) ⟨⟨[I (v i).lo, I (v i).hi, I 10], []⟩, []⟩ <|
(((!bv) = true → R (1 : Nat) .ret ⟨⟨[.bool false], []⟩, [], []⟩) ∧
((!bv) = false → R (0 : Nat) .normal ⟨⟨[I n, I (IntKind.i64.wrap ((i : Int) + (1 : Int))), I rw, I st], [⟨n, cw⟩, ⟨n2, cv⟩]⟩, [spL n w, spL n2 v], []⟩))))))))))) ∧
((decide ((i : Int) < n)) = false → R (0 : Nat) (.exit 0) ⟨⟨[I n, I i, I rw, I st], [⟨n, cw⟩, ⟨n2, cv⟩]⟩, [spL n w, spL n2 v], []⟩)) := by kernel_rfl
theorem f79tN (rw st : Int) (n cw n2 cv : Nat) (b1 b2 : Bool) (w v : Nat → Sp) (R : ARes → Prop) : (vx.call 79 [suN rw st n cw n2 cv] (retK R) (mN (spL n w) (spL n2 v)) ((5, .con (CWI rw 1 6 b1)) :: [(0, .split ([]) ((3, .con (CWI st 0 4 b2)) :: [(0, .split ([]) ([(5, .split ([]) ([(7, .split ([]) ((12, .loopW T79aN (.exit 0) T79aN fun _ => h79N rw st n cw n2 cv (spL n w) (spL n2 v) n) :: []))]))]))]))])) =
(CA 56 (CWI rw 1 6 b1) ⟨⟨[I rw, I 1, I 6], []⟩, []⟩ <|
(((!b1) = true → R (.ret (.bool false))) ∧
((!b1) = false → (CA 56 (CWI st 0 4 b2) ⟨⟨[I st, I 0, I 4], []⟩, []⟩ <|
(((!b2) = true → R (.ret (.bool false))) ∧
((!b2) = false → (((decide ((n : Int) > 8)) = true → R (.ret (.bool false))) ∧
((decide ((n : Int) > 8)) = false → ((((n2 : Int) != n) = true → R (.ret (.bool false))) ∧
(((n2 : Int) != n) = false → (LW p79a T79aN ⟨⟨[I n, I 0, I rw, I st], [⟨n, cw⟩, ⟨n2, cv⟩]⟩, [spL n w, spL n2 v], []⟩ (.exit 0) T79aN (h79N rw st n cw n2 cv (spL n w) (spL n2 v) n) <|
R (.ret (.bool true))))))))))))) := by kernel_rfl
theorem f79uN (rw st : Int) (n cw n2 cv : Nat) (b1 b2 : Bool) (w v : Nat → Sp) (R : ARes → Prop) : (vx.call 79 [suN rw st n cw n2 cv] (retK R) (mN (spL n w) (spL n2 v)) ((5, .con (CWI rw 1 6 b1)) :: [(0, .split ([]) ((3, .con (CWI st 0 4 b2)) :: [(0, .split ([]) ([(5, .split ([]) ([(7, .split ([]) ((12, .loopW T79aN AExit.ret R79 fun _ => { hs := { vs := [Value.bool false], ns := [] }, ls := [], es := [] }) :: []))]))]))]))])) =
(CA 56 (CWI rw 1 6 b1) ⟨⟨[I rw, I 1, I 6], []⟩, []⟩ <|
(((!b1) = true → R (.ret (.bool false))) ∧
((!b1) = false → (CA 56 (CWI st 0 4 b2) ⟨⟨[I st, I 0, I 4], []⟩, []⟩ <|
(((!b2) = true → R (.ret (.bool false))) ∧
((!b2) = false → (((decide ((n : Int) > 8)) = true → R (.ret (.bool false))) ∧
((decide ((n : Int) > 8)) = false → ((((n2 : Int) != n) = true → R (.ret (.bool false))) ∧
(((n2 : Int) != n) = false → (LW p79a T79aN ⟨⟨[I n, I 0, I rw, I st], [⟨n, cw⟩, ⟨n2, cv⟩]⟩, [spL n w, spL n2 v], []⟩ .ret R79 ⟨⟨[.bool false], []⟩, [], []⟩ <|
R (.ret (.bool false))))))))))))) := by kernel_rfl
theorem CWI_ok (x a b : Int) : ConOK Tryd.prog 56 (CWI x a b (inB x a b)) := by
 refine con_of vx_sound _ (fun y hy => ?_) rfl (fun y _ => rfl) (fun y hy => ?_) rfl (Nat.le_of_ble_eq_true rfl) (by rw [nglob]; exact Nat.le_of_ble_eq_true rfl)
 · cases hy
   have key : ∀ R : ARes → Prop, R (.ret (.bool (inB x a b))) → ∃ hs, vx.call 56 [I x, I a, I b] (retK R) m2d hs := fun R hR => by
    refine ⟨_, (fwi x a b R).mpr ?_⟩
    unfold inB at hR
    repeat' (first | with_reducible apply And.intro | with_reducible intro)
    all_goals simp_all
   obtain ⟨hs, h⟩ := key (fun r => r = .ret (.bool (inB x a b))) rfl
   exact ⟨hs, h⟩
 · cases hy
   intro cs hcs
   cases hcs
theorem CNA_ok (s : Sp) (most : Int) (hm : most ≤ 30) : ConOK Tryd.prog 95 (CNA s.lo s.hi most (spB s most)) := by
 refine con_of vx_sound _ (fun y hy => ?_) rfl (fun y _ => rfl) (fun y hy => ?_) rfl (Nat.le_of_ble_eq_true rfl) (by rw [nglob]; exact Nat.le_of_ble_eq_true rfl)
 · cases hy
   have e : spB s most = (inB s.lo 0 most && (inB s.hi 0 most && inB (IntKind.i64.wrap (s.hi - s.lo)) 0 3)) := by
    rw [Bool.eq_iff_iff]
    simp only [spB, inB, Bool.and_eq_true, decide_eq_true_eq]
    constructor
    · rintro ⟨h1, h2, h3, h4⟩
      rw [wrapI (by omega) (by omega)] at h4 ⊢
      omega
    · rintro ⟨⟨h1, h2⟩, ⟨h3, h4⟩, h5, h6⟩
      rw [wrapI (by omega) (by omega)] at h5 h6 ⊢
      omega
   have key : ∀ R : ARes → Prop, R (.ret (.bool (spB s most))) → ∃ hs, vx.call 95 [.agg ⟨[I s.lo, I s.hi]⟩, I most] (retK R) m2d hs := fun R hR => by
    rw [e] at hR
    refine ⟨_, (fna s.lo s.hi most (inB s.lo 0 most) (inB s.hi 0 most) (inB (IntKind.i64.wrap (s.hi - s.lo)) 0 3) R).mpr ?_⟩
    have c1 := CWI_ok s.lo 0 most
    have c2 := CWI_ok s.hi 0 most
    have c3 := CWI_ok (IntKind.i64.wrap (s.hi - s.lo)) 0 3
    repeat' (first | with_reducible apply And.intro | with_reducible intro)
    all_goals first
     | exact c1
     | exact c2
     | exact c3
     | rfl
     | simp_all
   obtain ⟨hs, h⟩ := key (fun r => r = .ret (.bool (spB s most))) rfl
   exact ⟨hs, h⟩
 · cases hy
   intro cs hcs
   cases hcs
section
variable {rw st : Int} {n cw n2 cv : Nat} {w v : Nat → Sp}
noncomputable def oa79N (rw st : Int) (n cw n2 cv : Nat) (w v : Nat → Sp) (b : Bool) : AExit × Nat × Hw := if b = true then (.exit 0, 0, h79N rw st n cw n2 cv (spL n w) (spL n2 v) n) else (.ret, 1, ⟨⟨[.bool false], []⟩, [], []⟩)
theorem loop79aN (h8 : n ≤ 8) (hn2 : n2 = n) {b : Bool} (hb : allF (hoB w v) n 0 = b) {T1 : Tw} (h1 : [T79aN, R79][(oa79N rw st n cw n2 cv w v b).2.1]? = some T1) :
    LoopOW Tryd.prog none p79a T79aN (h79N rw st n cw n2 cv (spL n w) (spL n2 v) 0) (oa79N rw st n cw n2 cv w v b).1 T1 (oa79N rw st n cw n2 cv w v b).2.2 := by
 have e0 : b = allF (hoB w v) (n - 0) 0 := by rw [Nat.sub_zero, hb]
 rw [e0] at h1 ⊢
 refine loop_vcW (P := Tryd.prog) (ro := none) (p := p79a) (Ts := [T79aN, R79]) (k := 6) (X := Nat) (inv := fun i => i ≤ n) (μ := fun i => n - i) (st := fun i => (0, h79N rw st n cw n2 cv (spL n w) (spL n2 v) i)) (out := fun i => oa79N rw st n cw n2 cv w v (allF (hoB w v) (n - i) i)) rfl vx_sound
  (by intro T hT; simp only [List.mem_cons, List.not_mem_nil, or_false] at hT; rcases hT with rfl | rfl <;> rfl) (by rw [nglob]; omega) (fun i hi => ?_) (x := 0) (Nat.zero_le n) (T0 := T79aN) rfl (Nat.le_of_ble_eq_true rfl) (by decide) h1
 have hi : i ≤ n := hi
 by_cases hlt : i < n
 · have hw := wrS (i := i) (by omega)
   have hstep : allF (hoB w v) (n - i) i = (hoB w v i && allF (hoB w v) (n - (i + 1)) (i + 1)) := by
    have : n - i = (n - (i + 1)) + 1 := by omega
    rw [this]; rfl
   have pw := spL_part w hlt
   have pv := spL_part v (show i < n2 by omega)
   have lw := spL_len n w
   have lv := spL_len n2 v
   refine ⟨T79aN, _, rfl, (b79aN rw st n cw n2 cv i (spB (w i) 30) (spB (v i) 10) w v _).mpr ⟨fun _ => ⟨⟨⟨by omega, by omega⟩, rfl⟩, ⟨by rw [lw]; omega, by rw [pw]; rfl⟩, CNA_ok (w i) 30 (by omega), rfl, fun h => ?_, fun h => ⟨⟨⟨by omega, by omega⟩, rfl⟩, ⟨by rw [lv]; omega, by rw [pv]; rfl⟩, CNA_ok (v i) 10 (by omega), rfl, fun h' => ?_, fun h' => ?_⟩⟩, fun h => absurd (by omega) (of_decide_eq_false h)⟩⟩
   · have hf : allF (hoB w v) (n - i) i = false := by rw [hstep]; simp only [hoB]; rw [show spB (w i) 30 = false by simpa using h]; rfl
     exact ⟨⟨clF, trivial⟩, .inr ⟨by simp, by show oa79N rw st n cw n2 cv w v (allF (hoB w v) (n - i) i) = _; rw [hf]; rfl⟩⟩
   · have hf : allF (hoB w v) (n - i) i = false := by rw [hstep]; simp only [hoB]; rw [show spB (v i) 10 = false by simpa using h', Bool.and_false]; rfl
     exact ⟨⟨clF, trivial⟩, .inr ⟨by simp, by show oa79N rw st n cw n2 cv w v (allF (hoB w v) (n - i) i) = _; rw [hf]; rfl⟩⟩
   · have ht : hoB w v i = true := by simp only [hoB]; rw [show spB (w i) 30 = true by simpa using h, show spB (v i) 10 = true by simpa using h']; rfl
     rw [hw]
     refine ⟨⟨clN, trivial⟩, .inl ⟨rfl, i + 1, hlt, by show n - (i + 1) < n - i; omega, rfl, ?_⟩⟩
     show oa79N rw st n cw n2 cv w v (allF (hoB w v) (n - (i + 1)) (i + 1)) = oa79N rw st n cw n2 cv w v (allF (hoB w v) (n - i) i)
     rw [hstep, ht, Bool.true_and]
 · have e : i = n := by omega
   subst e
   refine ⟨T79aN, _, rfl, (b79aN rw st i cw n2 cv i false false w v _).mpr ⟨fun h => absurd (of_decide_eq_true h) (by omega), fun _ => ?_⟩⟩
   refine ⟨⟨clN, trivial⟩, .inr ⟨by simp, ?_⟩⟩
   show oa79N rw st i cw n2 cv w v (allF (hoB w v) (i - i) i) = _
   rw [Nat.sub_self]
   rfl
theorem C79N_ok : ConOK Tryd.prog 79 (C20N rw st n cw n2 cv (spL n w) (spL n2 v) (okSN rw st n n2 w v)) := by
 refine con_of vx_sound ⟨⟨[I rw, I st], [(n, cw), (n2, cv)]⟩, [spL n w, spL n2 v]⟩ (fun y hy => ?_) rfl (fun y _ => rfl) (fun y hy => ?_) rfl (Nat.le_of_ble_eq_true rfl) (by rw [nglob]; exact Nat.le_of_ble_eq_true rfl)
 · cases hy
   have key : ∀ R : ARes → Prop, R (.ret (.bool (okSN rw st n n2 w v))) → ∃ hs, vx.call 79 [suN rw st n cw n2 cv] (retK R) (mN (spL n w) (spL n2 v)) hs := fun R hR => by
    have k1 := CWI_ok rw 1 6
    have k2 := CWI_ok st 0 4
    unfold okSN at hR
    have pre : ∀ X : Prop, ((decide ((n : Int) > 8)) = false → ((n2 : Int) != (n : Int)) = false → inB rw 1 6 = true → inB st 0 4 = true → X) → (((!inB rw 1 6) = true → R (.ret (.bool false))) ∧ ((!inB rw 1 6) = false → ConOK Tryd.prog 56 (CWI st 0 4 (inB st 0 4)) ∧ Con.pre (CWI st 0 4 (inB st 0 4)) ⟨⟨[I st, I 0, I 4], []⟩, []⟩ ∧ (((!inB st 0 4) = true → R (.ret (.bool false))) ∧ ((!inB st 0 4) = false → ((decide ((n : Int) > 8)) = true → R (.ret (.bool false))) ∧ ((decide ((n : Int) > 8)) = false → ((((n2 : Int) != (n : Int)) = true → R (.ret (.bool false))) ∧ (((n2 : Int) != (n : Int)) = false → X))))))) := fun X hX => by
     refine ⟨fun h => ?_, fun h => ⟨k2, rfl, fun h2 => ?_, fun h2 => ⟨fun h3 => ?_, fun h3 => ⟨fun h4 => ?_, fun h4 => hX h3 h4 (by simpa using h) (by simpa using h2)⟩⟩⟩⟩
     · rw [show inB rw 1 6 = false by simpa using h] at hR; exact hR
     · rw [show inB rw 1 6 = true by simpa using h, show inB st 0 4 = false by simpa using h2] at hR; exact hR
     · rw [show inB rw 1 6 = true by simpa using h, show inB st 0 4 = true by simpa using h2, h3] at hR; exact hR
     · rw [show inB rw 1 6 = true by simpa using h, show inB st 0 4 = true by simpa using h2, h3, h4] at hR; exact hR
    have n8 : (decide ((n : Int) > 8)) = false → n ≤ 8 := fun h => by have := of_decide_eq_false h; omega
    have nn : ((n2 : Int) != (n : Int)) = false → n2 = n := fun h => by
     have : (n2 : Int) = n := by simpa using h
     omega
    cases ha : allF (hoB w v) n 0 with
    | false => exact ⟨_, (f79uN rw st n cw n2 cv (inB rw 1 6) (inB st 0 4) w v R).mpr ⟨k1, rfl, pre _ fun h3 h4 h1 h2 => ⟨clN, loop79aN (n8 h3) (nn h4) ha rfl, by rw [h1, h2, h3, h4, ha] at hR; exact hR⟩⟩⟩
    | true => exact ⟨_, (f79tN rw st n cw n2 cv (inB rw 1 6) (inB st 0 4) w v R).mpr ⟨k1, rfl, pre _ fun h3 h4 h1 h2 => ⟨clN, loop79aN (n8 h3) (nn h4) ha rfl, by rw [h1, h2, h3, h4, ha] at hR; exact hR⟩⟩⟩
   obtain ⟨hs, h⟩ := key (fun r => r = .ret (.bool (okSN rw st n n2 w v))) rfl
   exact ⟨hs, h⟩
 · cases hy
   intro cs hc
   simp only [List.mem_cons, List.not_mem_nil, or_false] at hc
   rcases hc with rfl | rfl
   · exact spL_at _ _
   · exact spL_at _ _
end
end Go.Ab
set_option maxRecDepth 100000
namespace Go.Ab
open Go Go.RowKit Go.Proofs
end Go.Ab
