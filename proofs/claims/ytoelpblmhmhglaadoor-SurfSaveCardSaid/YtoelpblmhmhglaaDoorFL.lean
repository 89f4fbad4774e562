/- package surf: SurfSave: whether a list is right, as the law asks it. -/
import Derived.Test.YtoelpblmhmhglaaDoorFK
import Derived.Test.YtoelpblmhmhglaaDoorFJ
set_option maxRecDepth 100000
namespace Go.Ab
open Go Go.RowKit Go.Proofs
theorem b26n0 (rw st mz : Int) (n cw cv m cu k kc : Nat) (w v : Nat → Sp) (u : Nat → Hut) (L : Nat → Int) (tb : List Value) (out : Int) (es : List (Value × Value)) (i : Nat) (x : Nat) (R : Nat → AExit → Hw → Prop) : (vx.code none (.l p26) (leafW [T26, R26] R) (T26.inst (h26 rw st n cw cv m cu tb (spL n w) (spL n v) (huL m u) (ints k L) mz k kc out es i)) ((0, .val (.bool true)) :: (2, .val (.pointer (some ⟨7, 0 + i * 1, none⟩))) :: (0, .val (I (L i))) :: (4, .con (CS1 rw st n cw cv m cu tb (spL n w) (spL n v) (huL m u) i (.tuple ⟨[I x, I 0]⟩))) :: (6, .val (.bool true)) :: (6, .val (I (IntKind.i64.wrap ((1 : Int) * (2 : Int) ^ i)))) :: [(3, .split ([(3, .tm 1 [])]) ([(3, .tm 0 [])]))])) =
(((OT (decide ((i : Int) < k)) true) ∧
((((((0 : Int) ≤ i)) ∧ (((i : Int) < k))) ∧ (VR (.pointer (some ⟨7, 0 + i * 1, none⟩)))) ∧
((((ints k L)[0 + i * 1]? = some (I (L i)))) ∧
(CA 16 (CS1 rw st n cw cv m cu tb (spL n w) (spL n v) (huL m u) i (.tuple ⟨[I x, I 0]⟩)) ⟨⟨[(I rw), (I st), (I i)], [⟨n, cw⟩, ⟨n, cv⟩, ⟨m, cu⟩]⟩, [tb, (spL n w), (spL n v), (huL m u)]⟩ <|
((OT (decide (L i < (0 : Int))) true) ∧
((((((0 : Int) ≤ i)) ∧ (((i : Int) ≤ (↑(64 : Nat) : Int)))) ∧ (((I (IntKind.i64.wrap ((1 : Int) * (2 : Int) ^ i))) : Value) = (I (IntKind.i64.wrap ((1 : Int) * (2 : Int) ^ i))))) ∧
(((L i != (-1 : Int)) = true → R 1 .ret ⟨⟨[(I 0), (.bool false)], []⟩, [], []⟩) ∧
((L i != (-1 : Int)) = false → R 0 .normal ⟨⟨[(I (bits BinOp.or IntKind.i64 out (IntKind.i64.wrap ((1 : Int) * (2 : Int) ^ i)))), (I k), (I (IntKind.i64.wrap ((i : Int) + (1 : Int)))), (I rw), (I st), (I mz)], [⟨k, kc⟩, ⟨n, cw⟩, ⟨n, cv⟩, ⟨m, cu⟩]⟩, [tb, (spL n w), (spL n v), (huL m u), (ints k L)], [es]⟩))))))))) := by kernel_rfl
theorem b26n4 (rw st mz : Int) (n cw cv m cu k kc : Nat) (w v : Nat → Sp) (u : Nat → Hut) (L : Nat → Int) (tb : List Value) (out : Int) (es : List (Value × Value)) (i : Nat) (R : Nat → AExit → Hw → Prop) : (vx.code none (.l p26) (leafW [T26, R26] R) (T26.inst (h26 rw st n cw cv m cu tb (spL n w) (spL n v) (huL m u) (ints k L) mz k kc out es i)) ((0, .val (.bool true)) :: (2, .val (.pointer (some ⟨7, 0 + i * 1, none⟩))) :: (0, .val (I (L i))) :: (4, .con (CS1 rw st n cw cv m cu tb (spL n w) (spL n v) (huL m u) i (.tuple ⟨[I 0, I 4]⟩))) :: (6, .val (.bool true)) :: [(5, .split ([(3, .tm 1 [])]) ([(3, .tm 0 [])]))])) =
(((OT (decide ((i : Int) < k)) true) ∧
((((((0 : Int) ≤ i)) ∧ (((i : Int) < k))) ∧ (VR (.pointer (some ⟨7, 0 + i * 1, none⟩)))) ∧
((((ints k L)[0 + i * 1]? = some (I (L i)))) ∧
(CA 16 (CS1 rw st n cw cv m cu tb (spL n w) (spL n v) (huL m u) i (.tuple ⟨[I 0, I 4]⟩)) ⟨⟨[(I rw), (I st), (I i)], [⟨n, cw⟩, ⟨n, cv⟩, ⟨m, cu⟩]⟩, [tb, (spL n w), (spL n v), (huL m u)]⟩ <|
((OT (decide (L i < (0 : Int))) true) ∧
(((L i != (-1 : Int)) = true → R 1 .ret ⟨⟨[(I 0), (.bool false)], []⟩, [], []⟩) ∧
((L i != (-1 : Int)) = false → R 0 .normal ⟨⟨[(I out), (I k), (I (IntKind.i64.wrap ((i : Int) + (1 : Int)))), (I rw), (I st), (I mz)], [⟨k, kc⟩, ⟨n, cw⟩, ⟨n, cv⟩, ⟨m, cu⟩]⟩, [tb, (spL n w), (spL n v), (huL m u), (ints k L)], [es]⟩)))))))) := by kernel_rfl
theorem b26p0 (rw st mz : Int) (n cw cv m cu k kc : Nat) (w v : Nat → Sp) (u : Nat → Hut) (L : Nat → Int) (tb : List Value) (out : Int) (es : List (Value × Value)) (i : Nat) (x c c2 : Nat) (es2 : List (Value × Value)) (R : Nat → AExit → Hw → Prop) : (vx.code none (.l p26) (leafW [T26, R26] R) (T26.inst (h26 rw st n cw cv m cu tb (spL n w) (spL n v) (huL m u) (ints k L) mz k kc out es i)) ((0, .val (.bool true)) :: (2, .val (.pointer (some ⟨7, 0 + i * 1, none⟩))) :: (0, .val (I (L i))) :: (4, .con (CS1 rw st n cw cv m cu tb (spL n w) (spL n v) (huL m u) i (.tuple ⟨[I x, I 0]⟩))) :: (6, .val (.bool false)) :: (3, .val (I c)) :: (1, Hint.mset es2) :: [(5, .split ([(6, .tm 1 [])]) ((4, .val (I c2)) :: [(1, .split ([(4, .tm 1 [])]) ([(4, .tm 0 [])]))]))])) =
(((OT (decide ((i : Int) < k)) true) ∧
((((((0 : Int) ≤ i)) ∧ (((i : Int) < k))) ∧ (VR (.pointer (some ⟨7, 0 + i * 1, none⟩)))) ∧
((((ints k L)[0 + i * 1]? = some (I (L i)))) ∧
(CA 16 (CS1 rw st n cw cv m cu tb (spL n w) (spL n v) (huL m u) i (.tuple ⟨[I x, I 0]⟩)) ⟨⟨[(I rw), (I st), (I i)], [⟨n, cw⟩, ⟨n, cv⟩, ⟨m, cu⟩]⟩, [tb, (spL n w), (spL n v), (huL m u)]⟩ <|
((OT (decide (L i < (0 : Int))) false) ∧
((LookC Tryd.prog 3 (I 0) es (I (L i)) false (I c)) ∧
((SetC Tryd.prog 3 es (I (L i)) (I (IntKind.i64.wrap ((c : Int) + (1 : Int)))) es2) ∧
(((decide (L i ≥ (x : Int))) = true → R 1 .ret ⟨⟨[(I 0), (.bool false)], []⟩, [], []⟩) ∧
((decide (L i ≥ (x : Int))) = false → ((LookC Tryd.prog 3 (I 0) es2 (I (L i)) false (I c2)) ∧
(((decide ((c2 : Int) > mz)) = true → R 1 .ret ⟨⟨[(I 0), (.bool false)], []⟩, [], []⟩) ∧
((decide ((c2 : Int) > mz)) = false → R 0 .normal ⟨⟨[(I out), (I k), (I (IntKind.i64.wrap ((i : Int) + (1 : Int)))), (I rw), (I st), (I mz)], [⟨k, kc⟩, ⟨n, cw⟩, ⟨n, cv⟩, ⟨m, cu⟩]⟩, [tb, (spL n w), (spL n v), (huL m u), (ints k L)], [es2]⟩))))))))))))) := by kernel_rfl
theorem b26p4 (rw st mz : Int) (n cw cv m cu k kc : Nat) (w v : Nat → Sp) (u : Nat → Hut) (L : Nat → Int) (tb : List Value) (out : Int) (es : List (Value × Value)) (i : Nat) (c _ : Nat) (es2 : List (Value × Value)) (R : Nat → AExit → Hw → Prop) : (vx.code none (.l p26) (leafW [T26, R26] R) (T26.inst (h26 rw st n cw cv m cu tb (spL n w) (spL n v) (huL m u) (ints k L) mz k kc out es i)) ((0, .val (.bool true)) :: (2, .val (.pointer (some ⟨7, 0 + i * 1, none⟩))) :: (0, .val (I (L i))) :: (4, .con (CS1 rw st n cw cv m cu tb (spL n w) (spL n v) (huL m u) i (.tuple ⟨[I 0, I 4]⟩))) :: (6, .val (.bool false)) :: (3, .val (I c)) :: (1, Hint.mset es2) :: [(9, .tm 1 [])])) =
(((OT (decide ((i : Int) < k)) true) ∧
((((((0 : Int) ≤ i)) ∧ (((i : Int) < k))) ∧ (VR (.pointer (some ⟨7, 0 + i * 1, none⟩)))) ∧
((((ints k L)[0 + i * 1]? = some (I (L i)))) ∧
(CA 16 (CS1 rw st n cw cv m cu tb (spL n w) (spL n v) (huL m u) i (.tuple ⟨[I 0, I 4]⟩)) ⟨⟨[(I rw), (I st), (I i)], [⟨n, cw⟩, ⟨n, cv⟩, ⟨m, cu⟩]⟩, [tb, (spL n w), (spL n v), (huL m u)]⟩ <|
((OT (decide (L i < (0 : Int))) false) ∧
((LookC Tryd.prog 3 (I 0) es (I (L i)) false (I c)) ∧
((SetC Tryd.prog 3 es (I (L i)) (I (IntKind.i64.wrap ((c : Int) + (1 : Int)))) es2) ∧
R 1 .ret ⟨⟨[(I 0), (.bool false)], []⟩, [], []⟩)))))))) := by kernel_rfl
theorem b26x (rw st mz : Int) (n cw cv m cu k kc : Nat) (w v : Nat → Sp) (u : Nat → Hut) (L : Nat → Int) (tb : List Value) (out : Int) (es : List (Value × Value)) (i : Nat) (R : Nat → AExit → Hw → Prop) : (vx.code none (.l p26) (leafW [T26, R26] R) (T26.inst (h26 rw st n cw cv m cu tb (spL n w) (spL n v) (huL m u) (ints k L) mz k kc out es i)) ((0, .val (.bool false)) :: [(1, .tm 0 [])])) =
(((OT (decide ((i : Int) < k)) false) ∧
R 0 (.exit 0) ⟨⟨[(I out), (I k), (I i), (I rw), (I st), (I mz)], [⟨k, kc⟩, ⟨n, cw⟩, ⟨n, cv⟩, ⟨m, cu⟩]⟩, [tb, (spL n w), (spL n v), (huL m u), (ints k L)], [es]⟩)) := by kernel_rfl
theorem f26t (rw st mz : Int) (n cw cv m cu k kc : Nat) (w v : Nat → Sp) (u : Nat → Hut) (L : Nat → Int) (tb : List Value) (out : Int) (es : List (Value × Value)) (R : ARes → Prop) : (vx.call 26 [slV 7 k kc, pS 5, pS 6] (retK R) (m26 tb (spL n w) (spL n v) (huL m u) (slM rw st n cw cv m cu) (ints k L) mz) ((9, .loopW T26 (.exit 0) T26 fun _ => h26 rw st n cw cv m cu tb (spL n w) (spL n v) (huL m u) (ints k L) mz k kc out es k) :: [])) =
((LW p26 T26 ⟨⟨[(I 0), (I k), (I 0), (I rw), (I st), (I mz)], [⟨k, kc⟩, ⟨n, cw⟩, ⟨n, cv⟩, ⟨m, cu⟩]⟩, [tb, (spL n w), (spL n v), (huL m u), (ints k L)], [[]]⟩ (.exit 0) T26 ⟨⟨[(I out), (I k), (I k), (I rw), (I st), (I mz)], [⟨k, kc⟩, ⟨n, cw⟩, ⟨n, cv⟩, ⟨m, cu⟩]⟩, [tb, (spL n w), (spL n v), (huL m u), (ints k L)], [es]⟩ <|
R (.ret (.tuple ⟨[(I out), (.bool true)]⟩)))) := by kernel_rfl
theorem f26f (rw st mz : Int) (n cw cv m cu k kc : Nat) (w v : Nat → Sp) (u : Nat → Hut) (L : Nat → Int) (tb : List Value) (R : ARes → Prop) : (vx.call 26 [slV 7 k kc, pS 5, pS 6] (retK R) (m26 tb (spL n w) (spL n v) (huL m u) (slM rw st n cw cv m cu) (ints k L) mz) ((9, .loopW T26 AExit.ret R26 fun _ => r26 (0 : Int) false) :: [])) =
((LW p26 T26 ⟨⟨[(I 0), (I k), (I 0), (I rw), (I st), (I mz)], [⟨k, kc⟩, ⟨n, cw⟩, ⟨n, cv⟩, ⟨m, cu⟩]⟩, [tb, (spL n w), (spL n v), (huL m u), (ints k L)], [[]]⟩ .ret R26 ⟨⟨[(I 0), (.bool false)], []⟩, [], []⟩ <|
R (.ret (.tuple ⟨[(I 0), (.bool false)]⟩)))) := by kernel_rfl
theorem runX_some {ex : Nat → Option (AExit × Nat × Hw)} {fin o : AExit × Nat × Hw} : ∀ r i, (∀ j, i ≤ j → j < i + r → ex j = none ∨ ex j = some o) → (∃ j, i ≤ j ∧ j < i + r ∧ ex j = some o) → runX ex fin r i = o := by
 intro r
 induction r with
 | zero => intro i _ ⟨j, h1, h2, _⟩; omega
 | succ r ih =>
  intro i h ⟨j, h1, h2, h3⟩
  simp only [runX]
  rcases h i (Nat.le_refl _) (by omega) with h4 | h4
  · rw [h4]
    refine ih (i + 1) (fun k h5 h6 => h k (by omega) (by omega)) ⟨j, ?_, by omega, h3⟩
    by_cases e : j = i
    · subst e; rw [h4] at h3; cases h3
    · omega
  · rw [h4]
theorem cnt_look {L : Nat → Int} {i : Nat} (hl : ¬ L i < 0) (hi : i < 6) : LookC Tryd.prog 3 (I 0) (encI (mapR L i)) (I (L i)) false (I ((cntL L i (L i).toNat : Nat) : Int)) ∧
    SetC Tryd.prog 3 (encI (mapR L i)) (I (L i)) (I (IntKind.i64.wrap (((cntL L i (L i).toNat : Nat) : Int) + 1))) (encI (mapR L (i + 1))) ∧
    LookC Tryd.prog 3 (I 0) (encI (mapR L (i + 1))) (I (L i)) false (I ((cntL L i (L i).toNat + 1 : Nat) : Int)) := by
 have hm : mapR L (i + 1) = setA (mapR L i) (L i) ((cntL L i (L i).toNat + 1 : Nat) : Int) := by simp only [mapR, if_neg hl]
 have hc := cntL_le L (L i).toNat i
 have g1 := mapR_get L i (h := L i) (by omega)
 have hw2 : IntKind.i64.wrap (((cntL L i (L i).toNat : Nat) : Int) + 1) = ((cntL L i (L i).toNat + 1 : Nat) : Int) := wrapI (by omega) (by omega)
 refine ⟨lookI _ _ ?_, ?_, lookI _ _ ?_⟩
 · cases hg : getA (mapR L i) (L i) with
   | none => rw [hg] at g1; rw [← g1]; rfl
   | some z => rw [hg] at g1; rw [← g1]; rfl
 · rw [hw2, hm]; exact setI _ _ _
 · rw [hm, get_set, if_pos rfl]; rfl
theorem or_tab5 : ((List.range 32).all fun a => (List.range 5).all fun i => bits BinOp.or IntKind.i64 (a : Int) (IntKind.i64.wrap ((1 : Int) * (2 : Int) ^ i)) == ((a ||| 2 ^ i : Nat) : Int)) = true := by kernel_rfl
theorem or_eq5 {a i : Nat} (ha : a < 32) (hi : i < 5) : bits BinOp.or IntKind.i64 (a : Int) (IntKind.i64.wrap ((1 : Int) * (2 : Int) ^ i)) = ((a ||| 2 ^ i : Nat) : Int) :=
 beq_iff_eq.1 (List.all_eq_true.1 (List.all_eq_true.1 or_tab5 a (List.mem_range.2 ha)) i (List.mem_range.2 hi))
section
variable {rw st : Int} {n cw cv m cu kc many : Nat} {w v : Nat → Sp} {u : Nat → Hut} {L : Nat → Int}
noncomputable def s26 (rw st : Int) (n cw cv m cu kc many : Nat) (w v : Nat → Sp) (u : Nat → Hut) (L : Nat → Int) (i : Nat) : Hw :=
 h26 rw st n cw cv m cu tabC (spL n w) (spL n v) (huL m u) (ints m L) (many : Nat) m kc (outR (perY st w v n u) L i : Nat) (encI (mapR L i)) i
theorem cl26 {a : List Value} {b : List (Nat × Nat)} {M : List (Int × Int)} : ClW ⟨⟨a, b⟩, [tabC, spL n w, spL n v, huL m u, ints m L], [encI M]⟩ := by
 refine ⟨fun cs hc => ?_, fun e hc => ?_⟩
 · simp only [List.mem_cons, List.not_mem_nil, or_false] at hc
   rcases hc with rfl | rfl | rfl | rfl | rfl
   · exact tabC_at
   · exact spL_at _ _
   · exact spL_at _ _
   · exact huL_at _ _
   · exact ints_at _ _
 · simp only [List.mem_singleton] at hc
   subst hc
   exact encI_cl _
theorem clr26 (x : Int) (b : Bool) : ClW (r26 x b) := ⟨fun _ hc => (by cases hc), fun _ hc => (by cases hc)⟩
noncomputable def ex26 (y : Nat → Nat) (many : Nat) (L : Nat → Int) (i : Nat) : Option (AExit × Nat × Hw) := if okR y many L i = true then none else some (.ret, 1, r26 0 false)
theorem run26_ok {y : Nat → Nat} {many m : Nat} {L : Nat → Int} {fin : AExit × Nat × Hw} (hok : okA y many L m = true) : runX (ex26 y many L) fin (m - 0) 0 = fin := runX_none fun j _ hj => by
 unfold ex26; rw [if_pos (okA_at hok j (by omega))]
theorem run26_no {y : Nat → Nat} {many m : Nat} {L : Nat → Int} {fin : AExit × Nat × Hw} (hok : okA y many L m = false) : runX (ex26 y many L) fin (m - 0) 0 = (.ret, 1, r26 0 false) := by
 obtain ⟨j, hj, hb⟩ : ∃ j, j < m ∧ okR y many L j = false := by
  apply Classical.byContradiction
  intro hno
  have : okA y many L m = true := okA_of fun i hi => by
   cases h : okR y many L i with
   | true => rfl
   | false => exact absurd ⟨i, hi, h⟩ hno
  rw [hok] at this; cases this
 exact runX_some _ _ (fun i _ _ => by
  unfold ex26
  split
  · exact .inl rfl
  · exact .inr rfl) ⟨j, Nat.zero_le _, by omega, by unfold ex26; rw [hb]; rfl⟩
theorem loop26 (hS : SOK rw st n w v) (hU : HUK rw m u) (hmany : many ≤ 5) {T' : Tw}
    (hT' : [T26, R26][(runX (ex26 (perY st w v n u) many L) (.exit 0, 0, s26 rw st n cw cv m cu kc many w v u L m) (m - 0) 0).2.1]? = some T') :
    LoopOW Tryd.prog none p26 T26 (s26 rw st n cw cv m cu kc many w v u L 0) (runX (ex26 (perY st w v n u) many L) (.exit 0, 0, s26 rw st n cw cv m cu kc many w v u L m) (m - 0) 0).1 T' (runX (ex26 (perY st w v n u) many L) (.exit 0, 0, s26 rw st n cw cv m cu kc many w v u L m) (m - 0) 0).2.2 := by
 have h5 := hU.m5
 have h8 := hS.n8
 refine loop_untilW (Ts := [T26, R26]) (k := 9) (n := m) (e := .exit 0) (st := fun i => (0, s26 rw st n cw cv m cu kc many w v u L i)) (ex := ex26 (perY st w v n u) many L) rfl vx_sound ?_ (by rw [nglob]; omega) ⟨by simp, trivial⟩ (fun i _ => cl26) (fun i o hi ho => ?_) (fun i hi R h1 h2 => ?_) (fun R hR => ?_) (Nat.zero_le _) rfl (Nat.le_of_ble_eq_true rfl) (by decide) hT'
 · intro T hT; simp only [List.mem_cons, List.not_mem_nil, or_false] at hT; rcases hT with rfl | rfl <;> rfl
 · unfold ex26 at ho
   split at ho
   · cases ho
   · cases ho; exact ⟨by simp, trivial, clr26 _ _⟩
 · have hw := wrS (i := i) (by omega)
   have hC := C16_ok (cw := cw) (cv := cv) (cu := cu) hS hU hi
   have gl := ints_get L hi
   have i1 : ((0 : Int) ≤ (i : Int) ∧ (i : Int) < (m : Int)) ∧ ((.pointer (some ⟨7, 0 + i * 1, none⟩) : Value) = .pointer (some ⟨7, 0 + i * 1, none⟩)) := ⟨⟨by omega, by omega⟩, rfl⟩
   have hlt : outR (perY st w v n u) L i < 32 := Nat.lt_of_lt_of_le (outR_lt _ L i) (show 2 ^ i ≤ 2 ^ 5 from Nat.pow_le_pow_right (by omega) (by omega))
   have bad : okR (perY st w v n u) many L i = false → R 1 .ret (r26 0 false) := fun h => h2 (.ret, 1, r26 0 false) (by unfold ex26; rw [h]; rfl)
   have good : okR (perY st w v n u) many L i = true → R 0 .normal (s26 rw st n cw cv m cu kc many w v u L (i + 1)) := fun h => h1 (by unfold ex26; rw [if_pos h])
   show ∃ (T : Tw) (hs : HS), _ ∧ vx.code none (.l p26) (leafW [T26, R26] R) (T.inst (s26 rw st n cw cv m cu kc many w v u L i)) hs
   have hy : perH st w v n (u i) = perY st w v n u i := rfl
   by_cases hl : L i < 0
   · have hm : mapR L (i + 1) = mapR L i := by simp only [mapR, if_pos hl]
     have b1 : (L i != (-1 : Int)) = true → okR (perY st w v n u) many L i = false := fun h => by
      unfold okR
      rw [if_pos hl]
      exact decide_eq_false fun e => by rw [e] at h; exact absurd h (by simp)
     have b2 : (L i != (-1 : Int)) = false → okR (perY st w v n u) many L i = true := fun h => by
      unfold okR
      rw [if_pos hl]
      exact decide_eq_true (by simpa using h)
     unfold s26 h26 at good
     rw [hm, ← hw] at good
     by_cases h0 : perY st w v n u i = 0
     · have ho : outR (perY st w v n u) L (i + 1) = outR (perY st w v n u) L i := by simp only [outR]; rw [if_neg (fun h => h.2 h0)]
       rw [ho] at good
       unfold befV at hC
       rw [hy, if_pos h0] at hC
       exact ⟨T26, _, rfl, (b26n4 rw st many n cw cv m cu m kc w v u L tabC (outR (perY st w v n u) L i : Nat) (encI (mapR L i)) i R).mpr ⟨tt (decide_eq_true (by omega)), i1, gl, hC, rfl, tt (decide_eq_true hl), fun h => bad (b1 h), fun h => good (b2 h)⟩⟩
     · have ho : outR (perY st w v n u) L (i + 1) = outR (perY st w v n u) L i ||| 2 ^ i := by simp only [outR]; rw [if_pos ⟨hl, h0⟩]
       rw [ho, ← or_eq5 hlt (show i < 5 by omega)] at good
       unfold befV at hC
       rw [hy, if_neg h0] at hC
       exact ⟨T26, _, rfl, (b26n0 rw st many n cw cv m cu m kc w v u L tabC (outR (perY st w v n u) L i : Nat) (encI (mapR L i)) i (tzN (perY st w v n u i)) R).mpr ⟨tt (decide_eq_true (by omega)), i1, gl, hC, rfl, tt (decide_eq_true hl), ⟨⟨by omega, by omega⟩, rfl⟩, fun h => bad (b1 h), fun h => good (b2 h)⟩⟩
   · have ho : outR (perY st w v n u) L (i + 1) = outR (perY st w v n u) L i := by simp only [outR]; rw [if_neg (fun h => hl h.1)]
     obtain ⟨k1, k2, k3⟩ := cnt_look hl (show i < 6 by omega)
     unfold s26 h26 at good
     rw [ho, ← hw] at good
     by_cases h0 : perY st w v n u i = 0
     · unfold befV at hC
       rw [hy, if_pos h0] at hC
       exact ⟨T26, _, rfl, (b26p4 rw st many n cw cv m cu m kc w v u L tabC (outR (perY st w v n u) L i : Nat) (encI (mapR L i)) i (cntL L i (L i).toNat) 0 (encI (mapR L (i + 1))) R).mpr ⟨tt (decide_eq_true (by omega)), i1, gl, hC, rfl, tf (decide_eq_false hl), k1, k2, bad (by unfold okR; rw [if_neg hl, decide_eq_true h0]; rfl)⟩⟩
     · unfold befV at hC
       rw [hy, if_neg h0] at hC
       exact ⟨T26, _, rfl, (b26p0 rw st many n cw cv m cu m kc w v u L tabC (outR (perY st w v n u) L i : Nat) (encI (mapR L i)) i (tzN (perY st w v n u i)) (cntL L i (L i).toNat) (cntL L i (L i).toNat + 1) (encI (mapR L (i + 1))) R).mpr ⟨tt (decide_eq_true (by omega)), i1, gl, hC, rfl, tf (decide_eq_false hl), k1, k2,
        fun h => bad (by
         have h := of_decide_eq_true h
         unfold okR; rw [if_neg hl, decide_eq_false (show ¬ L i < ((tzN (perY st w v n u i) : Nat) : Int) by omega)]; simp),
        fun h => ⟨k3, fun h' => bad (by
         have h' := of_decide_eq_true h'
         unfold okR; rw [if_neg hl, decide_eq_false (show ¬ cntL L i (L i).toNat + 1 ≤ many by omega)]; simp),
         fun h' => good (by
          have h := of_decide_eq_false h
          have h' := of_decide_eq_false h'
          unfold okR; rw [if_neg hl, decide_eq_false h0, decide_eq_true (show L i < ((tzN (perY st w v n u i) : Nat) : Int) by omega), decide_eq_true (show cntL L i (L i).toNat + 1 ≤ many by omega)]; rfl)⟩⟩⟩
 · exact ⟨T26, _, rfl, (b26x rw st many n cw cv m cu m kc w v u L tabC (outR (perY st w v n u) L m : Nat) (encI (mapR L m)) m R).mpr ⟨tf (decide_eq_false (by omega)), hR⟩⟩
theorem C26_ok (hS : SOK rw st n w v) (hU : HUK rw m u) (hmany : many ≤ 5) :
    ConOK Tryd.prog 26 (C26 rw st n cw cv m cu tabC (spL n w) (spL n v) (huL m u) (ints m L) (many : Nat) m kc (if okA (perY st w v n u) many L m = true then ((outR (perY st w v n u) L m : Nat) : Int) else 0) (okA (perY st w v n u) many L m)) := by
 have hl := fun T' => loop26 (T' := T') (cw := cw) (cv := cv) (cu := cu) (kc := kc) (L := L) hS hU hmany
 refine con_of vx_sound ⟨⟨[I rw, I st, I (many : Nat)], [(m, kc), (n, cw), (n, cv), (m, cu)]⟩, [tabC, spL n w, spL n v, huL m u, ints m L]⟩ (fun y hy => ?_) rfl (fun y _ => rfl) (fun y hy => ?_) rfl (Nat.le_of_ble_eq_true rfl) (by rw [nglob]; exact Nat.le_of_ble_eq_true rfl)
 · cases hy
   cases hok : okA (perY st w v n u) many L m with
   | true =>
    rw [run26_ok hok] at hl
    exact ⟨_, (f26t rw st many n cw cv m cu m kc w v u L tabC (outR (perY st w v n u) L m : Nat) (encI (mapR L m)) _).mpr ⟨cl26 (M := []), hl T26 rfl, rfl⟩⟩
   | false =>
    rw [run26_no hok] at hl
    exact ⟨_, (f26f rw st many n cw cv m cu m kc w v u L tabC _).mpr ⟨cl26 (M := []), hl R26 rfl, rfl⟩⟩
 · cases hy
   intro cs hc
   simp only [List.mem_cons, List.not_mem_nil, or_false] at hc
   rcases hc with rfl | rfl | rfl | rfl | rfl
   · exact tabC_at
   · exact spL_at _ _
   · exact spL_at _ _
   · exact huL_at _ _
   · exact ints_at _ _
end
end Go.Ab
