/- package surf: what has to be saved. -/
import Derived.Test.YtoelpblmhmhglaaDoorOU
import Derived.Test.YtoelpblmhmhglaaDoorOY
set_option maxRecDepth 100000
namespace Go.Ab
open Go Go.RowKit Go.Proofs
theorem b57 (rw st many : Int) (n cw cv m cu i y first : Nat) (tb ws vs : List Value) (u : Nat → Hut) (es es2 : List (Value × Value)) (x F : Int) (f g : Nat → Int) (F2 : Int) (R : Nat → AExit → Hw → Prop) : (vx.code none (.l p57) (leafW [T57] R) (T57.inst (h57 rw st n cw cv m cu tb ws vs (huL m u) (rcL many m F f) es i)) ([(0, .split ((2, .val (.pointer (some ⟨4, 0 + i * 3, none⟩))) :: (0, .val (.agg ⟨[I (u i).fl, I (u i).br, I (u i).row]⟩)) :: (5, .conW (CW36 rw st n cw cv m cu (u i).fl (u i).br (u i).row tb ws vs es es2 x y)) :: [(3, .split ((7, .val (I (IntKind.i64.wrap ((1 : Int) * (2 : Int) ^ i)))) :: (1, .again) :: (37, .con (C42 tb y first)) :: (1, .val (.pointer (.some ⟨(8 : Nat), (3 : Nat) + i * (1 : Nat), .none⟩))) :: (0, .put (rcL many (m : Int) F2 g)) :: [(2, .tm 0 [])]) ([(3, .tm 0 [])]))]) ([(1, .tm 0 [])]))])) =
(((decide ((i : Int) < m)) = true → (((((0 : Int) ≤ i) ∧ ((i : Int) < m)) ∧ (VR (.pointer (some ⟨4, 0 + i * 3, none⟩)))) ∧
((HR i m u) ∧
(CW 36 (CW36 rw st n cw cv m cu (u i).fl (u i).br (u i).row tb ws vs es es2 x y) ⟨⟨[I rw, I st, I (u i).fl, I (u i).br, I (u i).row], [⟨n, cw⟩, ⟨n, cv⟩, ⟨m, cu⟩]⟩, [tb, ws, vs], [es]⟩ <|
((((y : Int) != 0) = true → (((((0 : Int) ≤ i) ∧ ((i : Int) ≤ (↑(64 : Nat) : Int))) ∧ (((I (IntKind.i64.wrap ((1 : Int) * (2 : Int) ^ i))) : Value) = (I (IntKind.i64.wrap ((1 : Int) * (2 : Int) ^ i))))) ∧
((((some (I F) : Option Value) = some (I F)) ∧ True) ∧
(CA 42 (C42 tb y first) ⟨⟨[I y], []⟩, [tb]⟩ <|
(((((0 : Int) ≤ i) ∧ ((i : Int) < (↑(5 : Nat) : Int))) ∧ (((.pointer (.some ⟨(8 : Nat), (3 : Nat) + i * (1 : Nat), .none⟩)) : Value) = (.pointer (.some ⟨(8 : Nat), (3 : Nat) + i * (1 : Nat), .none⟩)))) ∧
((((3 : Nat) + i * (1 : Nat) + (1 : Nat) ≤ (8 : Nat)) ∧ (List.take ((3 : Nat) + i * (1 : Nat)) [Value.int .i64 many, Value.int .i64 (m : Int), Value.int .i64 (bits BinOp.or IntKind.i64 (bits BinOp.or IntKind.i64 (0 : Int) F) (IntKind.i64.wrap ((1 : Int) * (2 : Int) ^ i))), Value.int .i64 (f (0 : Nat)), Value.int .i64 (f (1 : Nat)), Value.int .i64 (f (2 : Nat)), Value.int .i64 (f (3 : Nat)), Value.int .i64 (f (4 : Nat))] ++ [Value.int .i64 (first : Int)] ++ List.drop ((3 : Nat) + i * (1 : Nat) + (1 : Nat)) [Value.int .i64 many, Value.int .i64 (m : Int), Value.int .i64 (bits BinOp.or IntKind.i64 (bits BinOp.or IntKind.i64 (0 : Int) F) (IntKind.i64.wrap ((1 : Int) * (2 : Int) ^ i))), Value.int .i64 (f (0 : Nat)), Value.int .i64 (f (1 : Nat)), Value.int .i64 (f (2 : Nat)), Value.int .i64 (f (3 : Nat)), Value.int .i64 (f (4 : Nat))] = [Value.int .i64 many, Value.int .i64 (m : Int), Value.int .i64 F2, Value.int .i64 (g (0 : Nat)), Value.int .i64 (g (1 : Nat)), Value.int .i64 (g (2 : Nat)), Value.int .i64 (g (3 : Nat)), Value.int .i64 (g (4 : Nat))])) ∧
R (0 : Nat) .normal ⟨⟨[I m, I (IntKind.i64.wrap ((i : Int) + (1 : Int))), I rw, I st], [⟨m, cu⟩, ⟨n, cw⟩, ⟨n, cv⟩, ⟨m, cu⟩]⟩, [tb, ws, vs, huL m u, [I many, I m, I F2, I (g (0 : Nat)), I (g (1 : Nat)), I (g (2 : Nat)), I (g (3 : Nat)), I (g (4 : Nat))]], [es2]⟩)))))) ∧
(((y : Int) != 0) = false → R (0 : Nat) .normal ⟨⟨[I m, I (IntKind.i64.wrap ((i : Int) + (1 : Int))), I rw, I st], [⟨m, cu⟩, ⟨n, cw⟩, ⟨n, cv⟩, ⟨m, cu⟩]⟩, [tb, ws, vs, huL m u, [I many, I m, I F, I (f (0 : Nat)), I (f (1 : Nat)), I (f (2 : Nat)), I (f (3 : Nat)), I (f (4 : Nat))]], [es2]⟩)))))) ∧
((decide ((i : Int) < m)) = false → R (0 : Nat) (.exit 0) ⟨⟨[I m, I i, I rw, I st], [⟨m, cu⟩, ⟨n, cw⟩, ⟨n, cv⟩, ⟨m, cu⟩]⟩, [tb, ws, vs, huL m u, [I many, I m, I F, I (f (0 : Nat)), I (f (1 : Nat)), I (f (2 : Nat)), I (f (3 : Nat)), I (f (4 : Nat))]], [es]⟩)) := by kernel_rfl
theorem f57 (rw st many : Int) (n cw cv m cu : Nat) (tb ws vs us : List Value) (es es2 : List (Value × Value)) (F : Int) (f : Nat → Int) (R : ARes → List WB → Prop) : (vx.call 57 [shV rw st n cw cv m cu, I many] (retW bs57 R) (m57 tb ws vs us es) ((16, .loopW T57 (.exit 0) T57 fun _ => h57 rw st n cw cv m cu tb ws vs us (rcL many (m : Int) F f) es2 m) :: [])) =
(LW p57 T57 ⟨⟨[I m, I 0, I rw, I st], [⟨m, cu⟩, ⟨n, cw⟩, ⟨n, cv⟩, ⟨m, cu⟩]⟩, [tb, ws, vs, us, [I many, I m, I 0, I 0, I 0, I 0, I 0, I 0]], [es]⟩ (.exit 0) T57 (h57 rw st n cw cv m cu tb ws vs us (rcL many (m : Int) F f) es2 m) <|
R (.ret (.agg ⟨[I many, I m, I F, I (f (0 : Nat)), I (f (1 : Nat)), I (f (2 : Nat)), I (f (3 : Nat)), I (f (4 : Nat))]⟩)) [.mp es2]) := by kernel_rfl
def savF (y : Nat → Nat) : Nat → Nat
 | 0 => 0
 | i + 1 => if y i = 0 then savF y i else savF y i ||| 2 ^ i
def savT (y : Nat → Nat) (j i : Nat) : Int := if i < j ∧ y i ≠ 0 then (tzN (y i) : Nat) else 0
theorem savF_lt (y : Nat → Nat) (i : Nat) : savF y i < 2 ^ i := by
 induction i with
 | zero => exact Nat.one_pos
 | succ i ih =>
  have h2 : (2 : Nat) ^ (i + 1) = 2 ^ i * 2 := Nat.pow_succ 2 i
  simp only [savF]
  split
  · omega
  · exact Nat.or_lt_two_pow (n := i + 1) (by omega) (by omega)
section
variable {rw st : Int} {n cw cv m cu : Nat} {w v : Nat → Sp} {u : Nat → Hut} {many : Int}
def savM (st : Int) (w v : Nat → Sp) (n : Nat) (u : Nat → Hut) (M : List (Key × Out)) : Nat → List (Key × Out)
 | 0 => M
 | i + 1 => hrM st w v (u i).fl (u i).br (u i).row n (hrM st w v (u i).fl (u i).br (u i).row n (savM st w v n u M i) n) n
theorem savM_ok {M : List (Key × Out)} (hM : KpO st w v M) (i : Nat) : KpO st w v (savM st w v n u M i) := by
 induction i with
 | zero => exact hM
 | succ i ih => exact hrM_ok (hrM_ok ih n) n
noncomputable def s57 (rw st : Int) (n cw cv m cu : Nat) (w v : Nat → Sp) (u : Nat → Hut) (many : Int) (M : List (Key × Out)) (i : Nat) : Hw :=
 h57 rw st n cw cv m cu tabC (spL n w) (spL n v) (huL m u) (rcL many m (savF (fun j => perH st w v n (u j)) i : Nat) (savT (fun j => perH st w v n (u j)) i)) (encK (savM st w v n u M i)) i
theorem cl57 {a : List Value} {b : List (Nat × Nat)} {F : Int} {f : Nat → Int} {M : List (Key × Out)} : ClW ⟨⟨a, b⟩, [tabC, spL n w, spL n v, huL m u, rcL many m F f], [encK M]⟩ := by
 refine ⟨fun cs hc => ?_, fun e hc => ?_⟩
 · simp only [List.mem_cons, List.not_mem_nil, or_false] at hc
   rcases hc with rfl | rfl | rfl | rfl | rfl
   · exact tabC_at
   · exact spL_at _ _
   · exact spL_at _ _
   · exact huL_at _ _
   · intro v hv
     simp only [rcL, List.mem_cons, List.not_mem_nil, or_false] at hv
     rcases hv with rfl | rfl | rfl | rfl | rfl | rfl | rfl | rfl <;> rfl
 · simp only [List.mem_singleton] at hc
   subst hc
   exact encK_cl _
theorem put57 {m i : Nat} {F : Int} {f g : Nat → Int} {a : Int} (hi : i < 5) (hg : ∀ j, g j = if j = i then a else f j) :
    List.take (3 + i * 1) [I many, I m, I F, I (f 0), I (f 1), I (f 2), I (f 3), I (f 4)] ++ [I a] ++ List.drop (3 + i * 1 + 1) [I many, I m, I F, I (f 0), I (f 1), I (f 2), I (f 3), I (f 4)] = rcL many m F g := by
 obtain rfl | rfl | rfl | rfl | rfl : i = 0 ∨ i = 1 ∨ i = 2 ∨ i = 3 ∨ i = 4 := by omega
 all_goals
  unfold rcL
  rw [hg 0, hg 1, hg 2, hg 3, hg 4]
  rfl
theorem loop57 (hS : SOK rw st n w v) (hU : HUK rw m u) {M : List (Key × Out)} (hM : KpO st w v M) :
    LoopOW Tryd.prog none p57 T57 (s57 rw st n cw cv m cu w v u many M 0) (.exit 0) T57 (s57 rw st n cw cv m cu w v u many M m) := by
 have h8 := hS.n8
 have h5 := hU.m5
 have hw6 := hS.rw6
 refine loop_forW (Ts := [T57]) (k := 9) (n := m) (e := .exit 0) (st := fun i => (0, s57 rw st n cw cv m cu w v u many M i)) rfl vx_sound ?_ (by rw [nglob]; omega) ⟨by simp, trivial⟩ (fun i _ => cl57) (fun i hi R hR => ?_) (fun R hR => ?_) rfl (Nat.le_of_ble_eq_true rfl) (by decide) rfl
 · intro T hT; simp only [List.mem_singleton] at hT; subst hT; rfl
 · have hw := wrS (i := i) (by omega)
   obtain ⟨u0, u1, u2, u3, u4⟩ := hU.u i hi
   have hC := C36_ok (cw := cw) (cv := cv) (m := m) (cu := cu) (fl := (u i).fl) (br := (u i).br) (row := (u i).row) hS (by omega) (savM_ok (n := n) (u := u) hM i)
   have pu := huL_part u hi
   have lu := huL_len m u
   have hlt := perH_lt (st := st) (w := w) (v := v) hS.n8 (u i)
   have hF := savF_lt (fun j => perH st w v n (u j)) i
   have hF8 : savF (fun j => perH st w v n (u j)) i < 256 := lt_256 hF (by omega)
   have hj := jn_or8 hF8 (show i < 8 by omega)
   refine ⟨T57, _, rfl, (b57 rw st many n cw cv m cu i (perH st w v n (u i)) (tzN (perH st w v n (u i))) tabC (spL n w) (spL n v) u (encK (savM st w v n u M i)) (encK (savM st w v n u M (i + 1))) (surH st w v n (u i) : Nat) (savF (fun j => perH st w v n (u j)) i : Nat) (savT (fun j => perH st w v n (u j)) i) (savT (fun j => perH st w v n (u j)) (i + 1)) (savF (fun j => perH st w v n (u j)) (i + 1) : Nat) R).mpr ⟨fun _ => ?_, fun h => absurd (by omega) (of_decide_eq_false h)⟩⟩
   refine ⟨⟨⟨by omega, by omega⟩, rfl⟩, ⟨by rw [lu]; omega, by rw [pu]; rfl⟩, ⟨hC, rfl, fun h => ?_, fun h => ?_⟩⟩
   · have h0 : perH st w v n (u i) ≠ 0 := fun e => by rw [e] at h; simp at h
     have eF : savF (fun j => perH st w v n (u j)) (i + 1) = savF (fun j => perH st w v n (u j)) i ||| 2 ^ i := if_neg h0
     refine ⟨⟨⟨by omega, by omega⟩, rfl⟩, ⟨rfl, trivial⟩, ⟨C42_ok h0 hlt, rfl, ⟨⟨by omega, by omega⟩, rfl⟩, ⟨by omega, ?_⟩, ?_⟩⟩
     · rw [eF, show bits BinOp.or IntKind.i64 (bits BinOp.or IntKind.i64 (0 : Int) (savF (fun j => perH st w v n (u j)) i : Nat)) (IntKind.i64.wrap ((1 : Int) * (2 : Int) ^ i)) = _ from hj]
       refine put57 (by omega) fun j => ?_
       simp only [savT]
       by_cases e : j = i
       · subst e; rw [if_pos rfl, if_pos ⟨by omega, h0⟩]
       · rw [if_neg e]
         by_cases e2 : j < i
         · by_cases e3 : perH st w v n (u j) = 0
           · rw [if_neg (fun h => h.2 e3), if_neg (fun h => h.2 e3)]
           · rw [if_pos ⟨by omega, e3⟩, if_pos ⟨e2, e3⟩]
         · rw [if_neg (by omega), if_neg (by omega)]
     · rw [hw]; exact hR
   · have h0 : perH st w v n (u i) = 0 := by
      have : ((perH st w v n (u i) : Nat) : Int) = 0 := by simpa using h
      omega
     have eF : savF (fun j => perH st w v n (u j)) (i + 1) = savF (fun j => perH st w v n (u j)) i := if_pos h0
     have eT : savT (fun j => perH st w v n (u j)) (i + 1) = savT (fun j => perH st w v n (u j)) i := by
      funext j
      simp only [savT]
      by_cases e : j = i
      · subst e; rw [if_neg (fun h => h.2 h0), if_neg (by omega)]
      · by_cases e2 : j < i
        · by_cases e3 : perH st w v n (u j) = 0
          · rw [if_neg (fun h => h.2 e3), if_neg (fun h => h.2 e3)]
          · rw [if_pos ⟨by omega, e3⟩, if_pos ⟨e2, e3⟩]
        · rw [if_neg (by omega), if_neg (by omega)]
     have hR2 := hR
     unfold s57 at hR2
     rw [eF, eT] at hR2
     rw [hw]; exact hR2
 · exact ⟨T57, _, rfl, (b57 rw st many n cw cv m cu m 0 0 tabC (spL n w) (spL n v) u (encK (savM st w v n u M m)) [] 0 (savF (fun j => perH st w v n (u j)) m : Nat) (savT (fun j => perH st w v n (u j)) m) (fun _ => 0) 0 R).mpr ⟨fun h => absurd (of_decide_eq_true h) (by omega), fun _ => hR⟩⟩
theorem C57_ok (hS : SOK rw st n w v) (hU : HUK rw m u) {M : List (Key × Out)} (hM : KpO st w v M) :
    ConWOK Tryd.prog 57 (CW57 rw st n cw cv m cu many tabC (spL n w) (spL n v) (huL m u) (encK M) (encK (savM st w v n u M m)) (savF (fun j => perH st w v n (u j)) m : Nat) (savT (fun j => perH st w v n (u j)) m 0) (savT (fun j => perH st w v n (u j)) m 1) (savT (fun j => perH st w v n (u j)) m 2) (savT (fun j => perH st w v n (u j)) m 3) (savT (fun j => perH st w v n (u j)) m 4)) := by
 have hl := loop57 (cw := cw) (cv := cv) (cu := cu) (many := many) hS hU hM
 refine conW_of vx_sound (callable 57 _ _ rfl rfl) (fun y hy => ?_) (fun y _ => ⟨rfl, fun b hb => ?_⟩) (fun y hy => ?_) (Nat.le_of_ble_eq_true rfl) (by rw [nglob]; exact Nat.le_of_ble_eq_true rfl)
 · cases hy
   exact ⟨_, (f57 rw st many n cw cv m cu tabC (spL n w) (spL n v) (huL m u) (encK M) (encK (savM st w v n u M m)) (savF (fun j => perH st w v n (u j)) m : Nat) (savT (fun j => perH st w v n (u j)) m) _).mpr ⟨cl57 (f := fun _ => 0), hl, rfl, rfl⟩⟩
 · simp only [CW57, List.mem_singleton] at hb
   subst hb
   exact encK_cl _
 · cases hy
   refine ⟨fun cs hc => ?_, fun e hc => ?_⟩
   · simp only [List.mem_cons, List.not_mem_nil, or_false] at hc
     rcases hc with rfl | rfl | rfl | rfl
     · exact tabC_at
     · exact spL_at _ _
     · exact spL_at _ _
     · exact huL_at _ _
   · simp only [List.mem_singleton] at hc
     subst hc
     exact encK_cl _
end
end Go.Ab
