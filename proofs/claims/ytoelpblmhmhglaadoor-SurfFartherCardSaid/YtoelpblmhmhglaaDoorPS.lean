/- package surf: SurfFarther's first loop: huts numbered the other way round. -/
import Derived.Test.YtoelpblmhmhglaaDoorPL
import Derived.Test.YtoelpblmhmhglaaDoorPR
import Derived.Test.YtoelpblmhmhglaaDoorOU
import Derived.Test.YtoelpblmhmhglaaDoorOY
import Derived.Test.YtoelpblmhmhglaaDoorPK
import Derived.Test.YtoelpblmhmhglaaDoorPF
import Derived.Test.YtoelpblmhmhglaaDoorPD
set_option maxRecDepth 100000
namespace Go.Ab
open Go Go.RowKit Go.Proofs
theorem b9a0 (rw st wh mz : Int) (n cw cv m cu : Nat) (w v : Nat → Sp) (u _ : Nat → Hut) (tb : List Value) (R : Nat → AExit → Hw → Prop) : (vx.code none (.l p9a) (leafW [T9n, T9l] R) (T9n.inst (h9n rw st wh mz n cw cv m cu tb (spL n w) (spL n v) (huL m u))) ((0, .val (.bool true)) :: (11, .val (.pointer (.some ⟨(4 : Nat), (0 : Nat) + (jx m 0).toNat * (3 : Nat), .none⟩))) :: (0, .val (.agg ⟨[I ((u (jx m 0).toNat).fl), I ((u (jx m 0).toNat).br), I (↑(u (jx m 0).toNat).row : Int)]⟩)) :: [(5, .tm 1 [((9 : Nat), (10 : Nat))])])) =
((OT (decide ((0 : Int) < m)) true) ∧
(((((0 : Int) ≤ jx m 0) ∧ (jx m 0 < (m : Int))) ∧ (((.pointer (.some ⟨(4 : Nat), (0 : Nat) + (jx m 0).toNat * (3 : Nat), .none⟩)) : Value) = (.pointer (.some ⟨(4 : Nat), (0 : Nat) + (jx m 0).toNat * (3 : Nat), .none⟩)))) ∧
((((0 : Nat) + (jx m 0).toNat * (3 : Nat) + (3 : Nat) ≤ (huL m u).length) ∧ (((.agg ⟨[I ((u (jx m 0).toNat).fl), I ((u (jx m 0).toNat).br), I (↑(u (jx m 0).toNat).row : Int)]⟩) : Value) = (.agg ⟨List.take (3 : Nat) (List.drop ((0 : Nat) + (jx m 0).toNat * (3 : Nat)) (huL m u))⟩))) ∧
R (1 : Nat) .normal ⟨⟨[.int IntKind.u8 wh, I m, I mz, I m, I (IntKind.i64.wrap ((0 : Int) + (1 : Int))), I rw, I st, I rw, I st], [⟨n, cw⟩, ⟨n, cv⟩, ⟨m, cu⟩, ⟨n, cw⟩, ⟨n, cv⟩, ⟨(1 : Nat), (1 : Nat)⟩]⟩, [tb, spL n w, spL n v, huL m u, [I ((u (jx m 0).toNat).fl), I ((u (jx m 0).toNat).br), I (↑(u (jx m 0).toNat).row : Int)]], []⟩))) := by kernel_rfl
theorem g9ap (rw st wh mz : Int) (n cw cv m cu i : Nat) (w v : Nat → Sp) (u x : Nat → Hut) (tb : List Value) (R : Nat → AExit → Hw → Prop) : (vx.code none (.l p9a) (leafW [T9n, T9l] R) (T9l.inst (h9l rw st wh mz n cw cv m cu i i tb (spL n w) (spL n v) (huL m u) (huL i x))) ((0, .val (.bool true)) :: (11, .val (.pointer (.some ⟨(4 : Nat), (0 : Nat) + (jx m ↑i).toNat * (3 : Nat), .none⟩))) :: (0, .val (.agg ⟨[I ((u (jx m ↑i).toNat).fl), I ((u (jx m ↑i).toNat).br), I (↑(u (jx m ↑i).toNat).row : Int)]⟩)) :: (0, .grow) :: [(4, .tm 1 [((9 : Nat), (11 : Nat))])])) =
((OT (decide ((i : Int) < m)) true) ∧
(((((0 : Int) ≤ jx m ↑i) ∧ (jx m ↑i < (m : Int))) ∧ (((.pointer (.some ⟨(4 : Nat), (0 : Nat) + (jx m ↑i).toNat * (3 : Nat), .none⟩)) : Value) = (.pointer (.some ⟨(4 : Nat), (0 : Nat) + (jx m ↑i).toNat * (3 : Nat), .none⟩)))) ∧
((((0 : Nat) + (jx m ↑i).toNat * (3 : Nat) + (3 : Nat) ≤ (huL m u).length) ∧ (((.agg ⟨[I ((u (jx m ↑i).toNat).fl), I ((u (jx m ↑i).toNat).br), I (↑(u (jx m ↑i).toNat).row : Int)]⟩) : Value) = (.agg ⟨List.take (3 : Nat) (List.drop ((0 : Nat) + (jx m ↑i).toNat * (3 : Nat)) (huL m u))⟩))) ∧
(((¬i + (1 : Nat) ≤ i) ∧ ((i * (3 : Nat) = (huL i x).length) ∧ (((i + (1 : Nat)) * (24 : Nat) ≤ (140737488355328 : Nat)) ∧ (i + (1 : Nat) ≤ (4611686018427387904 : Nat))))) ∧
R (1 : Nat) .normal ⟨⟨[.int IntKind.u8 wh, I m, I mz, I m, I (IntKind.i64.wrap ((i : Int) + (1 : Int))), I rw, I st, I rw, I st], [⟨n, cw⟩, ⟨n, cv⟩, ⟨m, cu⟩, ⟨n, cw⟩, ⟨n, cv⟩, ⟨i + (1 : Nat), i + (1 : Nat)⟩]⟩, [tb, spL n w, spL n v, huL m u, (List.take (i * (3 : Nat)) (huL i x)) ++ [I ((u (jx m ↑i).toNat).fl), I ((u (jx m ↑i).toNat).br), I (↑(u (jx m ↑i).toNat).row : Int)]], []⟩)))) := by kernel_rfl
theorem b9ax (rw st wh mz : Int) (n cw cv m cu i c : Nat) (w v : Nat → Sp) (u : Nat → Hut) (tb us2 : List Value) (R : Nat → AExit → Hw → Prop) : (vx.code none (.l p9a) (leafW [T9n, T9l] R) (T9l.inst (h9l rw st wh mz n cw cv m cu i c tb (spL n w) (spL n v) (huL m u) us2)) ((0, .val (.bool false)) :: [(1, .tm 1 [((9 : Nat), (9 : Nat))])])) =
((OT (decide ((i : Int) < m)) false) ∧
R (1 : Nat) (.exit 0) ⟨⟨[.int IntKind.u8 wh, I m, I mz, I m, I i, I rw, I st, I rw, I st], [⟨n, cw⟩, ⟨n, cv⟩, ⟨m, cu⟩, ⟨n, cw⟩, ⟨n, cv⟩, ⟨i, c⟩]⟩, [tb, spL n w, spL n v, huL m u, us2], []⟩) := by kernel_rfl
theorem rows9 {i : Nat} (x : Nat → Hut) : List.take (i * 3) (huL i x) ++ [I (x i).fl, I (x i).br, I ((x i).row : Int)] = huL (i + 1) x := by
 rw [← huL_len i x, List.take_length]; exact (flatC_succ (n := i) (g := fun j => huV (x j))).symm
section
variable {rw st wh mz : Int} {n cw cv m cu : Nat} {w v : Nat → Sp} {u : Nat → Hut}
noncomputable def st9a (rw st wh mz : Int) (n cw cv m cu : Nat) (w v : Nat → Sp) (u : Nat → Hut) : Nat → Nat × Hw
 | 0 => (0, h9n rw st wh mz n cw cv m cu tabC (spL n w) (spL n v) (huL m u))
 | i + 1 => (1, h9l rw st wh mz n cw cv m cu (i + 1) (i + 1) tabC (spL n w) (spL n v) (huL m u) (huL (i + 1) (revH m u)))
theorem cl9a (i : Nat) : ClW (st9a rw st wh mz n cw cv m cu w v u i).2 := by
 cases i with
 | zero =>
  refine ⟨fun cs hc => ?_, fun e hc => (by cases hc)⟩
  replace hc : cs ∈ [tabC, spL n w, spL n v, huL m u] := hc
  simp only [List.mem_cons, List.not_mem_nil, or_false] at hc
  rcases hc with rfl | rfl | rfl | rfl
  · exact tabC_at
  · exact spL_at _ _
  · exact spL_at _ _
  · exact huL_at _ _
 | succ i =>
  refine ⟨fun cs hc => ?_, fun e hc => (by cases hc)⟩
  replace hc : cs ∈ [tabC, spL n w, spL n v, huL m u, huL (i + 1) (revH m u)] := hc
  simp only [List.mem_cons, List.not_mem_nil, or_false] at hc
  rcases hc with rfl | rfl | rfl | rfl | rfl
  · exact tabC_at
  · exact spL_at _ _
  · exact spL_at _ _
  · exact huL_at _ _
  · exact huL_at _ _
theorem cell9 {k : Nat} (h : k < m) : (Value.agg ⟨[I (u k).fl, I (u k).br, I (u k).row]⟩) = Value.agg ⟨List.take 3 (List.drop (0 + k * 3) (huL m u))⟩ := by
 have e := flatC_part (n := m) (k := 3) (g := fun i => huV (u i)) (fun _ _ => rfl) h
 rw [Nat.zero_add]
 exact congrArg (fun l => Value.agg ⟨l⟩) e.symm
theorem loop9a (h5 : m + 1 ≤ 5) :
    LoopOW Tryd.prog none p9a T9n (h9n rw st wh mz n cw cv (m + 1) cu tabC (spL n w) (spL n v) (huL (m + 1) u)) (.exit 0) T9l (h9l rw st wh mz n cw cv (m + 1) cu (m + 1) (m + 1) tabC (spL n w) (spL n v) (huL (m + 1) u) (huL (m + 1) (revH (m + 1) u))) := by
 have hlen := huL_len (m + 1) u
 refine loop_forW (Ts := [T9n, T9l]) (k := 9) (n := m + 1) (e := .exit 0) (st := st9a rw st wh mz n cw cv (m + 1) cu w v u) rfl vx_sound ?_ (by rw [nglob]; omega) ⟨by simp, trivial⟩ (fun i _ => cl9a i) (fun i hi R hR => ?_) (fun R hR => ?_) rfl (Nat.le_of_ble_eq_true rfl) (by decide) rfl
 · intro T hT; simp only [List.mem_cons, List.not_mem_nil, or_false] at hT; rcases hT with rfl | rfl <;> rfl
 · have e := jx_eq h5 hi
   have hk : m + 1 - 1 - i < m + 1 := by omega
   have hc := cell9 (u := u) hk
   have lt : decide ((i : Int) < ((m + 1 : Nat) : Int)) = true := decide_eq_true (by omega)
   rcases Nat.eq_zero_or_pos i with h0 | h0
   · subst h0
     refine ⟨T9n, _, rfl, (b9a0 rw st wh mz n cw cv (m + 1) cu w v u (revH (m + 1) u) tabC R).mpr ?_⟩
     rw [show jx (m + 1) 0 = ((m + 1 - 1 - 0 : Nat) : Int) from e, Int.toNat_natCast]
     exact ⟨tt lt, ⟨⟨by omega, by omega⟩, rfl⟩, ⟨by omega, hc⟩, hR⟩
   · obtain ⟨i, rfl⟩ : ∃ k, i = k + 1 := ⟨i - 1, by omega⟩
     refine ⟨T9l, _, rfl, (g9ap rw st wh mz n cw cv (m + 1) cu (i + 1) w v u (revH (m + 1) u) tabC R).mpr ?_⟩
     have hw : IntKind.i64.wrap (((i + 1 : Nat) : Int) + 1) = ((i + 1 + 1 : Nat) : Int) := wrapI (by omega) (by omega)
     have hR : R 1 .normal (h9l rw st wh mz n cw cv (m + 1) cu (i + 1 + 1) (i + 1 + 1) tabC (spL n w) (spL n v) (huL (m + 1) u) (huL (i + 1 + 1) (revH (m + 1) u))) := hR
     unfold h9l at hR
     rw [← hw, ← rows9 (i := i + 1) (revH (m + 1) u)] at hR
     rw [e, Int.toNat_natCast]
     exact ⟨tt lt, ⟨⟨by omega, by omega⟩, rfl⟩, ⟨by omega, hc⟩, ⟨by omega, (huL_len _ _).symm, by omega, by omega⟩, hR⟩
 · exact ⟨T9l, _, rfl, (b9ax rw st wh mz n cw cv (m + 1) cu (m + 1) (m + 1) w v u tabC (huL (m + 1) (revH (m + 1) u)) R).mpr ⟨tf (decide_eq_false (by omega)), hR⟩⟩
end
end Go.Ab
set_option maxRecDepth 100000
namespace Go.Ab
open Go Go.RowKit Go.Proofs
theorem b9b (rw st wh mz : Int) (n cw cv m cu i : Nat) (a b c d : Int) (w v : Nat → Sp) (u x _ : Nat → Hut) (L _ : Nat → Int) (tb : List Value) (R : Nat → AExit → Hw → Prop) : (vx.code none (.l p9b) (leafW [T9b] R) (T9b.inst (h9b rw st wh mz n cw cv m cu tb (spL n w) (spL n v) (huL m u) (huL m x) (ints m L) i)) ((0, .val (.bool true)) :: (5, .con (CS1 rw st n cw cv m cu tb (spL n w) (spL n v) (huL m u) i (.tuple ⟨[I a, I b, I 0]⟩))) :: (12, .con (CS1 rw st n cw cv m m tb (spL n w) (spL n v) (huL m x) (jx m ↑i) (.tuple ⟨[I a, I b, I 0]⟩))) :: (9, .con (CS1 rw st n cw cv m cu tb (spL n w) (spL n v) (huL m u) i (.tuple ⟨[I c, I 0]⟩))) :: (10, .con (CS1 rw st n cw cv m m tb (spL n w) (spL n v) (huL m x) (jx m ↑i) (.tuple ⟨[I c, I 0]⟩))) :: (7, .con (CS1 rw st n cw cv m cu tb (spL n w) (spL n v) (huL m u) i (.tuple ⟨[I d, I 0]⟩))) :: (10, .con (CS1 rw st n cw cv m m tb (spL n w) (spL n v) (huL m x) (jx m ↑i) (.tuple ⟨[I d, I 0]⟩))) :: (7, .val (.bool false)) :: (3, .val (.bool false)) :: (9, .val (.bool false)) :: (9, .val (.bool false)) :: [(9, .tm 0 [])])) =
((OT (decide ((i : Int) < m)) true) ∧
(CA 14 (CS1 rw st n cw cv m cu tb (spL n w) (spL n v) (huL m u) i (.tuple ⟨[I a, I b, I 0]⟩)) ⟨⟨[I rw, I st, I i], [⟨n, cw⟩, ⟨n, cv⟩, ⟨m, cu⟩]⟩, [tb, spL n w, spL n v, huL m u]⟩ <|
(CA 14 (CS1 rw st n cw cv m m tb (spL n w) (spL n v) (huL m x) (jx m ↑i) (.tuple ⟨[I a, I b, I 0]⟩)) ⟨⟨[I rw, I st, I (jx m ↑i)], [⟨n, cw⟩, ⟨n, cv⟩, ⟨m, m⟩]⟩, [tb, spL n w, spL n v, huL m x]⟩ <|
(CA 23 (CS1 rw st n cw cv m cu tb (spL n w) (spL n v) (huL m u) i (.tuple ⟨[I c, I 0]⟩)) ⟨⟨[I rw, I st, I i], [⟨n, cw⟩, ⟨n, cv⟩, ⟨m, cu⟩]⟩, [tb, spL n w, spL n v, huL m u]⟩ <|
(CA 23 (CS1 rw st n cw cv m m tb (spL n w) (spL n v) (huL m x) (jx m ↑i) (.tuple ⟨[I c, I 0]⟩)) ⟨⟨[I rw, I st, I (jx m ↑i)], [⟨n, cw⟩, ⟨n, cv⟩, ⟨m, m⟩]⟩, [tb, spL n w, spL n v, huL m x]⟩ <|
(CA 24 (CS1 rw st n cw cv m cu tb (spL n w) (spL n v) (huL m u) i (.tuple ⟨[I d, I 0]⟩)) ⟨⟨[I rw, I st, I i], [⟨n, cw⟩, ⟨n, cv⟩, ⟨m, cu⟩]⟩, [tb, spL n w, spL n v, huL m u]⟩ <|
(CA 24 (CS1 rw st n cw cv m m tb (spL n w) (spL n v) (huL m x) (jx m ↑i) (.tuple ⟨[I d, I 0]⟩)) ⟨⟨[I rw, I st, I (jx m ↑i)], [⟨n, cw⟩, ⟨n, cv⟩, ⟨m, m⟩]⟩, [tb, spL n w, spL n v, huL m x]⟩ <|
((OT (a != a) false) ∧
((OT (b != b) false) ∧
((OT (c != c) false) ∧
((OT (d != d) false) ∧
R (0 : Nat) .normal ⟨⟨[.int IntKind.u8 wh, I m, I mz, I m, I (IntKind.i64.wrap ((i : Int) + (1 : Int))), I rw, I st, I rw, I st], [⟨n, n⟩, ⟨m, m⟩, ⟨m, m⟩, ⟨n, cw⟩, ⟨n, cv⟩, ⟨m, cu⟩, ⟨n, cw⟩, ⟨n, cv⟩, ⟨m, m⟩]⟩, [tb, spL n w, spL n v, huL m u, huL m x, spL n w, huL m u, ints m L], []⟩))))))))))) := by kernel_rfl
theorem b9bx (rw st wh mz : Int) (n cw cv m cu i : Nat) (_ _ _ _ : Int) (w v : Nat → Sp) (u x _ : Nat → Hut) (L _ : Nat → Int) (tb : List Value) (R : Nat → AExit → Hw → Prop) : (vx.code none (.l p9b) (leafW [T9b] R) (T9b.inst (h9b rw st wh mz n cw cv m cu tb (spL n w) (spL n v) (huL m u) (huL m x) (ints m L) i)) ((0, .val (.bool false)) :: [(1, .tm 0 [])])) =
((OT (decide ((i : Int) < m)) false) ∧
R (0 : Nat) (.exit 2) ⟨⟨[.int IntKind.u8 wh, I m, I mz, I m, I i, I rw, I st, I rw, I st], [⟨n, n⟩, ⟨m, m⟩, ⟨m, m⟩, ⟨n, cw⟩, ⟨n, cv⟩, ⟨m, cu⟩, ⟨n, cw⟩, ⟨n, cv⟩, ⟨m, m⟩]⟩, [tb, spL n w, spL n v, huL m u, huL m x, spL n w, huL m u, ints m L], []⟩) := by kernel_rfl
section
variable {rw st wh mz : Int} {n cw cv m cu : Nat} {w v : Nat → Sp} {u x : Nat → Hut} {L : Nat → Int}
theorem cl9b {a : List Value} {b : List (Nat × Nat)} : ClW ⟨⟨a, b⟩, [tabC, spL n w, spL n v, huL m u, huL m x, spL n w, huL m u, ints m L], []⟩ := by
 refine ⟨fun cs hc => ?_, fun e hc => (by cases hc)⟩
 simp only [List.mem_cons, List.not_mem_nil, or_false] at hc
 rcases hc with rfl | rfl | rfl | rfl | rfl | rfl | rfl | rfl
 · exact tabC_at
 · exact spL_at _ _
 · exact spL_at _ _
 · exact huL_at _ _
 · exact huL_at _ _
 · exact spL_at _ _
 · exact huL_at _ _
 · exact ints_at _ _
theorem loop9b (hS : SOK rw st n w v) (hU : HUK rw m u) :
    LoopOW Tryd.prog none p9b T9b (h9b rw st wh mz n cw cv m cu tabC (spL n w) (spL n v) (huL m u) (huL m (revH m u)) (ints m L) 0) (.exit 2) T9b (h9b rw st wh mz n cw cv m cu tabC (spL n w) (spL n v) (huL m u) (huL m (revH m u)) (ints m L) m) := by
 have h5 := hU.m5
 refine loop_forW (Ts := [T9b]) (k := 16) (n := m) (e := .exit 2) (st := fun i => (0, h9b rw st wh mz n cw cv m cu tabC (spL n w) (spL n v) (huL m u) (huL m (revH m u)) (ints m L) i)) rfl vx_sound ?_ (by rw [nglob]; omega) ⟨by simp, trivial⟩ (fun i _ => cl9b) (fun i hi R hR => ?_) (fun R hR => ?_) rfl (Nat.le_of_ble_eq_true rfl) (by decide) rfl
 · intro T hT; simp only [List.mem_singleton] at hT; subst hT; rfl
 · have hw := wrS (i := i) (by omega)
   have e := jx_eq h5 hi
   have hk : m - 1 - i < m := by omega
   have er : revH m u (m - 1 - i) = u i := congrArg u (by omega)
   have c14 := C14_ok (cw := cw) (cv := cv) (cu := cu) hS hU hi
   have x14 := C14_ok (cw := cw) (cv := cv) (cu := m) hS (rev_ok hU) hk
   have c23 := C23_ok (cw := cw) (cv := cv) (cu := cu) hS hU hi
   have x23 := C23_ok (cw := cw) (cv := cv) (cu := m) hS (rev_ok hU) hk
   have c24 := C24_ok (cw := cw) (cv := cv) (cu := cu) hS hU hi
   have x24 := C24_ok (cw := cw) (cv := cv) (cu := m) hS (rev_ok hU) hk
   rw [er] at x14 x23 x24
   have hR : R 0 .normal (h9b rw st wh mz n cw cv m cu tabC (spL n w) (spL n v) (huL m u) (huL m (revH m u)) (ints m L) (i + 1)) := hR
   unfold h9b at hR
   rw [← hw] at hR
   have lt : decide ((i : Int) < (m : Int)) = true := decide_eq_true (by omega)
   have ne : ∀ z : Int, (z != z) = false := fun z => bne_self_eq_false z
   refine ⟨T9b, _, rfl, (b9b rw st wh mz n cw cv m cu i (surH st w v n (u i) : Nat) (perH st w v n (u i) : Nat) (brkH st w v n (u i) : Nat) (floH st w v n (u i) : Nat) w v u (revH m u) u L L tabC R).mpr ?_⟩
   rw [e]
   exact ⟨tt lt, c14, rfl, x14, rfl, c23, rfl, x23, rfl, c24, rfl, x24, rfl, tf (ne _), tf (ne _), tf (ne _), tf (ne _), hR⟩
 · exact ⟨T9b, _, rfl, (b9bx rw st wh mz n cw cv m cu m 0 0 0 0 w v u (revH m u) u L L tabC R).mpr ⟨tf (decide_eq_false (by omega)), hR⟩⟩
end
end Go.Ab
set_option maxRecDepth 100000
namespace Go.Ab
open Go Go.RowKit Go.Proofs
end Go.Ab
set_option maxRecDepth 100000
namespace Go.Ab
open Go Go.RowKit Go.Proofs
end Go.Ab
set_option maxRecDepth 100000
namespace Go.Ab
open Go Go.RowKit Go.Proofs
end Go.Ab
set_option maxRecDepth 100000
namespace Go.Ab
open Go Go.RowKit Go.Proofs
end Go.Ab
set_option maxRecDepth 100000
namespace Go.Ab
open Go Go.RowKit Go.Proofs
end Go.Ab
