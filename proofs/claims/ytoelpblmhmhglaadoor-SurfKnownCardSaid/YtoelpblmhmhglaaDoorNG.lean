/- package surf: a truth, by no remainders: the list is nil. -/
import Derived.Test.YtoelpblmhmhglaaDoorND
import Derived.Test.YtoelpblmhmhglaaDoorKR
import Derived.Test.YtoelpblmhmhglaaDoorKO
set_option maxRecDepth 100000
namespace Go.Ab
open Go Go.RowKit Go.Proofs
noncomputable def m12n (ws vs : List Value) : Mem := ⟨fillX [.dead, .dead, .cells ws 1 .ro, .cells vs 1 .ro, .dead, .dead] 0 .nil, 6⟩
noncomputable def B12n : List TBw := [.dead, .dead, .list 1 .ro, .list 1 .ro, .dead, .dead, .cells SuL 25 .var, .cells (.val nilS .nil) 26 .var, .cells (.hole .nil) 3 .var]
noncomputable def T12an : Tw := ⟨39, S12 (.val nilS .nil) (.val nilS .nil), 9, B12n⟩
noncomputable def T12bn : Tw := ⟨39, S12 (.slice 9 0 .nil) (.slice 10 0 .nil), 9, B12n ++ [.list 3 .row, .list 3 .row]⟩
noncomputable def h12an (rw st : Int) (n cw cv m cu : Nat) (ws vs : List Value) (at_ : Int) (i : Nat) : Hw := ⟨⟨[I n, I i, I rw, I st, I at_], [(n, cw), (n, cv), (m, cu)]⟩, [ws, vs], []⟩
noncomputable def h12bn (rw st : Int) (n cw cv m cu : Nat) (ws vs r1 r2 : List Value) (at_ : Int) (i : Nat) : Hw := ⟨⟨[I n, I i, I rw, I st, I at_], [(i, i), (i, i), (n, cw), (n, cv), (m, cu)]⟩, [ws, vs, r1, r2], []⟩
noncomputable def C12n (rw st : Int) (n cw cv m cu : Nat) (ws vs r1 r2 : List Value) : ConN where
 A := .agg SuL (.val nilS .nil)
 bs := [.dead, .dead, .list 1 .ro, .list 1 .ro, .dead, .dead]
 pre x := x = ⟨⟨[I rw, I st], [(n, cw), (n, cv), (m, cu)]⟩, [ws, vs]⟩
 news _ := [(r1, 3), (r2, 3)]
 one := false
 res _ := [.sl 0 n, .sl 1 n]
noncomputable def mL3n (tb ws vs us : List Value) : Mem := ⟨fillX [.dead, .cells tb 1 .ro, .cells ws 1 .ro, .cells vs 1 .ro, .cells us 1 .ro, .dead] 0 .nil, 6⟩
end Go.Ab
set_option maxRecDepth 100000
namespace Go.Ab
open Go Go.RowKit Go.Proofs
theorem b12an (rw st : Int) (n cw cv m cu : Nat) (w v : Nat → Sp) (at_ : Int) (i : Nat) (R : Nat → AExit → Hw → Prop) : (vx.code none (.l p12) (leafW [T12an, T12bn] R) (T12an.inst (h12an rw st n cw cv m cu (spL n w) (spL n v) at_ i)) ([(0, .split ((8, .val (.pointer (some ⟨2, 0 + i * 2, none⟩))) :: (0, .val (.agg ⟨[(I ((w i).lo)), (I ((w i).hi))]⟩)) :: (5, .val (.pointer (some ⟨3, 0 + i * 2, none⟩))) :: (0, .val (.agg ⟨[(I ((v i).lo)), (I ((v i).hi))]⟩)) :: (13, .again) :: (1, .again) :: [(18, .tm 1 [((9 : Nat), (11 : Nat)), ((10 : Nat), (14 : Nat))])]) ([(1, .tm 0 [])]))])) =
((((decide ((i : Int) < n)) = true → ((((((0 : Int) ≤ i)) ∧ (((i : Int) < n))) ∧ (((.pointer (some ⟨2, 0 + i * 2, none⟩)) : Value) = (.pointer (some ⟨2, 0 + i * 2, none⟩)))) ∧
((((0 + i * 2 + 2 ≤ (spL n w).length)) ∧ (((.agg ⟨[(I ((w i).lo)), (I ((w i).hi))]⟩) : Value) = (.agg ⟨(List.take 2 (List.drop (0 + i * 2) (spL n w)))⟩))) ∧
((((((0 : Int) ≤ i)) ∧ (((i : Int) < n))) ∧ (((.pointer (some ⟨3, 0 + i * 2, none⟩)) : Value) = (.pointer (some ⟨3, 0 + i * 2, none⟩)))) ∧
((((0 + i * 2 + 2 ≤ (spL n v).length)) ∧ (((.agg ⟨[(I ((v i).lo)), (I ((v i).hi))]⟩) : Value) = (.agg ⟨(List.take 2 (List.drop (0 + i * 2) (spL n v)))⟩))) ∧
(((((0 + i * 2 + 2 ≤ (spL n v).length)) ∧ (((.agg ⟨[(I ((v i).lo)), (I ((v i).hi))]⟩) : Value) = (.agg ⟨(List.take 2 (List.drop (0 + i * 2) (spL n v)))⟩))) ∧ ((((some (.slice (.some ⟨3, 0, .none⟩) (n) (cv)) : Option Value) = some (.slice (.some ⟨3, 0, .none⟩) (n) (cv)))) ∧ (True))) ∧
(((((0 + i * 2 + 2 ≤ (spL n v).length)) ∧ (((.agg ⟨[(I ((v i).lo)), (I ((v i).hi))]⟩) : Value) = (.agg ⟨(List.take 2 (List.drop (0 + i * 2) (spL n v)))⟩))) ∧ ((((some (.slice (.some ⟨3, 0, .none⟩) (n) (cv)) : Option Value) = some (.slice (.some ⟨3, 0, .none⟩) (n) (cv)))) ∧ (True))) ∧
R 1 .normal ⟨⟨[(I n), (I (IntKind.i64.wrap ((i : Int) + (1 : Int)))), (I rw), (I st), (I (IntKind.i64.wrap (IntKind.i64.wrap (at_ + (1 : Int)) + (1 : Int))))], [⟨((1 : Nat)), ((1 : Nat))⟩, ⟨((1 : Nat)), ((1 : Nat))⟩, ⟨n, cw⟩, ⟨n, cv⟩, ⟨m, cu⟩]⟩, [(spL n w), (spL n v), [(I ((w i).lo))], [(I ((v i).lo))]], []⟩))))))) ∧
((decide ((i : Int) < n)) = false → R 0 (.exit 0) ⟨⟨[(I n), (I i), (I rw), (I st), (I at_)], [⟨n, cw⟩, ⟨n, cv⟩, ⟨m, cu⟩]⟩, [(spL n w), (spL n v)], []⟩))) := by kernel_rfl
theorem b12bn (rw st : Int) (n cw cv m cu : Nat) (w v : Nat → Sp) (at_ : Int) (i : Nat) (r1 r2 : List Value) (R : Nat → AExit → Hw → Prop) : (vx.code none (.l p12) (leafW [T12an, T12bn] R) (T12bn.inst (h12bn rw st n cw cv m cu (spL n w) (spL n v) r1 r2 at_ i)) ([(0, .split ((8, .val (.pointer (some ⟨2, 0 + i * 2, none⟩))) :: (0, .val (.agg ⟨[(I ((w i).lo)), (I ((w i).hi))]⟩)) :: (5, .val (.pointer (some ⟨3, 0 + i * 2, none⟩))) :: (0, .val (.agg ⟨[(I ((v i).lo)), (I ((v i).hi))]⟩)) :: (13, .again) :: (0, .grow) :: (0, .again) :: (13, .grow) :: [(4, .tm 1 [((9 : Nat), (13 : Nat)), ((10 : Nat), (16 : Nat))])]) ([(1, .tm 1 [((9 : Nat), (9 : Nat)), ((10 : Nat), (10 : Nat))])]))])) =
((((decide ((i : Int) < n)) = true → ((((((0 : Int) ≤ i)) ∧ (((i : Int) < n))) ∧ (((.pointer (some ⟨2, 0 + i * 2, none⟩)) : Value) = (.pointer (some ⟨2, 0 + i * 2, none⟩)))) ∧
((((0 + i * 2 + 2 ≤ (spL n w).length)) ∧ (((.agg ⟨[(I ((w i).lo)), (I ((w i).hi))]⟩) : Value) = (.agg ⟨(List.take 2 (List.drop (0 + i * 2) (spL n w)))⟩))) ∧
((((((0 : Int) ≤ i)) ∧ (((i : Int) < n))) ∧ (((.pointer (some ⟨3, 0 + i * 2, none⟩)) : Value) = (.pointer (some ⟨3, 0 + i * 2, none⟩)))) ∧
((((0 + i * 2 + 2 ≤ (spL n v).length)) ∧ (((.agg ⟨[(I ((v i).lo)), (I ((v i).hi))]⟩) : Value) = (.agg ⟨(List.take 2 (List.drop (0 + i * 2) (spL n v)))⟩))) ∧
(((((0 + i * 2 + 2 ≤ (spL n v).length)) ∧ (((.agg ⟨[(I ((v i).lo)), (I ((v i).hi))]⟩) : Value) = (.agg ⟨(List.take 2 (List.drop (0 + i * 2) (spL n v)))⟩))) ∧ ((((some (.slice (.some ⟨3, 0, .none⟩) (n) (cv)) : Option Value) = some (.slice (.some ⟨3, 0, .none⟩) (n) (cv)))) ∧ (True))) ∧
((((¬i + (1 : Nat) ≤ i)) ∧ (((i * (1 : Nat) = r1.length)) ∧ ((((i + (1 : Nat)) * (8 : Nat) ≤ (140737488355328 : Nat))) ∧ ((i + (1 : Nat) ≤ (4611686018427387904 : Nat)))))) ∧
(((((0 + i * 2 + 2 ≤ (spL n v).length)) ∧ (((.agg ⟨[(I ((v i).lo)), (I ((v i).hi))]⟩) : Value) = (.agg ⟨(List.take 2 (List.drop (0 + i * 2) (spL n v)))⟩))) ∧ ((((some (.slice (.some ⟨3, 0, .none⟩) (n) (cv)) : Option Value) = some (.slice (.some ⟨3, 0, .none⟩) (n) (cv)))) ∧ (True))) ∧
((((¬i + (1 : Nat) ≤ i)) ∧ (((i * (1 : Nat) = r2.length)) ∧ ((((i + (1 : Nat)) * (8 : Nat) ≤ (140737488355328 : Nat))) ∧ ((i + (1 : Nat) ≤ (4611686018427387904 : Nat)))))) ∧
R 1 .normal ⟨⟨[(I n), (I (IntKind.i64.wrap ((i : Int) + (1 : Int)))), (I rw), (I st), (I (IntKind.i64.wrap (IntKind.i64.wrap (at_ + (1 : Int)) + (1 : Int))))], [⟨(i + (1 : Nat)), (i + (1 : Nat))⟩, ⟨(i + (1 : Nat)), (i + (1 : Nat))⟩, ⟨n, cw⟩, ⟨n, cv⟩, ⟨m, cu⟩]⟩, [(spL n w), (spL n v), ((List.take (i * (1 : Nat)) (r1)) ++ [(I ((w i).lo))]), ((List.take (i * (1 : Nat)) (r2)) ++ [(I ((v i).lo))])], []⟩))))))))) ∧
((decide ((i : Int) < n)) = false → R 1 (.exit 0) ⟨⟨[(I n), (I i), (I rw), (I st), (I at_)], [⟨i, i⟩, ⟨i, i⟩, ⟨n, cw⟩, ⟨n, cv⟩, ⟨m, cu⟩]⟩, [(spL n w), (spL n v), (r1), (r2)], []⟩))) := by kernel_rfl
theorem f12n (rw st : Int) (n cw cv m cu : Nat) (w v : Nat → Sp) (at_ : Int) (r1 r2 : List Value) (R : Hx → Prop) : (vx.call 12 [suV rw st n cw cv m cu, nilS] (retN (rowT22 6 3 3) R) (m12n (spL n w) (spL n v)) ((13, .loopW T12an (.exit 0) T12bn fun x => h12bn rw st n cw cv m cu (spL n w) (spL n v) r1 r2 at_ n) :: [(4, .tm 0 [((6 : Nat), (9 : Nat)), ((7 : Nat), (10 : Nat))])])) =
(((ClW ⟨⟨[(I n), (I 0), (I rw), (I st), (I 0)], [⟨n, cw⟩, ⟨n, cv⟩, ⟨m, cu⟩]⟩, [(spL n w), (spL n v)], []⟩) ∧ (LoopOW Tryd.prog .none p12 (T12an) ⟨⟨[(I n), (I 0), (I rw), (I st), (I 0)], [⟨n, cw⟩, ⟨n, cv⟩, ⟨m, cu⟩]⟩, [(spL n w), (spL n v)], []⟩ (.exit 0) (T12bn) ⟨⟨[(I n), (I n), (I rw), (I st), (I at_)], [⟨n, n⟩, ⟨n, n⟩, ⟨n, cw⟩, ⟨n, cv⟩, ⟨m, cu⟩]⟩, [(spL n w), (spL n v), (r1), (r2)], []⟩) ∧
R ⟨⟨[], [⟨n, n⟩, ⟨n, n⟩]⟩, [(r1), (r2)]⟩)) := by kernel_rfl
section
variable {rw st : Int} {n cw cv m cu : Nat} {w v : Nat → Sp}
def bs0 : Nat → Int := fun _ => 0
noncomputable def st12n (rw st : Int) (n cw cv m cu : Nat) (w v : Nat → Sp) : Nat → Nat × Hw
 | 0 => (0, h12an rw st n cw cv m cu (spL n w) (spL n v) 0 0)
 | i + 1 => (1, h12bn rw st n cw cv m cu (spL n w) (spL n v) (ints (i + 1) (trW w 0 bs0)) (ints (i + 1) (trV v 0 bs0)) ((2 * (i + 1) : Nat) : Int) (i + 1))
theorem cl12n (i : Nat) : ClW (st12n rw st n cw cv m cu w v i).2 := by
 cases i with
 | zero =>
  refine ⟨fun cs hc => ?_, fun es hc => (by cases hc)⟩
  simp only [st12n, h12an, List.mem_cons, List.not_mem_nil, or_false] at hc
  rcases hc with rfl | rfl
  · exact spL_at _ _
  · exact spL_at _ _
 | succ i =>
  refine ⟨fun cs hc => ?_, fun es hc => (by cases hc)⟩
  simp only [st12n, h12bn, List.mem_cons, List.not_mem_nil, or_false] at hc
  rcases hc with rfl | rfl | rfl | rfl
  · exact spL_at _ _
  · exact spL_at _ _
  · exact ints_at _ _
  · exact ints_at _ _
theorem loop12n (hS : SOK rw st n w v) (h0 : 0 < n) : LoopOW Tryd.prog none p12 T12an (h12an rw st n cw cv m cu (spL n w) (spL n v) 0 0) (.exit 0) T12bn
    (h12bn rw st n cw cv m cu (spL n w) (spL n v) (ints n (trW w 0 bs0)) (ints n (trV v 0 bs0)) ((2 * n : Nat) : Int) n) := by
 have h8 := hS.n8
 have hst : st12n rw st n cw cv m cu w v n = (1, h12bn rw st n cw cv m cu (spL n w) (spL n v) (ints n (trW w 0 bs0)) (ints n (trV v 0 bs0)) ((2 * n : Nat) : Int) n) := by
  obtain ⟨j, rfl⟩ : ∃ j, n = j + 1 := ⟨n - 1, by omega⟩
  rfl
 have main := loop_forW (P := Tryd.prog) (ro := none) (p := p12) (Ts := [T12an, T12bn]) (k := 9) (n := n) (e := .exit 0) (st := st12n rw st n cw cv m cu w v) rfl vx_sound (by
  intro T hT
  simp only [List.mem_cons, List.not_mem_nil, or_false] at hT
  rcases hT with rfl | rfl <;> rfl) (by rw [nglob]; omega) ⟨by simp, trivial⟩ (fun i _ => cl12n i) (fun i hi R hR => by
  have hw : IntKind.i64.wrap ((i : Int) + 1) = ((i + 1 : Nat) : Int) := wrapI (by omega) (by omega)
  have pw := spL_part w hi
  have pv := spL_part v hi
  have lw := spL_len n w
  have lv := spL_len n v
  have a1 : IntKind.i64.wrap (((2 * i : Nat) : Int) + 1) = ((2 * i + 1 : Nat) : Int) := by rw [wrapI (by omega) (by omega)]; omega
  have a2 : IntKind.i64.wrap (((2 * i + 1 : Nat) : Int) + 1) = ((2 * i + 2 : Nat) : Int) := by rw [wrapI (by omega) (by omega)]; omega
  have e22 : ((2 * i + 2 : Nat) : Int) = ((2 * (i + 1) : Nat) : Int) := by omega
  have tl : ∀ (j : Nat) (o : Nat → Int), List.take (j * 1) (ints j o) = ints j o := take_ints
  have sw : ints (i + 1) (trW w 0 bs0) = ints i (trW w 0 bs0) ++ [I (trW w 0 bs0 i)] := flatC_succ
  have sv : ints (i + 1) (trV v 0 bs0) = ints i (trV v 0 bs0) ++ [I (trV v 0 bs0 i)] := flatC_succ
  have goZ : (i = 0 → R 1 .normal (h12bn rw st n cw cv m cu (spL n w) (spL n v) [I (trW w 0 bs0 i)] [I (trV v 0 bs0 i)] ((2 * i + 2 : Nat) : Int) (i + 1))) := fun e => by
   subst e
   exact hR
  have goS : (0 < i → R 1 .normal (h12bn rw st n cw cv m cu (spL n w) (spL n v) (List.take (i * 1) (ints i (trW w 0 bs0)) ++ [I (trW w 0 bs0 i)]) (List.take (i * 1) (ints i (trV v 0 bs0)) ++ [I (trV v 0 bs0 i)]) ((2 * i + 2 : Nat) : Int) (i + 1))) := fun _ => by
   rw [tl, tl, ← sw, ← sv, e22]
   exact hR
  have g1 : (¬ i + 1 ≤ i) ∧ i * 1 = (ints i (trW w 0 bs0)).length ∧ (i + 1) * 8 ≤ 140737488355328 ∧ i + 1 ≤ 4611686018427387904 := ⟨by omega, by rw [ints_len], by omega, by omega⟩
  have g2 : (¬ i + 1 ≤ i) ∧ i * 1 = (ints i (trV v 0 bs0)).length ∧ (i + 1) * 8 ≤ 140737488355328 ∧ i + 1 ≤ 4611686018427387904 := ⟨by omega, by rw [ints_len], by omega, by omega⟩
  have r1 : (0 + i * 2 + 2 ≤ (spL n w).length) ∧ ((.agg ⟨[I (w i).lo, I (w i).hi]⟩ : Value) = .agg ⟨List.take 2 (List.drop (0 + i * 2) (spL n w))⟩) := ⟨by rw [lw]; omega, by rw [pw]; rfl⟩
  have r2 : (0 + i * 2 + 2 ≤ (spL n v).length) ∧ ((.agg ⟨[I (v i).lo, I (v i).hi]⟩ : Value) = .agg ⟨List.take 2 (List.drop (0 + i * 2) (spL n v))⟩) := ⟨by rw [lv]; omega, by rw [pv]; rfl⟩
  have q1 : ((0 : Int) ≤ (i : Int) ∧ (i : Int) < (n : Int)) ∧ ((.pointer (some ⟨2, 0 + i * 2, none⟩) : Value) = .pointer (some ⟨2, 0 + i * 2, none⟩)) := ⟨⟨by omega, by omega⟩, rfl⟩
  have q2 : ((0 : Int) ≤ (i : Int) ∧ (i : Int) < (n : Int)) ∧ ((.pointer (some ⟨3, 0 + i * 2, none⟩) : Value) = .pointer (some ⟨3, 0 + i * 2, none⟩)) := ⟨⟨by omega, by omega⟩, rfl⟩
  have dw : trW w 0 bs0 i = (w i).lo := by unfold trW drI; rw [if_pos rfl]
  have dv : trV v 0 bs0 i = (v i).lo := by unfold trV drI; rw [if_pos rfl]
  rw [dw, dv] at goZ goS
  cases i with
  | zero =>
   refine ⟨T12an, _, rfl, (b12an rw st n cw cv m cu w v 0 0 R).mpr ⟨fun _ => ⟨q1, r1, q2, r2, ⟨r2, rfl, trivial⟩, ⟨r2, rfl, trivial⟩, ?_⟩, fun h => absurd (by omega) (of_decide_eq_false h)⟩⟩
   exact goZ rfl
  | succ i =>
   refine ⟨T12bn, _, rfl, (b12bn rw st n cw cv m cu w v ((2 * (i + 1) : Nat) : Int) (i + 1) (ints (i + 1) (trW w 0 bs0)) (ints (i + 1) (trV v 0 bs0)) R).mpr ⟨fun _ => ?_, fun h => absurd (by omega) (of_decide_eq_false h)⟩⟩
   rw [hw, a1, a2]
   exact ⟨q1, r1, q2, r2, ⟨r2, rfl, trivial⟩, g1, ⟨r2, rfl, trivial⟩, g2, goS (by omega)⟩) (fun R hR => by
  rw [hst] at hR ⊢
  exact ⟨T12bn, _, rfl, (b12bn rw st n cw cv m cu w v _ n _ _ R).mpr ⟨fun h => absurd (of_decide_eq_true h) (by omega), fun _ => hR⟩⟩) (T0 := T12an) (T1 := T12bn) rfl (Nat.le_of_ble_eq_true rfl) (by decide) (by rw [hst]; rfl)
 rw [hst] at main
 exact main
theorem C12n_ok (hS : SOK rw st n w v) (h0 : 0 < n) : ConNOK Tryd.prog 12 (C12n rw st n cw cv m cu (spL n w) (spL n v) (ints n (trW w 0 bs0)) (ints n (trV v 0 bs0))) := by
 refine conRow22_of rfl vx_sound (C := C12n rw st n cw cv m cu (spL n w) (spL n v) (ints n (trW w 0 bs0)) (ints n (trV v 0 bs0))) (n := n) (c1 := ints n (trW w 0 bs0)) (c2 := ints n (trV v 0 bs0)) (e1 := 3) (e2 := 3) ⟨⟨[I rw, I st], [(n, cw), (n, cv), (m, cu)]⟩, [spL n w, spL n v]⟩ (fun x => Iff.rfl) rfl rfl rfl ?_ ?_ (ints_at _ _) (ints_at _ _) rfl (Nat.le_of_ble_eq_true rfl) (by rw [nglob]; exact Nat.le_of_ble_eq_true rfl)
 · exact ⟨_, (f12n rw st n cw cv m cu w v _ _ _ _).mpr ⟨cl12n (rw := rw) (st := st) (n := n) (cw := cw) (cv := cv) (m := m) (cu := cu) (w := w) (v := v) 0, loop12n hS h0, rfl⟩⟩
 · intro cs hc
   simp only [List.mem_cons, List.not_mem_nil, or_false] at hc
   rcases hc with rfl | rfl
   · exact spL_at _ _
   · exact spL_at _ _
end
end Go.Ab
set_option maxRecDepth 100000
namespace Go.Ab
open Go Go.RowKit Go.Proofs
abbrev RoC := BInfo × Option (List Value × TypeId)
def rcX (x : RoC) : XB := match x.2 with
 | none => .dead
 | some q => .cells q.1 q.2 .ro
def RcHolds (W : World) (x : RoC) : Prop := ∀ q, x.2 = some q → ∃ c t fr, W.heap[x.1.blk]? = some (.cells c t fr) ∧ ∀ (j : Nat) v, q.1[j]? = some v → atomic v = true ∧ c[x.1.off + j]? = some v
noncomputable def wlM (l : List RoC) : Mem := ⟨fillX (l.map rcX) 0 .nil, l.length⟩
def wlN (l : List RoC) : NMap := fun i => (l[i]?).map (·.1)
theorem wlM_H (l : List RoC) (hl : l.length ≤ 1000000) (i : Nat) : (wlM l).H i = (l[i]?).map fun x => (rcX x).a := by
 simp only [wlM, Mem.H]
 rw [fillX_get _ (by rw [List.length_map]; omega)]
 rw [List.length_map]
 by_cases h : i < l.length
 · rw [if_pos (by omega)]
   simp only [Nat.sub_zero, List.getElem?_map]
   cases l[i]? <;> rfl
 · rw [if_neg (by omega), List.getElem?_eq_none (by omega)]
   rfl
theorem rcX_own (x : RoC) : (rcX x).a.own = false := by
 obtain ⟨f, q⟩ := x
 cases q with
 | none => rfl
 | some q => rfl
theorem rel_wl {W : World} {l : List RoC} (hl : l.length ≤ 1000000) (h : ∀ x ∈ l, RcHolds W x) (hg : ∀ g, g < Tryd.prog.globals.size → (l[g]?).map (·.1) = some ⟨g, 0, 0⟩) : Rel Tryd.prog (upTo W.heap.size) (wlN l) (wlM l).H W := by
 have one : ∀ x, RcHolds W x → BlkRel Tryd.prog (upTo W.heap.size) (wlN l) W (rcX x).a x.1 := by
  intro x hx
  obtain ⟨f, q⟩ := x
  cases q with
  | none => trivial
  | some q =>
   obtain ⟨c, t, fr, h1, h2⟩ := hx q rfl
   exact ⟨c, t, fr, h1, fun j v hj => ⟨v, (h2 j v hj).2, VRel.of_atomic (h2 j v hj).1⟩, fun hk => absurd rfl hk, fun _ => (Array.getElem?_eq_some_iff.1 h1).1, fun hk => (by cases hk)⟩
 refine ⟨?_, ?_, ⟨l.length, fun i hi => ⟨?_, ?_⟩⟩, fun _ h => h, hg, fun _ i hi => ?_⟩
 · intro i b f hb hf
   rw [wlM_H l hl] at hb
   simp only [wlN] at hf
   cases e : l[i]? with
   | none => rw [e] at hb; cases hb
   | some x =>
    rw [e] at hb hf
    cases hb; cases hf
    exact one x (h x (List.mem_of_getElem? e))
 · intro i j b c f g _ hb _ hob
   rw [wlM_H l hl] at hb
   cases e : l[i]? with
   | none => rw [e] at hb; cases hb
   | some x =>
    rw [e] at hb
    cases hb
    rw [rcX_own] at hob; cases hob
 · simp only [wlN]; rw [List.getElem?_eq_none hi]; rfl
 · rw [wlM_H l hl, List.getElem?_eq_none hi]; rfl
 · rw [wlM_H l hl] at hi
   simp only [wlN]
   cases e : l[i]? with
   | none => rfl
   | some x => rw [e] at hi; cases hi
theorem calls_wl {W : World} {l : List RoC} (hl : l.length ≤ 1000000) (h : ∀ x ∈ l, RcHolds W x) (hg : ∀ g, g < Tryd.prog.globals.size → (l[g]?).map (·.1) = some ⟨g, 0, 0⟩) {f : FuncId} {args args' : List Value} (ha : VsRel (wlN l) args args') {b : Bool} (hr : ∃ hs, vx.call f args (retK fun r => r = .ret (.bool b)) (wlM l) hs) :
    Calls Tryd.prog f ⟨args'⟩ W fun e W' => e = .returned (.bool b) ∧ Below W.heap.size W W' := by
 obtain ⟨hs, hr⟩ := hr
 have h2 := (vx_sound.call hr).2 (upTo W.heap.size) (wlN l) W args' (rel_wl hl h hg) ha 0
 refine callsIn_wide.1 (CallsIn.mono (h2 : CallsIn Fence.wide 0 Tryd.prog f ⟨args'⟩ W _) ?_)
 rintro e W' ⟨r, H', m', ⟨mm, hs', hk, _⟩, _, _, hb, hq⟩
 have hk : r = .ret (.bool b) := hk
 subst hk
 obtain ⟨v', rfl, hv⟩ := hq
 exact ⟨by rw [hv.eq_of_atomic rfl], hb.below⟩
def SlIn (W : World) (v : Value) (n : Nat) (cs : List Value) : Prop :=
 ∃ (F : BInfo) (c : Nat), RcHolds W (F, some (cs, 1)) ∧ ∀ (i : Nat) (m : NMap), m i = some F → VRel m (.slice (some ⟨i, 0, none⟩) n c) v
theorem SlIn.at {W : World} {b o n c : Nat} {cs : List Value} (hn : n ≤ c) (h : RcHolds W (⟨b, o, 0⟩, some (cs, 1))) : SlIn W (.slice (some ⟨b, o, none⟩) n c) n cs :=
 ⟨⟨b, o, 0⟩, c, h, fun i m hm => VsRel.slice (m := m) (i := i) (o := 0) (n := n) (c := c) (f := ⟨b, o, 0⟩) (a := ⟨b, o, none⟩) (l := []) (l' := []) hm hn (fun _ => rfl) .nil⟩
theorem SlIn.zero {W : World} {a : Addr} {blk : Nat} (h : ∃ c t fr, W.heap[blk]? = some (.cells c t fr)) : SlIn W (.slice (some a) 0 0) 0 [] := by
 obtain ⟨c, t, fr, hc⟩ := h
 refine ⟨⟨blk, 0, 0⟩, 0, fun q hq => ?_, fun i m hm => VsRel.slice (m := m) (i := i) (o := 0) (n := 0) (c := 0) (f := ⟨blk, 0, 0⟩) (a := a) (l := []) (l' := []) hm (Nat.le_refl _) (fun hp => absurd hp (by simp)) .nil⟩
 cases hq
 exact ⟨c, t, fr, hc, fun j v hj => by cases hj⟩
theorem holds_none {W : World} {x : RoC} (h : x.2 = none) : RcHolds W x := fun q hq => by rw [h] at hq; cases hq
end Go.Ab
