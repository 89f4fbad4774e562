/- package horse: matching: how few horses are enough. -/
import Derived.Test.YtamfplmmfbbabaaVH
import Derived.Test.YtamfplmmfbbabaaVB
set_option maxRecDepth 100000
namespace Go.Ab
open Go Go.RowKit Go.Proofs
theorem b83t (j n c : Nat) (f : Nat → Mv) (q : Nat → Nat) (js : List Value) (many tr tr2 : Int) (es es2 : List (Value × Value)) (o : Nat → Int) (R : Nat → AExit → Hw → Prop) : (vx.code none (.l p83) (leafW [T83] R) (T83.inst (st83 o n c js many tr es j)) ([(0, .split ((1, .val (.pointer (.some ⟨((0 : Nat)), ((0 : Nat) + j * (5 : Nat)), .none⟩))) :: (0, .val (.agg ⟨[(I ((f j).at_)), (I ((f j).place)), (I ((f j).lo)), (I ((f j).hi)), (I ((↑(q j) : Int)))]⟩)) :: (5, .conW (CW95 o n c js (f j).at_ (f j).place (f j).lo (f j).hi (q j) (0 : Int) es true tr2 es2)) :: [(4, .tm 0 [])]) ([(1, .tm 0 [])]))])) =
((((decide ((↑j : Int) < (↑n : Int))) = true → ((((((0 : Int) ≤ (↑j : Int))) ∧ (((↑j : Int) < (↑n : Int)))) ∧ (((.pointer (.some ⟨((0 : Nat)), ((0 : Nat) + j * (5 : Nat)), .none⟩)) : Value) = (.pointer (.some ⟨((0 : Nat)), ((0 : Nat) + j * (5 : Nat)), .none⟩)))) ∧
(((((0 : Nat) + j * (5 : Nat) + (5 : Nat) ≤ js.length)) ∧ (((.agg ⟨[(I ((f j).at_)), (I ((f j).place)), (I ((f j).lo)), (I ((f j).hi)), (I ((↑(q j) : Int)))]⟩) : Value) = (.agg ⟨(List.take ((5 : Nat)) (List.drop ((0 : Nat) + j * (5 : Nat)) (js)))⟩))) ∧
((ConWOK Try.prog (OfNat.ofNat (95 : Nat)) (CW95 o n c js (f j).at_ (f j).place (f j).lo (f j).hi (q j) (0 : Int) es true tr2 es2)) ∧ (ConW.pre (CW95 o n c js (f j).at_ (f j).place (f j).lo (f j).hi (q j) (0 : Int) es true tr2 es2) ⟨⟨[(I ((f j).at_)), (I ((f j).place)), (I ((f j).lo)), (I ((f j).hi)), (I ((↑(q j) : Int))), (I (o 0)), (I (o 1)), (I (o 2)), (I (o 3)), (I (o 4)), (I (o 5)), (I (o 6))], [⟨n, c⟩]⟩, [[(I 0)], (js)], [(es)]⟩) ∧
R 0 .normal ⟨⟨[(I many), (I n), (I (IntKind.i64.wrap ((↑j : Int) + (1 : Int)))), (I (o 0)), (I (o 1)), (I (o 2)), (I (o 3)), (I (o 4)), (I (o 5)), (I (o 6))], [⟨n, c⟩, ⟨n, c⟩]⟩, [(js), [(I tr2)]], [(es2)]⟩)))) ∧
((decide ((↑j : Int) < (↑n : Int))) = false → R 0 (.exit ((0 : Nat))) ⟨⟨[(I many), (I n), (I j), (I (o 0)), (I (o 1)), (I (o 2)), (I (o 3)), (I (o 4)), (I (o 5)), (I (o 6))], [⟨n, c⟩, ⟨n, c⟩]⟩, [(js), [(I tr)]], [(es)]⟩))) := by kernel_rfl
theorem b83f (j n c : Nat) (f : Nat → Mv) (q : Nat → Nat) (js : List Value) (many tr tr2 : Int) (es es2 : List (Value × Value)) (o : Nat → Int) (R : Nat → AExit → Hw → Prop) : (vx.code none (.l p83) (leafW [T83] R) (T83.inst (st83 o n c js many tr es j)) ([(0, .split ((1, .val (.pointer (.some ⟨((0 : Nat)), ((0 : Nat) + j * (5 : Nat)), .none⟩))) :: (0, .val (.agg ⟨[(I ((f j).at_)), (I ((f j).place)), (I ((f j).lo)), (I ((f j).hi)), (I ((↑(q j) : Int)))]⟩)) :: (5, .conW (CW95 o n c js (f j).at_ (f j).place (f j).lo (f j).hi (q j) (0 : Int) es false tr2 es2)) :: [(7, .tm 0 [])]) ([(1, .tm 0 [])]))])) =
((((decide ((↑j : Int) < (↑n : Int))) = true → ((((((0 : Int) ≤ (↑j : Int))) ∧ (((↑j : Int) < (↑n : Int)))) ∧ (((.pointer (.some ⟨((0 : Nat)), ((0 : Nat) + j * (5 : Nat)), .none⟩)) : Value) = (.pointer (.some ⟨((0 : Nat)), ((0 : Nat) + j * (5 : Nat)), .none⟩)))) ∧
(((((0 : Nat) + j * (5 : Nat) + (5 : Nat) ≤ js.length)) ∧ (((.agg ⟨[(I ((f j).at_)), (I ((f j).place)), (I ((f j).lo)), (I ((f j).hi)), (I ((↑(q j) : Int)))]⟩) : Value) = (.agg ⟨(List.take ((5 : Nat)) (List.drop ((0 : Nat) + j * (5 : Nat)) (js)))⟩))) ∧
((ConWOK Try.prog (OfNat.ofNat (95 : Nat)) (CW95 o n c js (f j).at_ (f j).place (f j).lo (f j).hi (q j) (0 : Int) es false tr2 es2)) ∧ (ConW.pre (CW95 o n c js (f j).at_ (f j).place (f j).lo (f j).hi (q j) (0 : Int) es false tr2 es2) ⟨⟨[(I ((f j).at_)), (I ((f j).place)), (I ((f j).lo)), (I ((f j).hi)), (I ((↑(q j) : Int))), (I (o 0)), (I (o 1)), (I (o 2)), (I (o 3)), (I (o 4)), (I (o 5)), (I (o 6))], [⟨n, c⟩]⟩, [[(I 0)], (js)], [(es)]⟩) ∧
R 0 .normal ⟨⟨[(I (IntKind.i64.wrap (many + (1 : Int)))), (I n), (I (IntKind.i64.wrap ((↑j : Int) + (1 : Int)))), (I (o 0)), (I (o 1)), (I (o 2)), (I (o 3)), (I (o 4)), (I (o 5)), (I (o 6))], [⟨n, c⟩, ⟨n, c⟩]⟩, [(js), [(I tr2)]], [(es2)]⟩)))) ∧
((decide ((↑j : Int) < (↑n : Int))) = false → R 0 (.exit ((0 : Nat))) ⟨⟨[(I many), (I n), (I j), (I (o 0)), (I (o 1)), (I (o 2)), (I (o 3)), (I (o 4)), (I (o 5)), (I (o 6))], [⟨n, c⟩, ⟨n, c⟩]⟩, [(js), [(I tr)]], [(es)]⟩))) := by kernel_rfl
theorem f83 (n c : Nat) (js : List Value) (many tr2 : Int) (es2 : List (Value × Value)) (o : Nat → Int) (R : ARes → Prop) : (vx.call 83 [.slice (some ⟨0, 0, none⟩) n c, canV o] (retK R) (m83 js) ((15, .loopW T83 (.exit (0 : Nat)) T83 fun x => st83 o n c js many tr2 es2 n) :: [])) =
(((ClW ⟨⟨[(I 0), (I n), (I 0), (I (o 0)), (I (o 1)), (I (o 2)), (I (o 3)), (I (o 4)), (I (o 5)), (I (o 6))], [⟨n, c⟩, ⟨n, c⟩]⟩, [(js), [(I 0)]], [[]]⟩) ∧ (LoopOW Try.prog .none p83 (T83) ⟨⟨[(I 0), (I n), (I 0), (I (o 0)), (I (o 1)), (I (o 2)), (I (o 3)), (I (o 4)), (I (o 5)), (I (o 6))], [⟨n, c⟩, ⟨n, c⟩]⟩, [(js), [(I 0)]], [[]]⟩ (.exit ((0 : Nat))) (T83) ⟨⟨[(I many), (I n), (I n), (I (o 0)), (I (o 1)), (I (o 2)), (I (o 3)), (I (o 4)), (I (o 5)), (I (o 6))], [⟨n, c⟩, ⟨n, c⟩]⟩, [(js), [(I tr2)]], [(es2)]⟩) ∧
R (.ret (I many)))) := by kernel_rfl
theorem b83z (R : Nat → AExit → Hw → Prop) : (vx.code none (.l p83) (leafW [T83z] R) (T83z.inst ⟨⟨[I 0, I 0, I 0], []⟩, [], []⟩) ([(2, .tm 0 [])])) =
(R 0 (.exit ((0 : Nat))) ⟨⟨[(I 0), (I 0), (I 0)], []⟩, [], []⟩) := by kernel_rfl
theorem f83z (o : Nat → Int) (R : ARes → Prop) : (vx.call 83 [.slice none 0 0, canV o] (retK R) ⟨.nil, 0⟩ ((15, .loopW T83z (.exit (0 : Nat)) T83z fun x => { hs := { vs := [I (0 : Int), I (0 : Int), I (0 : Int)], ns := [] }, ls := [], es := [] }) :: [])) =
(((ClW ⟨⟨[(I 0), (I ((↑(0 : Nat) : Int))), (I 0)], []⟩, [], []⟩) ∧ (LoopOW Try.prog .none p83 (T83z) ⟨⟨[(I 0), (I ((↑(0 : Nat) : Int))), (I 0)], []⟩, [], []⟩ (.exit ((0 : Nat))) (T83z) ⟨⟨[(I 0), (I 0), (I 0)], []⟩, [], []⟩) ∧
R (.ret (I 0)))) := by kernel_rfl
section
variable (o : Nat → Int) (n c : Nat) (f : Nat → Mv) (q : Nat → Nat)
noncomputable def stF (j : Nat) : Hw := st83 o n c (jobsU n f q) ((fewS (canO o q) q n j).2 : Nat) ((fewS (canO o q) q n j).1.T : Nat) (encJ f q (fewS (canO o q) q n j).1.M) j
noncomputable def C83 : Con where
  A := .slice 0 0 CanT
  bs := [.list 97 .ro]
  pre x := x = ⟨⟨ints 7 o, [(n, c)]⟩, [jobsU n f q]⟩
  res _ := .ret (I (fewN (canO o q) q n : Nat))
noncomputable def C83z : Con where
  A := .val (.slice none 0 0) CanT
  bs := []
  pre x := x = ⟨⟨ints 7 o, []⟩, []⟩
  res _ := .ret (I 0)
variable {o n c f q}
theorem clF (j : Nat) : ClW (stF o n c f q j) := by
  refine ⟨fun cs hcs v hv => ?_, fun es hes e he => ?_⟩
  · simp only [stF, st83, List.mem_cons, List.not_mem_nil, or_false] at hcs
    rcases hcs with rfl | rfl
    · exact jobsU_at n f q v hv
    · simp only [List.mem_cons, List.not_mem_nil, or_false] at hv; subst hv; rfl
  · simp only [stF, st83, List.mem_cons, List.not_mem_nil, or_false] at hes
    subst hes
    exact encJ_cl _ e he
theorem loop83 (hn : n ≤ 7) (hq : ∀ i j, i < n → j < n → q i = q j → i = j) (hq7 : ∀ i, i < n → q i < 7) : LoopOW Try.prog none p83 T83 (stF o n c f q 0) (.exit 0) T83 (stF o n c f q n) := by
  refine loop_forW (Ts := [T83]) (k := 7) (n := n) (e := .exit 0) (st := fun j => (0, stF o n c f q j)) rfl vx_sound ?_ (by rw [nglob]; omega) ⟨by simp, trivial⟩ (fun j _ => clF j) (fun j hj R hR => ?_) (fun R hR => ?_) rfl (Nat.le_of_ble_eq_true rfl) (by decide) rfl
  · intro T hT; simp only [List.mem_singleton] at hT; subst hT; rfl
  · have hw : IntKind.i64.wrap ((j : Int) + 1) = ((j + 1 : Nat) : Int) := wrapI (by omega) (by omega)
    obtain ⟨k1, k2⟩ := fewS_ok (can := canO o q) hq7 j (by omega)
    have hlen : 0 + j * 5 + 5 ≤ (jobsU n f q).length := by rw [jobsU_len]; have := flatC_bound (k := 5) hj; omega
    have hpart : (Value.agg ⟨[I (f j).at_, I (f j).place, I (f j).lo, I (f j).hi, I (q j : Nat)]⟩) = .agg ⟨((jobsU n f q).drop (0 + j * 5)).take 5⟩ := by rw [jobsU_part f q hj]; rfl
    have hC := C95_ok (o := o) (c := c) (f := f) hn hq hq7 8 j ⟨0, (fewS (canO o q) q n j).1.M⟩ hj ⟨Nat.zero_lt_succ _, k1.keys⟩ (by have := unt_le (q := q) (n := n) ⟨0, (fewS (canO o q) q n j).1.M⟩; omega)
    have hw2 : IntKind.i64.wrap (((fewS (canO o q) q n j).2 : Int) + 1) = (((fewS (canO o q) q n j).2 + 1 : Nat) : Int) := wrapI (by omega) (by omega)
    simp only [C95] at hC
    have hR2 : R 0 .normal (stF o n c f q (j + 1)) := hR
    simp only [stF, fewS] at hR2
    refine ⟨T83, ?_⟩
    generalize matchF (canO o q) q n 8 j ⟨0, (fewS (canO o q) q n j).1.M⟩ = r at hC hR2
    obtain ⟨b, σ'⟩ := r
    cases b with
    | true =>
      simp only [if_true] at hR2
      refine ⟨_, rfl, (b83t j n c f q (jobsU n f q) _ _ σ'.T (encJ f q (fewS (canO o q) q n j).1.M) (encJ f q σ'.M) o R).mpr ⟨fun _ => ⟨⟨⟨by omega, by omega⟩, rfl⟩, ⟨hlen, hpart⟩, hC, rfl, ?_⟩, fun h => absurd (by omega) (of_decide_eq_false h)⟩⟩
      rw [hw]
      exact hR2
    | false =>
      simp only [Bool.false_eq_true, if_false] at hR2
      refine ⟨_, rfl, (b83f j n c f q (jobsU n f q) _ _ σ'.T (encJ f q (fewS (canO o q) q n j).1.M) (encJ f q σ'.M) o R).mpr ⟨fun _ => ⟨⟨⟨by omega, by omega⟩, rfl⟩, ⟨hlen, hpart⟩, hC, rfl, ?_⟩, fun h => absurd (by omega) (of_decide_eq_false h)⟩⟩
      rw [hw, hw2]
      exact hR2
  · exact ⟨T83, _, rfl, (b83t n n c f q (jobsU n f q) _ _ 0 (encJ f q (fewS (canO o q) q n n).1.M) [] o R).mpr ⟨fun h => absurd (of_decide_eq_true h) (by omega), fun _ => hR⟩⟩
theorem C83_ok (hn : n ≤ 7) (hq : ∀ i j, i < n → j < n → q i = q j → i = j) (hq7 : ∀ i, i < n → q i < 7) : ConOK Try.prog 83 (C83 o n c f q) := by
  refine con_of vx_sound _ (fun x hx => ?_) rfl (fun x _ => rfl) (fun x hx => ?_) rfl (Nat.le_of_ble_eq_true rfl) (by rw [nglob]; exact Nat.zero_le _)
  · cases hx
    exact ⟨_, (f83 n c (jobsU n f q) _ _ (encJ f q (fewS (canO o q) q n n).1.M) o _).mpr ⟨clF 0, loop83 hn hq hq7, rfl⟩⟩
  · cases hx
    intro cs hcs v hv
    simp only [List.mem_singleton] at hcs
    subst hcs
    exact jobsU_at n f q v hv
theorem loop83z : LoopOW Try.prog none p83 T83z ⟨⟨[I 0, I 0, I 0], []⟩, [], []⟩ (.exit 0) T83z ⟨⟨[I 0, I 0, I 0], []⟩, [], []⟩ := by
  refine loop_forW (Ts := [T83z]) (k := 6) (e := .exit 0) (n := 0) (st := fun _ => (0, ⟨⟨[I 0, I 0, I 0], []⟩, [], []⟩)) rfl vx_sound ?_ (by rw [nglob]; omega) ⟨by simp, trivial⟩ (fun j _ => ⟨fun cs h => (by cases h), fun cs h => (by cases h)⟩) (fun j hj R hR => (by omega)) (fun R hR => ?_) rfl (Nat.le_of_ble_eq_true rfl) (by decide) rfl
  · intro T hT; simp only [List.mem_singleton] at hT; subst hT; rfl
  · exact ⟨T83z, _, rfl, (b83z R).mpr hR⟩
theorem C83z_ok : ConOK Try.prog 83 (C83z o) := by
  refine con_of vx_sound _ (fun x hx => ?_) rfl (fun x _ => rfl) (fun x hx => ?_) rfl (Nat.le_of_ble_eq_true rfl) (by rw [nglob]; exact Nat.zero_le _)
  · cases hx
    exact ⟨_, (f83z o _).mpr ⟨⟨fun cs h => (by cases h), fun cs h => (by cases h)⟩, loop83z, rfl⟩⟩
  · cases hx
    intro cs hcs
    cases hcs
end
end Go.Ab
set_option maxRecDepth 100000
namespace Go.Ab
open Go Go.RowKit Go.Proofs
theorem f72 (a b : Nat) (o : Nat → Int) (R : ARes → Prop) : (vx.call 72 [.agg ⟨ints 7 o⟩, I a, I b] (retK R) ⟨.nil, 0⟩ ((4, .val (.pointer (.some ⟨((0 : Nat)), ((0 : Nat) + a * (1 : Nat)), .none⟩))) :: (0, .val (I (o a))) :: (5, .val (I (o a / (2 : Int) ^ b))) :: [(1, .split ([]) ((3, .val (.pointer (.some ⟨((0 : Nat)), ((0 : Nat) + b * (1 : Nat)), .none⟩))) :: (0, .val (I (o b))) :: (5, .val (I (o b / (2 : Int) ^ a))) :: [(1, .split ([]) ([]))]))])) =
(((((((0 : Int) ≤ (↑a : Int))) ∧ (((↑a : Int) < (↑(7 : Nat) : Int)))) ∧ (((.pointer (.some ⟨((0 : Nat)), ((0 : Nat) + a * (1 : Nat)), .none⟩)) : Value) = (.pointer (.some ⟨((0 : Nat)), ((0 : Nat) + a * (1 : Nat)), .none⟩)))) ∧
((([Value.int .i64 (o 0), Value.int .i64 (o 1), Value.int .i64 (o 2), Value.int .i64 (o 3), Value.int .i64 (o 4), Value.int .i64 (o 5), Value.int .i64 (o 6)][(0 : Nat) + a * (1 : Nat)]? = some (I (o a)))) ∧
((((((0 : Int) ≤ (↑b : Int))) ∧ (((↑b : Int) ≤ (↑(64 : Nat) : Int)))) ∧ (((I (o a / (2 : Int) ^ b)) : Value) = (I (o a / (2 : Int) ^ b)))) ∧
(((bits BinOp.and IntKind.i64 (o a / (2 : Int) ^ b) (1 : Int) == (1 : Int)) = true → R (.ret (.bool true))) ∧
((bits BinOp.and IntKind.i64 (o a / (2 : Int) ^ b) (1 : Int) == (1 : Int)) = false → ((((((0 : Int) ≤ (↑b : Int))) ∧ (((↑b : Int) < (↑(7 : Nat) : Int)))) ∧ (((.pointer (.some ⟨((0 : Nat)), ((0 : Nat) + b * (1 : Nat)), .none⟩)) : Value) = (.pointer (.some ⟨((0 : Nat)), ((0 : Nat) + b * (1 : Nat)), .none⟩)))) ∧
((([Value.int .i64 (o 0), Value.int .i64 (o 1), Value.int .i64 (o 2), Value.int .i64 (o 3), Value.int .i64 (o 4), Value.int .i64 (o 5), Value.int .i64 (o 6)][(0 : Nat) + b * (1 : Nat)]? = some (I (o b)))) ∧
((((((0 : Int) ≤ (↑a : Int))) ∧ (((↑a : Int) ≤ (↑(64 : Nat) : Int)))) ∧ (((I (o b / (2 : Int) ^ a)) : Value) = (I (o b / (2 : Int) ^ a)))) ∧
(((bits BinOp.and IntKind.i64 (o b / (2 : Int) ^ a) (1 : Int) == (1 : Int)) = true → R (.ret (.bool true))) ∧
((bits BinOp.and IntKind.i64 (o b / (2 : Int) ^ a) (1 : Int) == (1 : Int)) = false → R (.ret (.bool false))))))))))))) := by kernel_rfl
theorem b97 (n m i : Nat) (D : Int) (o : Nat → Int) (R : Nat → AExit → Hw → Prop) : (vx.code none (.l p97) (leafW [T97, R97] R) (T97.inst (st97 o n D m i)) ([(0, .split ((9, .val (I (D / (2 : Int) ^ i))) :: [(1, .split ((5, .con (C72 o i m)) :: [(0, .split ([(3, .tm 1 [])]) ([(4, .tm 0 [])]))]) ([(6, .tm 0 [])]))]) ([(1, .tm 0 [])]))])) =
((((decide ((↑i : Int) < (↑n : Int))) = true → ((((((0 : Int) ≤ (↑i : Int))) ∧ (((↑i : Int) ≤ (↑(64 : Nat) : Int)))) ∧ (((I (D / (2 : Int) ^ i)) : Value) = (I (D / (2 : Int) ^ i)))) ∧
(((bits BinOp.and IntKind.i64 (D / (2 : Int) ^ i) (1 : Int) == (1 : Int)) = true → ((ConOK Try.prog 72 (C72 o i m)) ∧ (Con.pre (C72 o i m) ⟨⟨[(I (o 0)), (I (o 1)), (I (o 2)), (I (o 3)), (I (o 4)), (I (o 5)), (I (o 6)), (I i), (I m)], []⟩, []⟩) ∧
(((!linkB o i m) = true → R 1 .ret ⟨⟨[(.bool false)], []⟩, [], []⟩) ∧
((!linkB o i m) = false → R 0 .normal ⟨⟨[(I D), (I m), (I n), (I (IntKind.i64.wrap ((↑i : Int) + (1 : Int)))), (I (o 0)), (I (o 1)), (I (o 2)), (I (o 3)), (I (o 4)), (I (o 5)), (I (o 6))], []⟩, [], []⟩)))) ∧
((bits BinOp.and IntKind.i64 (D / (2 : Int) ^ i) (1 : Int) == (1 : Int)) = false → R 0 .normal ⟨⟨[(I D), (I m), (I n), (I (IntKind.i64.wrap ((↑i : Int) + (1 : Int)))), (I (o 0)), (I (o 1)), (I (o 2)), (I (o 3)), (I (o 4)), (I (o 5)), (I (o 6))], []⟩, [], []⟩)))) ∧
((decide ((↑i : Int) < (↑n : Int))) = false → R 0 (.exit ((0 : Nat))) ⟨⟨[(I D), (I m), (I n), (I i), (I (o 0)), (I (o 1)), (I (o 2)), (I (o 3)), (I (o 4)), (I (o 5)), (I (o 6))], []⟩, [], []⟩))) := by kernel_rfl
theorem f97t (p : Int) (n c m : Nat) (D : Int) (o : Nat → Int) (R : ARes → Prop) : (vx.call 97 [hV p n c, .agg ⟨ints 7 o⟩, I D, I m] (retK R) ⟨fillX [.dead] 0 .nil, 1⟩ ((9, .loopW T97 (.exit (0 : Nat)) T97 fun x => st97 o n D m n) :: [])) =
(((ClW ⟨⟨[(I D), (I m), (I n), (I 0), (I (o 0)), (I (o 1)), (I (o 2)), (I (o 3)), (I (o 4)), (I (o 5)), (I (o 6))], []⟩, [], []⟩) ∧ (LoopOW Try.prog .none p97 (T97) ⟨⟨[(I D), (I m), (I n), (I 0), (I (o 0)), (I (o 1)), (I (o 2)), (I (o 3)), (I (o 4)), (I (o 5)), (I (o 6))], []⟩, [], []⟩ (.exit ((0 : Nat))) (T97) ⟨⟨[(I D), (I m), (I n), (I n), (I (o 0)), (I (o 1)), (I (o 2)), (I (o 3)), (I (o 4)), (I (o 5)), (I (o 6))], []⟩, [], []⟩) ∧
R (.ret (.bool true)))) := by kernel_rfl
theorem f97f (p : Int) (n c m : Nat) (D : Int) (o : Nat → Int) (R : ARes → Prop) : (vx.call 97 [hV p n c, .agg ⟨ints 7 o⟩, I D, I m] (retK R) ⟨fillX [.dead] 0 .nil, 1⟩ ((9, .loopW T97 AExit.ret R97 fun x => { hs := { vs := [Value.bool false], ns := [] }, ls := [], es := [] }) :: [])) =
(((ClW ⟨⟨[(I D), (I m), (I n), (I 0), (I (o 0)), (I (o 1)), (I (o 2)), (I (o 3)), (I (o 4)), (I (o 5)), (I (o 6))], []⟩, [], []⟩) ∧ (LoopOW Try.prog .none p97 (T97) ⟨⟨[(I D), (I m), (I n), (I 0), (I (o 0)), (I (o 1)), (I (o 2)), (I (o 3)), (I (o 4)), (I (o 5)), (I (o 6))], []⟩, [], []⟩ .ret (R97) ⟨⟨[(.bool false)], []⟩, [], []⟩) ∧
R (.ret (.bool false)))) := by kernel_rfl
theorem C72_ok (o : Nat → Int) (a b : Nat) (ha : a < 7) (hb : b < 7) : ConOK Try.prog 72 (C72 o a b) := by
  refine con_of vx_sound _ (fun x hx => ?_) rfl (fun x _ => rfl) (fun x hx => ?_) rfl (Nat.le_of_ble_eq_true rfl) (by rw [nglob]; exact Nat.zero_le _)
  · cases hx
    have key : ∀ R : ARes → Prop, (∀ v, linkB o a b = v → R (.ret (.bool v))) → ∃ hs, vx.call 72 [.agg ⟨ints 7 o⟩, I a, I b] (retK R) ⟨.nil, 0⟩ hs := fun R hR => by
      refine ⟨_, (f72 a b o R).mpr ⟨⟨⟨by omega, by omega⟩, rfl⟩, ints_get _ ha, ⟨⟨by omega, by omega⟩, rfl⟩, fun h => hR _ ?_, fun h => ⟨⟨⟨by omega, by omega⟩, rfl⟩, ints_get _ hb, ⟨⟨by omega, by omega⟩, rfl⟩, fun h2 => hR _ ?_, fun h2 => hR _ ?_⟩⟩⟩
      · have h : hasI (o a) b = true := h
        simp only [linkB, h, Bool.true_or]
      · have h : hasI (o a) b = false := h
        have h2 : hasI (o b) a = true := h2
        simp only [linkB, h, h2, Bool.false_or]
      · have h : hasI (o a) b = false := h
        have h2 : hasI (o b) a = false := h2
        simp only [linkB, h, h2, Bool.false_or]
    obtain ⟨hs, h⟩ := key (fun r => r = .ret (.bool (linkB o a b))) fun v hv => by rw [hv]
    exact ⟨hs, h⟩
  · cases hx
    intro cs hcs
    cases hcs
section
variable {o : Nat → Int} {n c : Nat} {p : Int}
theorem cl97 (D : Int) (m i : Nat) : ClW (st97 o n D m i) := ⟨fun cs h => (by cases h), fun cs h => (by cases h)⟩
noncomputable def ex97 (o : Nat → Int) (D : Int) (m i : Nat) : Option (AExit × Nat × Hw) := if hasI D i && !linkB o i m then some (.ret, 1, ⟨⟨[.bool false], []⟩, [], []⟩) else none
theorem loop97 (D : Int) (m : Nat) (hn : n ≤ 7) (hm : m < 7) {T1 : Tw} (h1 : [T97, R97][(runX (ex97 o D m) (.exit 0, 0, st97 o n D m n) n 0).2.1]? = some T1) :
    LoopOW Try.prog none p97 T97 (st97 o n D m 0) (runX (ex97 o D m) (.exit 0, 0, st97 o n D m n) n 0).1 T1 (runX (ex97 o D m) (.exit 0, 0, st97 o n D m n) n 0).2.2 := by
  refine loop_untilW (Ts := [T97, R97]) (k := 3) (n := n) (st := fun i => (0, st97 o n D m i)) (e := .exit 0) (ex := ex97 o D m) rfl vx_sound ?_ (by rw [nglob]; omega) ⟨by simp, trivial⟩ (fun i _ => cl97 D m i) (fun i x hi hx => ?_) (fun i hi R h1 h2 => ?_) (fun R hR => ?_) (Nat.zero_le n) rfl (Nat.le_of_ble_eq_true rfl) (by decide) h1
  · intro T hT
    simp only [List.mem_cons, List.not_mem_nil, or_false] at hT
    rcases hT with rfl | rfl <;> rfl
  · unfold ex97 at hx
    split at hx
    · cases hx
      exact ⟨by simp, trivial, fun cs h => (by cases h), fun cs h => (by cases h)⟩
    · cases hx
  · have hw : IntKind.i64.wrap ((i : Int) + 1) = ((i + 1 : Nat) : Int) := wrapI (by omega) (by omega)
    refine ⟨T97, _, rfl, (b97 n m i D o R).mpr ⟨fun _ => ⟨⟨⟨by omega, by omega⟩, rfl⟩, fun hA => ⟨C72_ok o i m (by omega) hm, rfl, fun hB => ?_, fun hB => ?_⟩, fun hA => ?_⟩, fun h => absurd (by omega) (of_decide_eq_false h)⟩⟩
    · have hA : hasI D i = true := hA
      exact h2 (.ret, 1, _) (by simp only [ex97, hA, hB, Bool.true_and, if_true])
    · have hA : hasI D i = true := hA
      rw [hw]
      exact h1 (by simp only [ex97, hA, hB, Bool.true_and, Bool.false_eq_true, if_false])
    · have hA : hasI D i = false := hA
      rw [hw]
      exact h1 (by simp only [ex97, hA, Bool.false_and, Bool.false_eq_true, if_false])
  · exact ⟨T97, _, rfl, (b97 n m n D o R).mpr ⟨fun h => absurd (of_decide_eq_true h) (by omega), fun _ => hR⟩⟩
theorem run97 (D : Int) (m : Nat) (fin : AExit × Nat × Hw) (r : Nat) : ∀ i, runX (ex97 o D m) fin r i = if allFrom (fun k => !(hasI D k && !linkB o k m)) r i then fin else (.ret, 1, ⟨⟨[.bool false], []⟩, [], []⟩) := by
  induction r with
  | zero => intro i; rfl
  | succ r ih =>
    intro i
    simp only [runX, ex97, allFrom]
    by_cases h : (hasI D i && !linkB o i m) = true
    · rw [if_pos h]
      simp only [h, Bool.not_true, Bool.false_and, Bool.false_eq_true, if_false]
    · rw [if_neg h]
      have h2 : (hasI D i && !linkB o i m) = false := by simpa using h
      simp only [h2, Bool.not_false, Bool.true_and]
      exact ih (i + 1)
theorem C97_ok (D : Int) (m : Nat) (hn : n ≤ 7) (hm : m < 7) : ConOK Try.prog 97 (C97 p n c o D m) := by
  refine con_of vx_sound _ (fun x hx => ?_) rfl (fun x _ => rfl) (fun x hx => ?_) rfl (Nat.le_of_ble_eq_true rfl) (by rw [nglob]; exact Nat.zero_le _)
  · cases hx
    have hl := fun T1 => loop97 (o := o) (T1 := T1) D m hn hm
    rw [run97] at hl
    show ∃ hs, vx.call 97 [hV p n c, .agg ⟨ints 7 o⟩, I D, I m] (retK fun r => r = .ret (.bool (fitsF o n D m))) ⟨fillX [.dead] 0 .nil, 1⟩ hs
    unfold fitsF
    cases hb : allFrom (fun k => !(hasI D k && !linkB o k m)) n 0 with
    | true =>
      rw [hb] at hl
      exact ⟨_, (f97t p n c m D o _).mpr ⟨cl97 D m 0, hl T97 rfl, rfl⟩⟩
    | false =>
      rw [hb] at hl
      exact ⟨_, (f97f p n c m D o _).mpr ⟨cl97 D m 0, hl R97 rfl, rfl⟩⟩
  · cases hx
    intro cs hcs
    cases hcs
end
end Go.Ab
set_option maxRecDepth 100000
namespace Go.Ab
open Go Go.RowKit Go.Proofs
theorem b96t (p : Int) (n c many m h : Nat) (o D P : Nat → Int) (Dl Pl Dl2 Pl2 Dl3 Pl3 : List Value) (R : Nat → AExit → Hw → Prop) : (vx.code none (.l p96) (leafW [T96, R96] R) (T96.inst (st96 p n c many o m Dl Pl h)) ([(0, .split ((4, .val (.pointer (.some ⟨((2 : Nat)), ((0 : Nat) + h * (1 : Nat)), .none⟩))) :: (0, .val (I (D h))) :: (5, .con (C97 p n c o (D h) m)) :: [(0, .split ([(3, .tm 0 [])]) ((3, .val (.pointer (.some ⟨((4 : Nat)), ((0 : Nat) + m * (1 : Nat)), .none⟩))) :: (0, .put Pl2) :: (6, .val (I (IntKind.i64.wrap ((1 : Int) * (2 : Int) ^ m)))) :: (2, .con (C74 (D h) (oneI m))) :: (0, .val (.pointer (.some ⟨((2 : Nat)), ((0 : Nat) + h * (1 : Nat)), .none⟩))) :: (0, .put Dl2) :: (3, .conW (CW96 p n c many o (IntKind.i64.wrap ((↑m : Int) + (1 : Int))) Dl2 Pl2 true Dl3 Pl3)) :: [(2, .tm 1 [])]))]) ([(1, .tm 0 [])]))])) =
((((decide ((↑h : Int) < (↑many : Int))) = true → ((((((0 : Int) ≤ (↑h : Int))) ∧ (((↑h : Int) < (↑(7 : Nat) : Int)))) ∧ (((.pointer (.some ⟨((2 : Nat)), ((0 : Nat) + h * (1 : Nat)), .none⟩)) : Value) = (.pointer (.some ⟨((2 : Nat)), ((0 : Nat) + h * (1 : Nat)), .none⟩)))) ∧
(((Dl[(0 : Nat) + h * (1 : Nat)]? = some (I (D h)))) ∧
((ConOK Try.prog 97 (C97 p n c o (D h) m)) ∧ (Con.pre (C97 p n c o (D h) m) ⟨⟨[(I p), (I (o 0)), (I (o 1)), (I (o 2)), (I (o 3)), (I (o 4)), (I (o 5)), (I (o 6)), (I (D h)), (I m)], [⟨n, c⟩]⟩, []⟩) ∧
(((!fitsF o n (D h) m) = true → R 0 .normal ⟨⟨[(I m), (I many), (I (IntKind.i64.wrap ((↑h : Int) + (1 : Int)))), (I p), (I many), (I (o 0)), (I (o 1)), (I (o 2)), (I (o 3)), (I (o 4)), (I (o 5)), (I (o 6))], [⟨n, c⟩]⟩, [(Dl), (Pl)], []⟩) ∧
((!fitsF o n (D h) m) = false → ((((((0 : Int) ≤ (↑m : Int))) ∧ (((↑m : Int) < (↑(7 : Nat) : Int)))) ∧ (((.pointer (.some ⟨((4 : Nat)), ((0 : Nat) + m * (1 : Nat)), .none⟩)) : Value) = (.pointer (.some ⟨((4 : Nat)), ((0 : Nat) + m * (1 : Nat)), .none⟩)))) ∧
(((((0 : Nat) + m * (1 : Nat) + (1 : Nat) ≤ Pl.length)) ∧ ((List.take ((0 : Nat) + m * (1 : Nat)) Pl ++ [Value.int .i64 (↑h : Int)] ++ List.drop ((0 : Nat) + m * (1 : Nat) + (1 : Nat)) Pl = Pl2))) ∧
((((((0 : Int) ≤ (↑m : Int))) ∧ (((↑m : Int) ≤ (↑(64 : Nat) : Int)))) ∧ (((I (IntKind.i64.wrap ((1 : Int) * (2 : Int) ^ m))) : Value) = (I (IntKind.i64.wrap ((1 : Int) * (2 : Int) ^ m))))) ∧
((ConOK Try.prog 74 (C74 (D h) (oneI m))) ∧ (Con.pre (C74 (D h) (oneI m)) ⟨⟨[], [⟨((2 : Nat)), ((2 : Nat))⟩]⟩, [[(I (D h)), (I (IntKind.i64.wrap ((1 : Int) * (2 : Int) ^ m)))]]⟩) ∧
((((((0 : Int) ≤ (↑h : Int))) ∧ (((↑h : Int) < (↑(7 : Nat) : Int)))) ∧ (((.pointer (.some ⟨((2 : Nat)), ((0 : Nat) + h * (1 : Nat)), .none⟩)) : Value) = (.pointer (.some ⟨((2 : Nat)), ((0 : Nat) + h * (1 : Nat)), .none⟩)))) ∧
(((((0 : Nat) + h * (1 : Nat) + (1 : Nat) ≤ Dl.length)) ∧ ((List.take ((0 : Nat) + h * (1 : Nat)) Dl ++ [Value.int .i64 (joinI (D h) (oneI m))] ++ List.drop ((0 : Nat) + h * (1 : Nat) + (1 : Nat)) Dl = Dl2))) ∧
((ConWOK Try.prog (OfNat.ofNat (96 : Nat)) (CW96 p n c many o (IntKind.i64.wrap ((↑m : Int) + (1 : Int))) Dl2 Pl2 true Dl3 Pl3)) ∧ (ConW.pre (CW96 p n c many o (IntKind.i64.wrap ((↑m : Int) + (1 : Int))) Dl2 Pl2 true Dl3 Pl3) ⟨⟨[(I (IntKind.i64.wrap ((↑m : Int) + (1 : Int)))), (I p), (I many), (I (o 0)), (I (o 1)), (I (o 2)), (I (o 3)), (I (o 4)), (I (o 5)), (I (o 6))], [⟨n, c⟩]⟩, [(Dl2), (Pl2)], []⟩) ∧
R 1 .ret ⟨⟨[(.bool true)], []⟩, [(Dl3), (Pl3)], []⟩))))))))))))) ∧
((decide ((↑h : Int) < (↑many : Int))) = false → R 0 (.exit ((0 : Nat))) ⟨⟨[(I m), (I many), (I h), (I p), (I many), (I (o 0)), (I (o 1)), (I (o 2)), (I (o 3)), (I (o 4)), (I (o 5)), (I (o 6))], [⟨n, c⟩]⟩, [(Dl), (Pl)], []⟩))) := by kernel_rfl
theorem b96f (p : Int) (n c many m h : Nat) (o D P : Nat → Int) (Dl Pl Dl2 Pl2 Dl3 Pl3 Dl4 : List Value) (R : Nat → AExit → Hw → Prop) : (vx.code none (.l p96) (leafW [T96, R96] R) (T96.inst (st96 p n c many o m Dl Pl h)) ([(0, .split ((4, .val (.pointer (.some ⟨((2 : Nat)), ((0 : Nat) + h * (1 : Nat)), .none⟩))) :: (0, .val (I (D h))) :: (5, .con (C97 p n c o (D h) m)) :: [(0, .split ([(3, .tm 0 [])]) ((3, .val (.pointer (.some ⟨((4 : Nat)), ((0 : Nat) + m * (1 : Nat)), .none⟩))) :: (0, .put Pl2) :: (6, .val (I (IntKind.i64.wrap ((1 : Int) * (2 : Int) ^ m)))) :: (2, .con (C74 (D h) (oneI m))) :: (0, .val (.pointer (.some ⟨((2 : Nat)), ((0 : Nat) + h * (1 : Nat)), .none⟩))) :: (0, .put Dl2) :: (3, .conW (CW96 p n c many o (IntKind.i64.wrap ((↑m : Int) + (1 : Int))) Dl2 Pl2 false Dl3 Pl3)) :: (3, .val (.pointer (.some ⟨((2 : Nat)), ((0 : Nat) + h * (1 : Nat)), .none⟩))) :: (0, .put Dl4) :: [(2, .tm 0 [])]))]) ([(1, .tm 0 [])]))])) =
((((decide ((↑h : Int) < (↑many : Int))) = true → ((((((0 : Int) ≤ (↑h : Int))) ∧ (((↑h : Int) < (↑(7 : Nat) : Int)))) ∧ (((.pointer (.some ⟨((2 : Nat)), ((0 : Nat) + h * (1 : Nat)), .none⟩)) : Value) = (.pointer (.some ⟨((2 : Nat)), ((0 : Nat) + h * (1 : Nat)), .none⟩)))) ∧
(((Dl[(0 : Nat) + h * (1 : Nat)]? = some (I (D h)))) ∧
((ConOK Try.prog 97 (C97 p n c o (D h) m)) ∧ (Con.pre (C97 p n c o (D h) m) ⟨⟨[(I p), (I (o 0)), (I (o 1)), (I (o 2)), (I (o 3)), (I (o 4)), (I (o 5)), (I (o 6)), (I (D h)), (I m)], [⟨n, c⟩]⟩, []⟩) ∧
(((!fitsF o n (D h) m) = true → R 0 .normal ⟨⟨[(I m), (I many), (I (IntKind.i64.wrap ((↑h : Int) + (1 : Int)))), (I p), (I many), (I (o 0)), (I (o 1)), (I (o 2)), (I (o 3)), (I (o 4)), (I (o 5)), (I (o 6))], [⟨n, c⟩]⟩, [(Dl), (Pl)], []⟩) ∧
((!fitsF o n (D h) m) = false → ((((((0 : Int) ≤ (↑m : Int))) ∧ (((↑m : Int) < (↑(7 : Nat) : Int)))) ∧ (((.pointer (.some ⟨((4 : Nat)), ((0 : Nat) + m * (1 : Nat)), .none⟩)) : Value) = (.pointer (.some ⟨((4 : Nat)), ((0 : Nat) + m * (1 : Nat)), .none⟩)))) ∧
(((((0 : Nat) + m * (1 : Nat) + (1 : Nat) ≤ Pl.length)) ∧ ((List.take ((0 : Nat) + m * (1 : Nat)) Pl ++ [Value.int .i64 (↑h : Int)] ++ List.drop ((0 : Nat) + m * (1 : Nat) + (1 : Nat)) Pl = Pl2))) ∧
((((((0 : Int) ≤ (↑m : Int))) ∧ (((↑m : Int) ≤ (↑(64 : Nat) : Int)))) ∧ (((I (IntKind.i64.wrap ((1 : Int) * (2 : Int) ^ m))) : Value) = (I (IntKind.i64.wrap ((1 : Int) * (2 : Int) ^ m))))) ∧
((ConOK Try.prog 74 (C74 (D h) (oneI m))) ∧ (Con.pre (C74 (D h) (oneI m)) ⟨⟨[], [⟨((2 : Nat)), ((2 : Nat))⟩]⟩, [[(I (D h)), (I (IntKind.i64.wrap ((1 : Int) * (2 : Int) ^ m)))]]⟩) ∧
((((((0 : Int) ≤ (↑h : Int))) ∧ (((↑h : Int) < (↑(7 : Nat) : Int)))) ∧ (((.pointer (.some ⟨((2 : Nat)), ((0 : Nat) + h * (1 : Nat)), .none⟩)) : Value) = (.pointer (.some ⟨((2 : Nat)), ((0 : Nat) + h * (1 : Nat)), .none⟩)))) ∧
(((((0 : Nat) + h * (1 : Nat) + (1 : Nat) ≤ Dl.length)) ∧ ((List.take ((0 : Nat) + h * (1 : Nat)) Dl ++ [Value.int .i64 (joinI (D h) (oneI m))] ++ List.drop ((0 : Nat) + h * (1 : Nat) + (1 : Nat)) Dl = Dl2))) ∧
((ConWOK Try.prog (OfNat.ofNat (96 : Nat)) (CW96 p n c many o (IntKind.i64.wrap ((↑m : Int) + (1 : Int))) Dl2 Pl2 false Dl3 Pl3)) ∧ (ConW.pre (CW96 p n c many o (IntKind.i64.wrap ((↑m : Int) + (1 : Int))) Dl2 Pl2 false Dl3 Pl3) ⟨⟨[(I (IntKind.i64.wrap ((↑m : Int) + (1 : Int)))), (I p), (I many), (I (o 0)), (I (o 1)), (I (o 2)), (I (o 3)), (I (o 4)), (I (o 5)), (I (o 6))], [⟨n, c⟩]⟩, [(Dl2), (Pl2)], []⟩) ∧
((((((0 : Int) ≤ (↑h : Int))) ∧ (((↑h : Int) < (↑(7 : Nat) : Int)))) ∧ (((.pointer (.some ⟨((2 : Nat)), ((0 : Nat) + h * (1 : Nat)), .none⟩)) : Value) = (.pointer (.some ⟨((2 : Nat)), ((0 : Nat) + h * (1 : Nat)), .none⟩)))) ∧
(((((0 : Nat) + h * (1 : Nat) + (1 : Nat) ≤ Dl3.length)) ∧ ((List.take ((0 : Nat) + h * (1 : Nat)) Dl3 ++ [Value.int .i64 (D h)] ++ List.drop ((0 : Nat) + h * (1 : Nat) + (1 : Nat)) Dl3 = Dl4))) ∧
R 0 .normal ⟨⟨[(I m), (I many), (I (IntKind.i64.wrap ((↑h : Int) + (1 : Int)))), (I p), (I many), (I (o 0)), (I (o 1)), (I (o 2)), (I (o 3)), (I (o 4)), (I (o 5)), (I (o 6))], [⟨n, c⟩]⟩, [(Dl4), (Pl3)], []⟩))))))))))))))) ∧
((decide ((↑h : Int) < (↑many : Int))) = false → R 0 (.exit ((0 : Nat))) ⟨⟨[(I m), (I many), (I h), (I p), (I many), (I (o 0)), (I (o 1)), (I (o 2)), (I (o 3)), (I (o 4)), (I (o 5)), (I (o 6))], [⟨n, c⟩]⟩, [(Dl), (Pl)], []⟩))) := by kernel_rfl
theorem f96t (p : Int) (n c many m : Nat) (o : Nat → Int) (Dl Pl Dl2 Pl2 : List Value) (R : ARes → List WB → Prop) : (vx.call 96 [I m, pN 0, pN 1, pN 2, pN 3, pN 4, pN 5] (retW bs96 R) (m96 p n c many o Dl Pl) ([(7, .split ([]) ((3, .loopW T96 AExit.ret R96 fun x => { hs := { vs := [Value.bool true], ns := [] }, ls := [Dl2, Pl2], es := [] }) :: []))])) =
(((((↑m : Int) == (↑n : Int)) = true → R (.ret (.bool true)) [(.lst (Dl)), (.lst (Pl))]) ∧
(((↑m : Int) == (↑n : Int)) = false → ((ClW ⟨⟨[(I m), (I many), (I 0), (I p), (I many), (I (o 0)), (I (o 1)), (I (o 2)), (I (o 3)), (I (o 4)), (I (o 5)), (I (o 6))], [⟨n, c⟩]⟩, [(Dl), (Pl)], []⟩) ∧ (LoopOW Try.prog .none p96 (T96) ⟨⟨[(I m), (I many), (I 0), (I p), (I many), (I (o 0)), (I (o 1)), (I (o 2)), (I (o 3)), (I (o 4)), (I (o 5)), (I (o 6))], [⟨n, c⟩]⟩, [(Dl), (Pl)], []⟩ .ret (R96) ⟨⟨[(.bool true)], []⟩, [(Dl2), (Pl2)], []⟩) ∧
R (.ret (.bool true)) [(.lst (Dl2)), (.lst (Pl2))])))) := by kernel_rfl
theorem f96f (p : Int) (n c many m : Nat) (o : Nat → Int) (Dl Pl Dl2 Pl2 : List Value) (R : ARes → List WB → Prop) : (vx.call 96 [I m, pN 0, pN 1, pN 2, pN 3, pN 4, pN 5] (retW bs96 R) (m96 p n c many o Dl Pl) ([(7, .split ([]) ((3, .loopW T96 (.exit (0 : Nat)) T96 fun x => st96 p n c many o m Dl2 Pl2 many) :: []))])) =
(((((↑m : Int) == (↑n : Int)) = true → R (.ret (.bool true)) [(.lst (Dl)), (.lst (Pl))]) ∧
(((↑m : Int) == (↑n : Int)) = false → ((ClW ⟨⟨[(I m), (I many), (I 0), (I p), (I many), (I (o 0)), (I (o 1)), (I (o 2)), (I (o 3)), (I (o 4)), (I (o 5)), (I (o 6))], [⟨n, c⟩]⟩, [(Dl), (Pl)], []⟩) ∧ (LoopOW Try.prog .none p96 (T96) ⟨⟨[(I m), (I many), (I 0), (I p), (I many), (I (o 0)), (I (o 1)), (I (o 2)), (I (o 3)), (I (o 4)), (I (o 5)), (I (o 6))], [⟨n, c⟩]⟩, [(Dl), (Pl)], []⟩ (.exit ((0 : Nat))) (T96) ⟨⟨[(I m), (I many), (I many), (I p), (I many), (I (o 0)), (I (o 1)), (I (o 2)), (I (o 3)), (I (o 4)), (I (o 5)), (I (o 6))], [⟨n, c⟩]⟩, [(Dl2), (Pl2)], []⟩) ∧
R (.ret (.bool false)) [(.lst (Dl2)), (.lst (Pl2))])))) := by kernel_rfl
section
variable (p : Int) (o : Nat → Int) (n c many : Nat)
noncomputable def nats (g : Nat → Nat) : List Value := ints 7 fun i => (g i : Int)
def fitsN (D m : Nat) : Bool := fitsF o n (D : Int) m
noncomputable def stG (m h : Nat) (σ : Gs) : Hw := st96 p n c many o m (nats σ.D) (nats σ.P) h
noncomputable def outG (m h : Nat) (x : Bool × Gs) : AExit × Nat × Hw := match x with
  | (true, σ) => (.ret, 1, ⟨⟨[.bool true], []⟩, [nats σ.D, nats σ.P], []⟩)
  | (false, σ) => (.exit 0, 0, stG p o n c many m h σ)
noncomputable def C96 (m : Nat) (σ : Gs) (r : Bool × Gs) : ConW := CW96 p n c many o m (nats σ.D) (nats σ.P) r.1 (nats r.2.D) (nats r.2.P)
variable {p o n c many}
theorem nats_at (g : Nat → Nat) : ∀ v ∈ nats g, atomic v = true := ints_atoms 7 (fun i => (g i : Int)) _ List.mem_cons_self
theorem nats_get (g : Nat → Nat) {i : Nat} (h : i < 7) : (nats g)[0 + i * 1]? = some (I (g i : Nat)) := ints_get _ h
theorem nats_len (g : Nat → Nat) : (nats g).length = 7 := ints_len 7 _
theorem nats_put (g : Nat → Nat) {i : Nat} (v : Nat) (h : i < 7) : (nats g).take (0 + i * 1) ++ [I (v : Nat)] ++ (nats g).drop (0 + i * 1 + 1) = nats (updN g i v) := by
  unfold nats
  rw [ints_put _ _ h]
  congr 1
  funext k
  simp only [updF, updN]
  split <;> rfl
theorem clG (m h : Nat) (σ : Gs) : ClW (stG p o n c many m h σ) := by
  refine ⟨fun cs hcs v hv => ?_, fun es hes => (by cases hes)⟩
  simp only [stG, st96, List.mem_cons, List.not_mem_nil, or_false] at hcs
  rcases hcs with rfl | rfl <;> exact nats_at _ v hv
theorem clGR (D P : Nat → Nat) : ClW ⟨⟨[.bool true], []⟩, [nats D, nats P], []⟩ := by
  refine ⟨fun cs hcs v hv => ?_, fun es hes => (by cases hes)⟩
  simp only [List.mem_cons, List.not_mem_nil, or_false] at hcs
  rcases hcs with rfl | rfl <;> exact nats_at _ v hv
theorem round96 (hn : n ≤ 7) (hmany : many ≤ 7) {k m h : Nat} {σ : Gs} (hm : m < n) (hσ : GsOK σ)
    (ih : ∀ σ, GsOK σ → ConWOK Try.prog 96 (C96 p o n c many (m + 1) σ (giveF (fitsN o n) n many k (m + 1) σ)))
    {R : Nat → AExit → Hw → Prop}
    (h1 : h < many → ∀ σ', GsOK σ' → giveH (fitsN o n) (giveF (fitsN o n) n many k (m + 1)) m (many - h) h σ = giveH (fitsN o n) (giveF (fitsN o n) n many k (m + 1)) m (many - (h + 1)) (h + 1) σ' → R 0 .normal (stG p o n c many m (h + 1) σ'))
    (h2 : h < many → ∀ σ', giveH (fitsN o n) (giveF (fitsN o n) n many k (m + 1)) m (many - h) h σ = (true, σ') → R 1 .ret ⟨⟨[.bool true], []⟩, [nats σ'.D, nats σ'.P], []⟩)
    (h3 : ¬ h < many → R 0 (.exit 0) (stG p o n c many m h σ)) :
    ∃ hs, vx.code none (.l p96) (leafW [T96, R96] R) (T96.inst (stG p o n c many m h σ)) hs := by
  by_cases hh : h < many
  · have hw : IntKind.i64.wrap ((h : Int) + 1) = ((h + 1 : Nat) : Int) := wrapI (by omega) (by omega)
    have hwm : IntKind.i64.wrap ((m : Int) + 1) = ((m + 1 : Nat) : Int) := wrapI (by omega) (by omega)
    have e1 : many - h = (many - (h + 1)) + 1 := by omega
    have hj := joinT (σ.D h) m (hσ h) (by omega)
    have h97 := C97_ok (p := p) (c := c) (o := o) (n := n) (σ.D h : Nat) m hn (by omega)
    rw [e1] at h1 h2
    have L1 : (!fitsF o n (σ.D h : Nat) m) = true → R 0 .normal (stG p o n c many m (h + 1) σ) := fun hf => h1 hh σ hσ (giveH_skip (by
      show fitsF o n (σ.D h : Nat) m = false
      cases hx : fitsF o n (σ.D h : Nat) m with
      | false => rfl
      | true => rw [hx] at hf; cases hf))
    have fitT : (!fitsF o n (σ.D h : Nat) m) = false → fitsN o n (σ.D h) m = true := fun hf => by
      show fitsF o n (σ.D h : Nat) m = true
      cases hx : fitsF o n (σ.D h : Nat) m with
      | true => rfl
      | false => rw [hx] at hf; cases hf
    have hadd : GsOK ⟨updN σ.D h (σ.D h ||| 2 ^ m), updN σ.P m h⟩ := hσ.add (by omega) _
    have hC := ih _ hadd
    have hS := giveF_ok (fits := fitsN o n) (many := many) hn k (m + 1) ⟨updN σ.D h (σ.D h ||| 2 ^ m), updN σ.P m h⟩ (by omega) hadd
    generalize hr : giveF (fitsN o n) n many k (m + 1) ⟨updN σ.D h (σ.D h ||| 2 ^ m), updN σ.P m h⟩ = r at hC hS
    obtain ⟨rb, σ'⟩ := r
    have hPl : List.take (0 + m * 1) (nats σ.P) ++ [I (h : Nat)] ++ List.drop (0 + m * 1 + 1) (nats σ.P) = nats (updN σ.P m h) := nats_put _ _ (by omega)
    have hDl : List.take (0 + h * 1) (nats σ.D) ++ [I (joinI (σ.D h : Nat) (oneI m))] ++ List.drop (0 + h * 1 + 1) (nats σ.D) = nats (updN σ.D h (σ.D h ||| 2 ^ m)) := by
      rw [hj]; exact nats_put _ _ (by omega)
    simp only [C96] at hC
    rw [← hwm] at hC
    cases rb with
    | true =>
      refine ⟨_, (b96t p n c many m h o (fun i => (σ.D i : Int)) (fun i => (σ.P i : Int)) (nats σ.D) (nats σ.P) (nats (updN σ.D h (σ.D h ||| 2 ^ m))) (nats (updN σ.P m h)) (nats σ'.D) (nats σ'.P) R).mpr ⟨fun _ => ?_, fun h => absurd (by omega) (of_decide_eq_false h)⟩⟩
      refine ⟨⟨⟨by omega, by omega⟩, rfl⟩, nats_get _ (by omega), h97, rfl, fun hf => ?_, fun hf => ?_⟩
      · rw [hw]; exact L1 hf
      · exact ⟨⟨⟨by omega, by omega⟩, rfl⟩, ⟨by rw [nats_len]; omega, hPl⟩, ⟨⟨by omega, by omega⟩, rfl⟩, C74_ok _ _, rfl, ⟨⟨by omega, by omega⟩, rfl⟩, ⟨by rw [nats_len]; omega, hDl⟩, hC, rfl, h2 hh σ' (giveH_true (fitT hf) hr)⟩
    | false =>
      have hDl4 : List.take (0 + h * 1) (nats σ'.D) ++ [I (σ.D h : Nat)] ++ List.drop (0 + h * 1 + 1) (nats σ'.D) = nats (updN σ'.D h (σ.D h)) := nats_put _ _ (by omega)
      refine ⟨_, (b96f p n c many m h o (fun i => (σ.D i : Int)) (fun i => (σ.P i : Int)) (nats σ.D) (nats σ.P) (nats (updN σ.D h (σ.D h ||| 2 ^ m))) (nats (updN σ.P m h)) (nats σ'.D) (nats σ'.P) (nats (updN σ'.D h (σ.D h))) R).mpr ⟨fun _ => ?_, fun h => absurd (by omega) (of_decide_eq_false h)⟩⟩
      refine ⟨⟨⟨by omega, by omega⟩, rfl⟩, nats_get _ (by omega), h97, rfl, fun hf => ?_, fun hf => ?_⟩
      · rw [hw]; exact L1 hf
      · refine ⟨⟨⟨by omega, by omega⟩, rfl⟩, ⟨by rw [nats_len]; omega, hPl⟩, ⟨⟨by omega, by omega⟩, rfl⟩, C74_ok _ _, rfl, ⟨⟨by omega, by omega⟩, rfl⟩, ⟨by rw [nats_len]; omega, hDl⟩, hC, rfl, ⟨⟨by omega, by omega⟩, rfl⟩, ⟨by rw [nats_len]; omega, hDl4⟩, ?_⟩
        rw [hw]
        exact h1 hh _ (hS.upd (hσ h) _) (giveH_false (fitT hf) hr)
  · refine ⟨_, (b96t p n c many m h o (fun i => (σ.D i : Int)) (fun i => (σ.P i : Int)) (nats σ.D) (nats σ.P) [] [] [] [] R).mpr ⟨fun h => absurd (of_decide_eq_true h) (by omega), fun _ => h3 hh⟩⟩
theorem loop96 (hn : n ≤ 7) (hmany : many ≤ 7) {k m : Nat} {σ : Gs} (hm : m < n) (hσ : GsOK σ)
    (ih : ∀ σ, GsOK σ → ConWOK Try.prog 96 (C96 p o n c many (m + 1) σ (giveF (fitsN o n) n many k (m + 1) σ)))
    {T' : Tw} (hT' : [T96, R96][(outG p o n c many m many (giveH (fitsN o n) (giveF (fitsN o n) n many k (m + 1)) m many 0 σ)).2.1]? = some T') :
    LoopOW Try.prog none p96 T96 (stG p o n c many m 0 σ) (outG p o n c many m many (giveH (fitsN o n) (giveF (fitsN o n) n many k (m + 1)) m many 0 σ)).1 T' (outG p o n c many m many (giveH (fitsN o n) (giveF (fitsN o n) n many k (m + 1)) m many 0 σ)).2.2 := by
  refine loop_vcW (Ts := [T96, R96]) (k := 7) (X := Nat × Gs) (inv := fun x => x.1 ≤ many ∧ GsOK x.2) (μ := fun x => many - x.1) (st := fun x => (0, stG p o n c many m x.1 x.2))
    (out := fun x => outG p o n c many m many (giveH (fitsN o n) (giveF (fitsN o n) n many k (m + 1)) m (many - x.1) x.1 x.2)) rfl vx_sound ?_ (by rw [nglob]; omega) (fun x hx => ?_) (x := (0, σ)) ⟨Nat.zero_le many, hσ⟩ rfl (Nat.le_of_ble_eq_true rfl) (by decide) hT'
  · intro T hT
    simp only [List.mem_cons, List.not_mem_nil, or_false] at hT
    rcases hT with rfl | rfl <;> rfl
  · obtain ⟨h, σ⟩ := x
    obtain ⟨hh, hσ⟩ := hx
    obtain ⟨hs, hr⟩ := round96 (h := h) hn hmany hm hσ ih (R := RoundW (fun x : Nat × Gs => x.1 ≤ many ∧ GsOK x.2) (fun x => many - x.1) (fun x => (0, stG p o n c many m x.1 x.2)) (fun x => outG p o n c many m many (giveH (fitsN o n) (giveF (fitsN o n) n many k (m + 1)) m (many - x.1) x.1 x.2)) (h, σ))
      (fun hlt σ' q1 q2 => ⟨⟨clG m _ _, trivial⟩, .inl ⟨rfl, (h + 1, σ'), ⟨hlt, q1⟩, by show many - (h + 1) < many - h; omega, rfl, by show outG p o n c many m many (giveH (fitsN o n) (giveF (fitsN o n) n many k (m + 1)) m (many - (h + 1)) (h + 1) σ') = outG p o n c many m many (giveH (fitsN o n) (giveF (fitsN o n) n many k (m + 1)) m (many - h) h σ); rw [q2]⟩⟩)
      (fun hlt σ' q1 => ⟨⟨clGR _ _, trivial⟩, .inr ⟨by simp, by show outG p o n c many m many (giveH (fitsN o n) (giveF (fitsN o n) n many k (m + 1)) m (many - h) h σ) = _; rw [q1]; rfl⟩⟩)
      (fun hge => ⟨⟨clG m _ _, trivial⟩, .inr ⟨by simp, by
        have e : h = many := by have h9 : h ≤ many := hh; omega
        subst e
        show outG p o n c h m h (giveH (fitsN o n) (giveF (fitsN o n) n h k (m + 1)) m (h - h) h σ) = _
        rw [Nat.sub_self]
        rfl⟩⟩)
    exact ⟨T96, hs, rfl, hr⟩
theorem C96_ok (hn : n ≤ 7) (hmany : many ≤ 7) (k : Nat) : ∀ m σ, m ≤ n → n - m < k → GsOK σ → ConWOK Try.prog 96 (C96 p o n c many m σ (giveF (fitsN o n) n many k m σ)) := by
  induction k with
  | zero => intro m σ _ h; omega
  | succ k ih =>
    intro m σ hm hk hσ
    refine conW_of vx_sound (callable 96 _ _ rfl rfl) (fun x hx => ?_) (fun x _ => ⟨rfl, fun b hb => ?_⟩) (fun x hx => ?_) (Nat.le_of_ble_eq_true rfl) (by rw [nglob]; exact Nat.zero_le _)
    · cases hx
      by_cases he : m = n
      · have hg : giveF (fitsN o n) n many (k + 1) m σ = (true, σ) := by simp only [giveF, if_pos he]
        rw [hg]
        refine ⟨_, (f96t p n c many m o (nats σ.D) (nats σ.P) [] [] _).mpr ⟨fun _ => ⟨rfl, rfl⟩, fun h => absurd h (by simp [he])⟩⟩
      · have hg : giveF (fitsN o n) n many (k + 1) m σ = giveH (fitsN o n) (giveF (fitsN o n) n many k (m + 1)) m many 0 σ := by simp only [giveF, if_neg he]
        have hne : ¬ ((m : Int) == (n : Int)) = true := by simp; omega
        have hl := fun T' => loop96 (T' := T') (p := p) (c := c) hn hmany (k := k) (m := m) (σ := σ) (by omega) hσ (fun σ hσ => ih (m + 1) σ (by omega) (by omega) hσ)
        rw [hg]
        generalize giveH (fitsN o n) (giveF (fitsN o n) n many k (m + 1)) m many 0 σ = r at hl
        obtain ⟨b, σ'⟩ := r
        cases b with
        | true => exact ⟨_, (f96t p n c many m o (nats σ.D) (nats σ.P) (nats σ'.D) (nats σ'.P) _).mpr ⟨fun h => absurd h hne, fun _ => ⟨clG m 0 σ, hl R96 rfl, rfl, rfl⟩⟩⟩
        | false => exact ⟨_, (f96f p n c many m o (nats σ.D) (nats σ.P) (nats σ'.D) (nats σ'.P) _).mpr ⟨fun h => absurd h hne, fun _ => ⟨clG m 0 σ, hl T96 rfl, rfl, rfl⟩⟩⟩
    · simp only [C96, CW96, List.mem_cons, List.not_mem_nil, or_false] at hb
      rcases hb with rfl | rfl <;> exact nats_at _
    · cases hx
      exact ⟨fun cs hcs v hv => by
        simp only [List.mem_cons, List.not_mem_nil, or_false] at hcs
        rcases hcs with rfl | rfl <;> exact nats_at _ v hv, fun es hes => by cases hes⟩
end
end Go.Ab
set_option maxRecDepth 100000
namespace Go.Ab
open Go Go.RowKit Go.Proofs
def popI (x : Int) : Int := bits BinOp.and IntKind.i64 (IntKind.i64.wrap (IntKind.u64.wrap (IntKind.u64.wrap (IntKind.u64.wrap (bits BinOp.and IntKind.u64 (IntKind.u64.wrap (IntKind.u64.wrap (bits BinOp.and IntKind.u64 (IntKind.u64.wrap (bits BinOp.and IntKind.u64 (IntKind.u64.wrap x / (2 : Int) ^ (1 : Nat)) (6148914691236517205 : Int) + bits BinOp.and IntKind.u64 (IntKind.u64.wrap x) (6148914691236517205 : Int)) / (2 : Int) ^ (2 : Nat)) (3689348814741910323 : Int) + bits BinOp.and IntKind.u64 (IntKind.u64.wrap (bits BinOp.and IntKind.u64 (IntKind.u64.wrap x / (2 : Int) ^ (1 : Nat)) (6148914691236517205 : Int) + bits BinOp.and IntKind.u64 (IntKind.u64.wrap x) (6148914691236517205 : Int))) (3689348814741910323 : Int)) / (2 : Int) ^ (4 : Nat) + IntKind.u64.wrap (bits BinOp.and IntKind.u64 (IntKind.u64.wrap (bits BinOp.and IntKind.u64 (IntKind.u64.wrap x / (2 : Int) ^ (1 : Nat)) (6148914691236517205 : Int) + bits BinOp.and IntKind.u64 (IntKind.u64.wrap x) (6148914691236517205 : Int)) / (2 : Int) ^ (2 : Nat)) (3689348814741910323 : Int) + bits BinOp.and IntKind.u64 (IntKind.u64.wrap (bits BinOp.and IntKind.u64 (IntKind.u64.wrap x / (2 : Int) ^ (1 : Nat)) (6148914691236517205 : Int) + bits BinOp.and IntKind.u64 (IntKind.u64.wrap x) (6148914691236517205 : Int))) (3689348814741910323 : Int)))) (1085102592571150095 : Int) + bits BinOp.and IntKind.u64 (IntKind.u64.wrap (IntKind.u64.wrap (bits BinOp.and IntKind.u64 (IntKind.u64.wrap (bits BinOp.and IntKind.u64 (IntKind.u64.wrap x / (2 : Int) ^ (1 : Nat)) (6148914691236517205 : Int) + bits BinOp.and IntKind.u64 (IntKind.u64.wrap x) (6148914691236517205 : Int)) / (2 : Int) ^ (2 : Nat)) (3689348814741910323 : Int) + bits BinOp.and IntKind.u64 (IntKind.u64.wrap (bits BinOp.and IntKind.u64 (IntKind.u64.wrap x / (2 : Int) ^ (1 : Nat)) (6148914691236517205 : Int) + bits BinOp.and IntKind.u64 (IntKind.u64.wrap x) (6148914691236517205 : Int))) (3689348814741910323 : Int)) / (2 : Int) ^ (4 : Nat) + IntKind.u64.wrap (bits BinOp.and IntKind.u64 (IntKind.u64.wrap (bits BinOp.and IntKind.u64 (IntKind.u64.wrap x / (2 : Int) ^ (1 : Nat)) (6148914691236517205 : Int) + bits BinOp.and IntKind.u64 (IntKind.u64.wrap x) (6148914691236517205 : Int)) / (2 : Int) ^ (2 : Nat)) (3689348814741910323 : Int) + bits BinOp.and IntKind.u64 (IntKind.u64.wrap (bits BinOp.and IntKind.u64 (IntKind.u64.wrap x / (2 : Int) ^ (1 : Nat)) (6148914691236517205 : Int) + bits BinOp.and IntKind.u64 (IntKind.u64.wrap x) (6148914691236517205 : Int))) (3689348814741910323 : Int)))) (1085102592571150095 : Int) / (2 : Int) ^ (8 : Nat)) + IntKind.u64.wrap (bits BinOp.and IntKind.u64 (IntKind.u64.wrap (IntKind.u64.wrap (bits BinOp.and IntKind.u64 (IntKind.u64.wrap (bits BinOp.and IntKind.u64 (IntKind.u64.wrap x / (2 : Int) ^ (1 : Nat)) (6148914691236517205 : Int) + bits BinOp.and IntKind.u64 (IntKind.u64.wrap x) (6148914691236517205 : Int)) / (2 : Int) ^ (2 : Nat)) (3689348814741910323 : Int) + bits BinOp.and IntKind.u64 (IntKind.u64.wrap (bits BinOp.and IntKind.u64 (IntKind.u64.wrap x / (2 : Int) ^ (1 : Nat)) (6148914691236517205 : Int) + bits BinOp.and IntKind.u64 (IntKind.u64.wrap x) (6148914691236517205 : Int))) (3689348814741910323 : Int)) / (2 : Int) ^ (4 : Nat) + IntKind.u64.wrap (bits BinOp.and IntKind.u64 (IntKind.u64.wrap (bits BinOp.and IntKind.u64 (IntKind.u64.wrap x / (2 : Int) ^ (1 : Nat)) (6148914691236517205 : Int) + bits BinOp.and IntKind.u64 (IntKind.u64.wrap x) (6148914691236517205 : Int)) / (2 : Int) ^ (2 : Nat)) (3689348814741910323 : Int) + bits BinOp.and IntKind.u64 (IntKind.u64.wrap (bits BinOp.and IntKind.u64 (IntKind.u64.wrap x / (2 : Int) ^ (1 : Nat)) (6148914691236517205 : Int) + bits BinOp.and IntKind.u64 (IntKind.u64.wrap x) (6148914691236517205 : Int))) (3689348814741910323 : Int)))) (1085102592571150095 : Int) + bits BinOp.and IntKind.u64 (IntKind.u64.wrap (IntKind.u64.wrap (bits BinOp.and IntKind.u64 (IntKind.u64.wrap (bits BinOp.and IntKind.u64 (IntKind.u64.wrap x / (2 : Int) ^ (1 : Nat)) (6148914691236517205 : Int) + bits BinOp.and IntKind.u64 (IntKind.u64.wrap x) (6148914691236517205 : Int)) / (2 : Int) ^ (2 : Nat)) (3689348814741910323 : Int) + bits BinOp.and IntKind.u64 (IntKind.u64.wrap (bits BinOp.and IntKind.u64 (IntKind.u64.wrap x / (2 : Int) ^ (1 : Nat)) (6148914691236517205 : Int) + bits BinOp.and IntKind.u64 (IntKind.u64.wrap x) (6148914691236517205 : Int))) (3689348814741910323 : Int)) / (2 : Int) ^ (4 : Nat) + IntKind.u64.wrap (bits BinOp.and IntKind.u64 (IntKind.u64.wrap (bits BinOp.and IntKind.u64 (IntKind.u64.wrap x / (2 : Int) ^ (1 : Nat)) (6148914691236517205 : Int) + bits BinOp.and IntKind.u64 (IntKind.u64.wrap x) (6148914691236517205 : Int)) / (2 : Int) ^ (2 : Nat)) (3689348814741910323 : Int) + bits BinOp.and IntKind.u64 (IntKind.u64.wrap (bits BinOp.and IntKind.u64 (IntKind.u64.wrap x / (2 : Int) ^ (1 : Nat)) (6148914691236517205 : Int) + bits BinOp.and IntKind.u64 (IntKind.u64.wrap x) (6148914691236517205 : Int))) (3689348814741910323 : Int)))) (1085102592571150095 : Int) / (2 : Int) ^ (8 : Nat)) / (2 : Int) ^ (16 : Nat)) + IntKind.u64.wrap (IntKind.u64.wrap (bits BinOp.and IntKind.u64 (IntKind.u64.wrap (IntKind.u64.wrap (bits BinOp.and IntKind.u64 (IntKind.u64.wrap (bits BinOp.and IntKind.u64 (IntKind.u64.wrap x / (2 : Int) ^ (1 : Nat)) (6148914691236517205 : Int) + bits BinOp.and IntKind.u64 (IntKind.u64.wrap x) (6148914691236517205 : Int)) / (2 : Int) ^ (2 : Nat)) (3689348814741910323 : Int) + bits BinOp.and IntKind.u64 (IntKind.u64.wrap (bits BinOp.and IntKind.u64 (IntKind.u64.wrap x / (2 : Int) ^ (1 : Nat)) (6148914691236517205 : Int) + bits BinOp.and IntKind.u64 (IntKind.u64.wrap x) (6148914691236517205 : Int))) (3689348814741910323 : Int)) / (2 : Int) ^ (4 : Nat) + IntKind.u64.wrap (bits BinOp.and IntKind.u64 (IntKind.u64.wrap (bits BinOp.and IntKind.u64 (IntKind.u64.wrap x / (2 : Int) ^ (1 : Nat)) (6148914691236517205 : Int) + bits BinOp.and IntKind.u64 (IntKind.u64.wrap x) (6148914691236517205 : Int)) / (2 : Int) ^ (2 : Nat)) (3689348814741910323 : Int) + bits BinOp.and IntKind.u64 (IntKind.u64.wrap (bits BinOp.and IntKind.u64 (IntKind.u64.wrap x / (2 : Int) ^ (1 : Nat)) (6148914691236517205 : Int) + bits BinOp.and IntKind.u64 (IntKind.u64.wrap x) (6148914691236517205 : Int))) (3689348814741910323 : Int)))) (1085102592571150095 : Int) + bits BinOp.and IntKind.u64 (IntKind.u64.wrap (IntKind.u64.wrap (bits BinOp.and IntKind.u64 (IntKind.u64.wrap (bits BinOp.and IntKind.u64 (IntKind.u64.wrap x / (2 : Int) ^ (1 : Nat)) (6148914691236517205 : Int) + bits BinOp.and IntKind.u64 (IntKind.u64.wrap x) (6148914691236517205 : Int)) / (2 : Int) ^ (2 : Nat)) (3689348814741910323 : Int) + bits BinOp.and IntKind.u64 (IntKind.u64.wrap (bits BinOp.and IntKind.u64 (IntKind.u64.wrap x / (2 : Int) ^ (1 : Nat)) (6148914691236517205 : Int) + bits BinOp.and IntKind.u64 (IntKind.u64.wrap x) (6148914691236517205 : Int))) (3689348814741910323 : Int)) / (2 : Int) ^ (4 : Nat) + IntKind.u64.wrap (bits BinOp.and IntKind.u64 (IntKind.u64.wrap (bits BinOp.and IntKind.u64 (IntKind.u64.wrap x / (2 : Int) ^ (1 : Nat)) (6148914691236517205 : Int) + bits BinOp.and IntKind.u64 (IntKind.u64.wrap x) (6148914691236517205 : Int)) / (2 : Int) ^ (2 : Nat)) (3689348814741910323 : Int) + bits BinOp.and IntKind.u64 (IntKind.u64.wrap (bits BinOp.and IntKind.u64 (IntKind.u64.wrap x / (2 : Int) ^ (1 : Nat)) (6148914691236517205 : Int) + bits BinOp.and IntKind.u64 (IntKind.u64.wrap x) (6148914691236517205 : Int))) (3689348814741910323 : Int)))) (1085102592571150095 : Int) / (2 : Int) ^ (8 : Nat)) + IntKind.u64.wrap (bits BinOp.and IntKind.u64 (IntKind.u64.wrap (IntKind.u64.wrap (bits BinOp.and IntKind.u64 (IntKind.u64.wrap (bits BinOp.and IntKind.u64 (IntKind.u64.wrap x / (2 : Int) ^ (1 : Nat)) (6148914691236517205 : Int) + bits BinOp.and IntKind.u64 (IntKind.u64.wrap x) (6148914691236517205 : Int)) / (2 : Int) ^ (2 : Nat)) (3689348814741910323 : Int) + bits BinOp.and IntKind.u64 (IntKind.u64.wrap (bits BinOp.and IntKind.u64 (IntKind.u64.wrap x / (2 : Int) ^ (1 : Nat)) (6148914691236517205 : Int) + bits BinOp.and IntKind.u64 (IntKind.u64.wrap x) (6148914691236517205 : Int))) (3689348814741910323 : Int)) / (2 : Int) ^ (4 : Nat) + IntKind.u64.wrap (bits BinOp.and IntKind.u64 (IntKind.u64.wrap (bits BinOp.and IntKind.u64 (IntKind.u64.wrap x / (2 : Int) ^ (1 : Nat)) (6148914691236517205 : Int) + bits BinOp.and IntKind.u64 (IntKind.u64.wrap x) (6148914691236517205 : Int)) / (2 : Int) ^ (2 : Nat)) (3689348814741910323 : Int) + bits BinOp.and IntKind.u64 (IntKind.u64.wrap (bits BinOp.and IntKind.u64 (IntKind.u64.wrap x / (2 : Int) ^ (1 : Nat)) (6148914691236517205 : Int) + bits BinOp.and IntKind.u64 (IntKind.u64.wrap x) (6148914691236517205 : Int))) (3689348814741910323 : Int)))) (1085102592571150095 : Int) + bits BinOp.and IntKind.u64 (IntKind.u64.wrap (IntKind.u64.wrap (bits BinOp.and IntKind.u64 (IntKind.u64.wrap (bits BinOp.and IntKind.u64 (IntKind.u64.wrap x / (2 : Int) ^ (1 : Nat)) (6148914691236517205 : Int) + bits BinOp.and IntKind.u64 (IntKind.u64.wrap x) (6148914691236517205 : Int)) / (2 : Int) ^ (2 : Nat)) (3689348814741910323 : Int) + bits BinOp.and IntKind.u64 (IntKind.u64.wrap (bits BinOp.and IntKind.u64 (IntKind.u64.wrap x / (2 : Int) ^ (1 : Nat)) (6148914691236517205 : Int) + bits BinOp.and IntKind.u64 (IntKind.u64.wrap x) (6148914691236517205 : Int))) (3689348814741910323 : Int)) / (2 : Int) ^ (4 : Nat) + IntKind.u64.wrap (bits BinOp.and IntKind.u64 (IntKind.u64.wrap (bits BinOp.and IntKind.u64 (IntKind.u64.wrap x / (2 : Int) ^ (1 : Nat)) (6148914691236517205 : Int) + bits BinOp.and IntKind.u64 (IntKind.u64.wrap x) (6148914691236517205 : Int)) / (2 : Int) ^ (2 : Nat)) (3689348814741910323 : Int) + bits BinOp.and IntKind.u64 (IntKind.u64.wrap (bits BinOp.and IntKind.u64 (IntKind.u64.wrap x / (2 : Int) ^ (1 : Nat)) (6148914691236517205 : Int) + bits BinOp.and IntKind.u64 (IntKind.u64.wrap x) (6148914691236517205 : Int))) (3689348814741910323 : Int)))) (1085102592571150095 : Int) / (2 : Int) ^ (8 : Nat)) / (2 : Int) ^ (16 : Nat)) / (2 : Int) ^ (32 : Nat)))) (127 : Int)
theorem f82 (x : Int) (R : ARes → Prop) : (vx.call 82 [I x] (retK R) ⟨.nil, 0⟩ ([])) =
(R (.ret (I (bits BinOp.and IntKind.i64 (IntKind.i64.wrap (IntKind.u64.wrap (IntKind.u64.wrap (IntKind.u64.wrap (bits BinOp.and IntKind.u64 (IntKind.u64.wrap (IntKind.u64.wrap (bits BinOp.and IntKind.u64 (IntKind.u64.wrap (bits BinOp.and IntKind.u64 (IntKind.u64.wrap x / (2 : Int) ^ (1 : Nat)) (6148914691236517205 : Int) + bits BinOp.and IntKind.u64 (IntKind.u64.wrap x) (6148914691236517205 : Int)) / (2 : Int) ^ (2 : Nat)) (3689348814741910323 : Int) + bits BinOp.and IntKind.u64 (IntKind.u64.wrap (bits BinOp.and IntKind.u64 (IntKind.u64.wrap x / (2 : Int) ^ (1 : Nat)) (6148914691236517205 : Int) + bits BinOp.and IntKind.u64 (IntKind.u64.wrap x) (6148914691236517205 : Int))) (3689348814741910323 : Int)) / (2 : Int) ^ (4 : Nat) + IntKind.u64.wrap (bits BinOp.and IntKind.u64 (IntKind.u64.wrap (bits BinOp.and IntKind.u64 (IntKind.u64.wrap x / (2 : Int) ^ (1 : Nat)) (6148914691236517205 : Int) + bits BinOp.and IntKind.u64 (IntKind.u64.wrap x) (6148914691236517205 : Int)) / (2 : Int) ^ (2 : Nat)) (3689348814741910323 : Int) + bits BinOp.and IntKind.u64 (IntKind.u64.wrap (bits BinOp.and IntKind.u64 (IntKind.u64.wrap x / (2 : Int) ^ (1 : Nat)) (6148914691236517205 : Int) + bits BinOp.and IntKind.u64 (IntKind.u64.wrap x) (6148914691236517205 : Int))) (3689348814741910323 : Int)))) (1085102592571150095 : Int) + bits BinOp.and IntKind.u64 (IntKind.u64.wrap (IntKind.u64.wrap (bits BinOp.and IntKind.u64 (IntKind.u64.wrap (bits BinOp.and IntKind.u64 (IntKind.u64.wrap x / (2 : Int) ^ (1 : Nat)) (6148914691236517205 : Int) + bits BinOp.and IntKind.u64 (IntKind.u64.wrap x) (6148914691236517205 : Int)) / (2 : Int) ^ (2 : Nat)) (3689348814741910323 : Int) + bits BinOp.and IntKind.u64 (IntKind.u64.wrap (bits BinOp.and IntKind.u64 (IntKind.u64.wrap x / (2 : Int) ^ (1 : Nat)) (6148914691236517205 : Int) + bits BinOp.and IntKind.u64 (IntKind.u64.wrap x) (6148914691236517205 : Int))) (3689348814741910323 : Int)) / (2 : Int) ^ (4 : Nat) + IntKind.u64.wrap (bits BinOp.and IntKind.u64 (IntKind.u64.wrap (bits BinOp.and IntKind.u64 (IntKind.u64.wrap x / (2 : Int) ^ (1 : Nat)) (6148914691236517205 : Int) + bits BinOp.and IntKind.u64 (IntKind.u64.wrap x) (6148914691236517205 : Int)) / (2 : Int) ^ (2 : Nat)) (3689348814741910323 : Int) + bits BinOp.and IntKind.u64 (IntKind.u64.wrap (bits BinOp.and IntKind.u64 (IntKind.u64.wrap x / (2 : Int) ^ (1 : Nat)) (6148914691236517205 : Int) + bits BinOp.and IntKind.u64 (IntKind.u64.wrap x) (6148914691236517205 : Int))) (3689348814741910323 : Int)))) (1085102592571150095 : Int) / (2 : Int) ^ (8 : Nat)) + IntKind.u64.wrap (bits BinOp.and IntKind.u64 (IntKind.u64.wrap (IntKind.u64.wrap (bits BinOp.and IntKind.u64 (IntKind.u64.wrap (bits BinOp.and IntKind.u64 (IntKind.u64.wrap x / (2 : Int) ^ (1 : Nat)) (6148914691236517205 : Int) + bits BinOp.and IntKind.u64 (IntKind.u64.wrap x) (6148914691236517205 : Int)) / (2 : Int) ^ (2 : Nat)) (3689348814741910323 : Int) + bits BinOp.and IntKind.u64 (IntKind.u64.wrap (bits BinOp.and IntKind.u64 (IntKind.u64.wrap x / (2 : Int) ^ (1 : Nat)) (6148914691236517205 : Int) + bits BinOp.and IntKind.u64 (IntKind.u64.wrap x) (6148914691236517205 : Int))) (3689348814741910323 : Int)) / (2 : Int) ^ (4 : Nat) + IntKind.u64.wrap (bits BinOp.and IntKind.u64 (IntKind.u64.wrap (bits BinOp.and IntKind.u64 (IntKind.u64.wrap x / (2 : Int) ^ (1 : Nat)) (6148914691236517205 : Int) + bits BinOp.and IntKind.u64 (IntKind.u64.wrap x) (6148914691236517205 : Int)) / (2 : Int) ^ (2 : Nat)) (3689348814741910323 : Int) + bits BinOp.and IntKind.u64 (IntKind.u64.wrap (bits BinOp.and IntKind.u64 (IntKind.u64.wrap x / (2 : Int) ^ (1 : Nat)) (6148914691236517205 : Int) + bits BinOp.and IntKind.u64 (IntKind.u64.wrap x) (6148914691236517205 : Int))) (3689348814741910323 : Int)))) (1085102592571150095 : Int) + bits BinOp.and IntKind.u64 (IntKind.u64.wrap (IntKind.u64.wrap (bits BinOp.and IntKind.u64 (IntKind.u64.wrap (bits BinOp.and IntKind.u64 (IntKind.u64.wrap x / (2 : Int) ^ (1 : Nat)) (6148914691236517205 : Int) + bits BinOp.and IntKind.u64 (IntKind.u64.wrap x) (6148914691236517205 : Int)) / (2 : Int) ^ (2 : Nat)) (3689348814741910323 : Int) + bits BinOp.and IntKind.u64 (IntKind.u64.wrap (bits BinOp.and IntKind.u64 (IntKind.u64.wrap x / (2 : Int) ^ (1 : Nat)) (6148914691236517205 : Int) + bits BinOp.and IntKind.u64 (IntKind.u64.wrap x) (6148914691236517205 : Int))) (3689348814741910323 : Int)) / (2 : Int) ^ (4 : Nat) + IntKind.u64.wrap (bits BinOp.and IntKind.u64 (IntKind.u64.wrap (bits BinOp.and IntKind.u64 (IntKind.u64.wrap x / (2 : Int) ^ (1 : Nat)) (6148914691236517205 : Int) + bits BinOp.and IntKind.u64 (IntKind.u64.wrap x) (6148914691236517205 : Int)) / (2 : Int) ^ (2 : Nat)) (3689348814741910323 : Int) + bits BinOp.and IntKind.u64 (IntKind.u64.wrap (bits BinOp.and IntKind.u64 (IntKind.u64.wrap x / (2 : Int) ^ (1 : Nat)) (6148914691236517205 : Int) + bits BinOp.and IntKind.u64 (IntKind.u64.wrap x) (6148914691236517205 : Int))) (3689348814741910323 : Int)))) (1085102592571150095 : Int) / (2 : Int) ^ (8 : Nat)) / (2 : Int) ^ (16 : Nat)) + IntKind.u64.wrap (IntKind.u64.wrap (bits BinOp.and IntKind.u64 (IntKind.u64.wrap (IntKind.u64.wrap (bits BinOp.and IntKind.u64 (IntKind.u64.wrap (bits BinOp.and IntKind.u64 (IntKind.u64.wrap x / (2 : Int) ^ (1 : Nat)) (6148914691236517205 : Int) + bits BinOp.and IntKind.u64 (IntKind.u64.wrap x) (6148914691236517205 : Int)) / (2 : Int) ^ (2 : Nat)) (3689348814741910323 : Int) + bits BinOp.and IntKind.u64 (IntKind.u64.wrap (bits BinOp.and IntKind.u64 (IntKind.u64.wrap x / (2 : Int) ^ (1 : Nat)) (6148914691236517205 : Int) + bits BinOp.and IntKind.u64 (IntKind.u64.wrap x) (6148914691236517205 : Int))) (3689348814741910323 : Int)) / (2 : Int) ^ (4 : Nat) + IntKind.u64.wrap (bits BinOp.and IntKind.u64 (IntKind.u64.wrap (bits BinOp.and IntKind.u64 (IntKind.u64.wrap x / (2 : Int) ^ (1 : Nat)) (6148914691236517205 : Int) + bits BinOp.and IntKind.u64 (IntKind.u64.wrap x) (6148914691236517205 : Int)) / (2 : Int) ^ (2 : Nat)) (3689348814741910323 : Int) + bits BinOp.and IntKind.u64 (IntKind.u64.wrap (bits BinOp.and IntKind.u64 (IntKind.u64.wrap x / (2 : Int) ^ (1 : Nat)) (6148914691236517205 : Int) + bits BinOp.and IntKind.u64 (IntKind.u64.wrap x) (6148914691236517205 : Int))) (3689348814741910323 : Int)))) (1085102592571150095 : Int) + bits BinOp.and IntKind.u64 (IntKind.u64.wrap (IntKind.u64.wrap (bits BinOp.and IntKind.u64 (IntKind.u64.wrap (bits BinOp.and IntKind.u64 (IntKind.u64.wrap x / (2 : Int) ^ (1 : Nat)) (6148914691236517205 : Int) + bits BinOp.and IntKind.u64 (IntKind.u64.wrap x) (6148914691236517205 : Int)) / (2 : Int) ^ (2 : Nat)) (3689348814741910323 : Int) + bits BinOp.and IntKind.u64 (IntKind.u64.wrap (bits BinOp.and IntKind.u64 (IntKind.u64.wrap x / (2 : Int) ^ (1 : Nat)) (6148914691236517205 : Int) + bits BinOp.and IntKind.u64 (IntKind.u64.wrap x) (6148914691236517205 : Int))) (3689348814741910323 : Int)) / (2 : Int) ^ (4 : Nat) + IntKind.u64.wrap (bits BinOp.and IntKind.u64 (IntKind.u64.wrap (bits BinOp.and IntKind.u64 (IntKind.u64.wrap x / (2 : Int) ^ (1 : Nat)) (6148914691236517205 : Int) + bits BinOp.and IntKind.u64 (IntKind.u64.wrap x) (6148914691236517205 : Int)) / (2 : Int) ^ (2 : Nat)) (3689348814741910323 : Int) + bits BinOp.and IntKind.u64 (IntKind.u64.wrap (bits BinOp.and IntKind.u64 (IntKind.u64.wrap x / (2 : Int) ^ (1 : Nat)) (6148914691236517205 : Int) + bits BinOp.and IntKind.u64 (IntKind.u64.wrap x) (6148914691236517205 : Int))) (3689348814741910323 : Int)))) (1085102592571150095 : Int) / (2 : Int) ^ (8 : Nat)) + IntKind.u64.wrap (bits BinOp.and IntKind.u64 (IntKind.u64.wrap (IntKind.u64.wrap (bits BinOp.and IntKind.u64 (IntKind.u64.wrap (bits BinOp.and IntKind.u64 (IntKind.u64.wrap x / (2 : Int) ^ (1 : Nat)) (6148914691236517205 : Int) + bits BinOp.and IntKind.u64 (IntKind.u64.wrap x) (6148914691236517205 : Int)) / (2 : Int) ^ (2 : Nat)) (3689348814741910323 : Int) + bits BinOp.and IntKind.u64 (IntKind.u64.wrap (bits BinOp.and IntKind.u64 (IntKind.u64.wrap x / (2 : Int) ^ (1 : Nat)) (6148914691236517205 : Int) + bits BinOp.and IntKind.u64 (IntKind.u64.wrap x) (6148914691236517205 : Int))) (3689348814741910323 : Int)) / (2 : Int) ^ (4 : Nat) + IntKind.u64.wrap (bits BinOp.and IntKind.u64 (IntKind.u64.wrap (bits BinOp.and IntKind.u64 (IntKind.u64.wrap x / (2 : Int) ^ (1 : Nat)) (6148914691236517205 : Int) + bits BinOp.and IntKind.u64 (IntKind.u64.wrap x) (6148914691236517205 : Int)) / (2 : Int) ^ (2 : Nat)) (3689348814741910323 : Int) + bits BinOp.and IntKind.u64 (IntKind.u64.wrap (bits BinOp.and IntKind.u64 (IntKind.u64.wrap x / (2 : Int) ^ (1 : Nat)) (6148914691236517205 : Int) + bits BinOp.and IntKind.u64 (IntKind.u64.wrap x) (6148914691236517205 : Int))) (3689348814741910323 : Int)))) (1085102592571150095 : Int) + bits BinOp.and IntKind.u64 (IntKind.u64.wrap (IntKind.u64.wrap (bits BinOp.and IntKind.u64 (IntKind.u64.wrap (bits BinOp.and IntKind.u64 (IntKind.u64.wrap x / (2 : Int) ^ (1 : Nat)) (6148914691236517205 : Int) + bits BinOp.and IntKind.u64 (IntKind.u64.wrap x) (6148914691236517205 : Int)) / (2 : Int) ^ (2 : Nat)) (3689348814741910323 : Int) + bits BinOp.and IntKind.u64 (IntKind.u64.wrap (bits BinOp.and IntKind.u64 (IntKind.u64.wrap x / (2 : Int) ^ (1 : Nat)) (6148914691236517205 : Int) + bits BinOp.and IntKind.u64 (IntKind.u64.wrap x) (6148914691236517205 : Int))) (3689348814741910323 : Int)) / (2 : Int) ^ (4 : Nat) + IntKind.u64.wrap (bits BinOp.and IntKind.u64 (IntKind.u64.wrap (bits BinOp.and IntKind.u64 (IntKind.u64.wrap x / (2 : Int) ^ (1 : Nat)) (6148914691236517205 : Int) + bits BinOp.and IntKind.u64 (IntKind.u64.wrap x) (6148914691236517205 : Int)) / (2 : Int) ^ (2 : Nat)) (3689348814741910323 : Int) + bits BinOp.and IntKind.u64 (IntKind.u64.wrap (bits BinOp.and IntKind.u64 (IntKind.u64.wrap x / (2 : Int) ^ (1 : Nat)) (6148914691236517205 : Int) + bits BinOp.and IntKind.u64 (IntKind.u64.wrap x) (6148914691236517205 : Int))) (3689348814741910323 : Int)))) (1085102592571150095 : Int) / (2 : Int) ^ (8 : Nat)) / (2 : Int) ^ (16 : Nat)) / (2 : Int) ^ (32 : Nat)))) (127 : Int))))) := by kernel_rfl
theorem b88 (i : Nat) (s : Int) (o : Nat → Int) (R : Nat → AExit → Hw → Prop) : (vx.code none (.l p88) (leafW [T88, R88] R) (T88.inst (st88 o s i)) ([(0, .split ((2, .val (I (o i))) :: (8, .val (I (s / (2 : Int) ^ i))) :: [(1, .split ([(5, .split ([(3, .tm 1 [])]) ([(4, .tm 0 [])]))]) ([(6, .tm 0 [])]))]) ([(1, .tm 0 [])]))])) =
((((decide ((↑i : Int) < (7 : Int))) = true → ((((((0 : Int) ≤ (↑i : Int))) ∧ (((↑i : Int) < (↑(7 : Nat) : Int)))) ∧ ((partV Try.prog ((7 : Nat), (83 : Nat)).snd [Value.int .i64 (o 0), Value.int .i64 (o 1), Value.int .i64 (o 2), Value.int .i64 (o 3), Value.int .i64 (o 4), Value.int .i64 (o 5), Value.int .i64 (o 6)] ((↑i : Int).toNat * (fun x => x.size) Try.prog.types[((7 : Nat), (83 : Nat)).snd]) = some (I (o i))))) ∧
((((((0 : Int) ≤ (↑i : Int))) ∧ (((↑i : Int) ≤ (↑(64 : Nat) : Int)))) ∧ (((I (s / (2 : Int) ^ i)) : Value) = (I (s / (2 : Int) ^ i)))) ∧
(((bits BinOp.and IntKind.i64 (s / (2 : Int) ^ i) (1 : Int) == (1 : Int)) = true → (((bits BinOp.and IntKind.i64 s (o i) != (0 : Int)) = true → R 1 .ret ⟨⟨[(.bool false)], []⟩, [], []⟩) ∧
((bits BinOp.and IntKind.i64 s (o i) != (0 : Int)) = false → R 0 .normal ⟨⟨[(I s), (I (o 0)), (I (o 1)), (I (o 2)), (I (o 3)), (I (o 4)), (I (o 5)), (I (o 6)), (I (IntKind.i64.wrap ((↑i : Int) + (1 : Int))))], []⟩, [], []⟩))) ∧
((bits BinOp.and IntKind.i64 (s / (2 : Int) ^ i) (1 : Int) == (1 : Int)) = false → R 0 .normal ⟨⟨[(I s), (I (o 0)), (I (o 1)), (I (o 2)), (I (o 3)), (I (o 4)), (I (o 5)), (I (o 6)), (I (IntKind.i64.wrap ((↑i : Int) + (1 : Int))))], []⟩, [], []⟩))))) ∧
((decide ((↑i : Int) < (7 : Int))) = false → R 0 (.exit ((0 : Nat))) ⟨⟨[(I s), (I (o 0)), (I (o 1)), (I (o 2)), (I (o 3)), (I (o 4)), (I (o 5)), (I (o 6)), (I i)], []⟩, [], []⟩))) := by kernel_rfl
theorem f88t (s : Int) (o : Nat → Int) (R : ARes → Prop) : (vx.call 88 [.agg ⟨ints 7 o⟩, I s] (retK R) ⟨.nil, 0⟩ ((5, .loopW T88 (.exit (0 : Nat)) T88 fun x => st88 o s (7 : Nat)) :: [])) =
(((ClW ⟨⟨[(I s), (I (o 0)), (I (o 1)), (I (o 2)), (I (o 3)), (I (o 4)), (I (o 5)), (I (o 6)), (I 0)], []⟩, [], []⟩) ∧ (LoopOW Try.prog .none p88 (T88) ⟨⟨[(I s), (I (o 0)), (I (o 1)), (I (o 2)), (I (o 3)), (I (o 4)), (I (o 5)), (I (o 6)), (I 0)], []⟩, [], []⟩ (.exit ((0 : Nat))) (T88) ⟨⟨[(I s), (I (o 0)), (I (o 1)), (I (o 2)), (I (o 3)), (I (o 4)), (I (o 5)), (I (o 6)), (I ((↑(7 : Nat) : Int)))], []⟩, [], []⟩) ∧
R (.ret (.bool true)))) := by kernel_rfl
theorem f88f (s : Int) (o : Nat → Int) (R : ARes → Prop) : (vx.call 88 [.agg ⟨ints 7 o⟩, I s] (retK R) ⟨.nil, 0⟩ ((5, .loopW T88 AExit.ret R88 fun x => { hs := { vs := [Value.bool false], ns := [] }, ls := [], es := [] }) :: [])) =
(((ClW ⟨⟨[(I s), (I (o 0)), (I (o 1)), (I (o 2)), (I (o 3)), (I (o 4)), (I (o 5)), (I (o 6)), (I 0)], []⟩, [], []⟩) ∧ (LoopOW Try.prog .none p88 (T88) ⟨⟨[(I s), (I (o 0)), (I (o 1)), (I (o 2)), (I (o 3)), (I (o 4)), (I (o 5)), (I (o 6)), (I 0)], []⟩, [], []⟩ .ret (R88) ⟨⟨[(.bool false)], []⟩, [], []⟩) ∧
R (.ret (.bool false)))) := by kernel_rfl
theorem f89 (a b : Nat) (R : ARes → Prop) : (vx.call 89 [I a, I b] (retK R) ⟨.nil, 0⟩ ((3, .con (C82 a)) :: (1, .con (C82 b)) :: [(0, .split ([]) ([]))])) =
(((ConOK Try.prog 82 (C82 a)) ∧ (Con.pre (C82 a) ⟨⟨[(I a)], []⟩, []⟩) ∧
((ConOK Try.prog 82 (C82 b)) ∧ (Con.pre (C82 b) ⟨⟨[(I b)], []⟩, []⟩) ∧
(((decide ((↑(popN a) : Int) > (↑(popN b) : Int))) = true → R (.ret (.bool true))) ∧
((decide ((↑(popN a) : Int) > (↑(popN b) : Int))) = false → R (.ret (.bool false))))))) := by kernel_rfl
theorem b93 (N i found : Nat) (bg : Bool) (o : Nat → Int) (R : Nat → AExit → Hw → Prop) : (vx.code none (.l p93) (leafW [T93] R) (T93.inst (st93 o N i found bg)) ([(0, .split ((9, .con (C88 o (↑i : Int))) :: [(0, .split ([(0, .split ((6, .con (C89 i found)) :: [(0, .split ([(9, .tm 0 [])]) ([(6, .tm 0 [])]))]) ([(12, .tm 0 [])]))]) ([(6, .tm 0 [])]))]) ([(1, .tm 0 [])]))])) =
((((decide ((↑i : Int) < (↑N : Int))) = true → ((ConOK Try.prog (OfNat.ofNat (88 : Nat)) (C88 o (↑i : Int))) ∧ (Con.pre (C88 o (↑i : Int)) ⟨⟨[(I (o 0)), (I (o 1)), (I (o 2)), (I (o 3)), (I (o 4)), (I (o 5)), (I (o 6)), (I i)], []⟩, []⟩) ∧
(((allFrom (apartI o (↑i : Int)) (7 : Nat) (0 : Nat)) = true → (((bg) = true → ((ConOK Try.prog (OfNat.ofNat (89 : Nat)) (C89 i found)) ∧ (Con.pre (C89 i found) ⟨⟨[(I i), (I found)], []⟩, []⟩) ∧
(((match false with | true => true | false => decide ((↑(popN i) : Int) > (↑(popN found) : Int))) = true → R 0 .normal ⟨⟨[(I N), (I (IntKind.i64.wrap ((↑i : Int) + (1 : Int)))), (I (o 0)), (I (o 1)), (I (o 2)), (I (o 3)), (I (o 4)), (I (o 5)), (I (o 6))], []⟩, [[(I i)], [(.bool true)]], []⟩) ∧
((match false with | true => true | false => decide ((↑(popN i) : Int) > (↑(popN found) : Int))) = false → R 0 .normal ⟨⟨[(I N), (I (IntKind.i64.wrap ((↑i : Int) + (1 : Int)))), (I (o 0)), (I (o 1)), (I (o 2)), (I (o 3)), (I (o 4)), (I (o 5)), (I (o 6))], []⟩, [[(I found)], [(.bool bg)]], []⟩)))) ∧
((bg) = false → R 0 .normal ⟨⟨[(I N), (I (IntKind.i64.wrap ((↑i : Int) + (1 : Int)))), (I (o 0)), (I (o 1)), (I (o 2)), (I (o 3)), (I (o 4)), (I (o 5)), (I (o 6))], []⟩, [[(I i)], [(.bool true)]], []⟩))) ∧
((allFrom (apartI o (↑i : Int)) (7 : Nat) (0 : Nat)) = false → R 0 .normal ⟨⟨[(I N), (I (IntKind.i64.wrap ((↑i : Int) + (1 : Int)))), (I (o 0)), (I (o 1)), (I (o 2)), (I (o 3)), (I (o 4)), (I (o 5)), (I (o 6))], []⟩, [[(I found)], [(.bool bg)]], []⟩)))) ∧
((decide ((↑i : Int) < (↑N : Int))) = false → R 0 (.exit ((0 : Nat))) ⟨⟨[(I N), (I i), (I (o 0)), (I (o 1)), (I (o 2)), (I (o 3)), (I (o 4)), (I (o 5)), (I (o 6))], []⟩, [[(I found)], [(.bool bg)]], []⟩))) := by kernel_rfl
theorem f87 (n N found : Nat) (o : Nat → Int) (R : ARes → Prop) : (vx.call 87 [fitV o, .func (.func 93) ⟨[]⟩ ⟨[pN 0]⟩] (retK R) ⟨fillX [.cells [I n] 3 .ro] 0 .nil, 1⟩ ((12, .val (I (IntKind.i64.wrap ((1 : Int) * (2 : Int) ^ n)))) :: (4, .loopW T93 (.exit (0 : Nat)) T93 fun x => st93 o N N found true) :: [])) =
(((((((0 : Int) ≤ (↑n : Int))) ∧ (((↑n : Int) ≤ (↑(64 : Nat) : Int)))) ∧ (((I (IntKind.i64.wrap ((1 : Int) * (2 : Int) ^ n))) : Value) = (I (IntKind.i64.wrap ((1 : Int) * (2 : Int) ^ n))))) ∧
((ClW ⟨⟨[(I (IntKind.i64.wrap (IntKind.i64.wrap (IntKind.i64.wrap ((1 : Int) * (2 : Int) ^ n) - (1 : Int)) + (1 : Int)))), (I 0), (I (o 0)), (I (o 1)), (I (o 2)), (I (o 3)), (I (o 4)), (I (o 5)), (I (o 6))], []⟩, [[(I 0)], [(.bool false)]], []⟩) ∧ (LoopOW Try.prog .none p93 (T93) ⟨⟨[(I (IntKind.i64.wrap (IntKind.i64.wrap (IntKind.i64.wrap ((1 : Int) * (2 : Int) ^ n) - (1 : Int)) + (1 : Int)))), (I 0), (I (o 0)), (I (o 1)), (I (o 2)), (I (o 3)), (I (o 4)), (I (o 5)), (I (o 6))], []⟩, [[(I 0)], [(.bool false)]], []⟩ (.exit ((0 : Nat))) (T93) ⟨⟨[(I N), (I N), (I (o 0)), (I (o 1)), (I (o 2)), (I (o 3)), (I (o 4)), (I (o 5)), (I (o 6))], []⟩, [[(I found)], [(.bool true)]], []⟩) ∧
R (.ret (I found))))) := by kernel_rfl
theorem pops : ((List.range 128).all fun x => decide (popI (x : Nat) = (popN x : Nat))) = true := by kernel_rfl
theorem popI_eq {x : Nat} (h : x < 128) : popI (x : Nat) = (popN x : Nat) := by
  have := List.all_eq_true.1 pops x (List.mem_range.2 h)
  exact of_decide_eq_true this
theorem C82_ok {x : Nat} (h : x < 128) : ConOK Try.prog 82 (C82 x) := by
  refine con_of vx_sound _ (fun y hy => ?_) rfl (fun y _ => rfl) (fun y hy => ?_) rfl (Nat.le_of_ble_eq_true rfl) (by rw [nglob]; exact Nat.zero_le _)
  · cases hy
    refine ⟨_, (f82 (x : Nat) _).mpr ?_⟩
    show ARes.ret (.int .i64 (popI (x : Nat))) = .ret (I (popN x : Nat))
    rw [popI_eq h]; rfl
  · cases hy
    intro cs hcs
    cases hcs
theorem C89_ok {a b : Nat} (ha : a < 128) (hb : b < 128) : ConOK Try.prog 89 (C89 a b) := by
  refine con_of vx_sound _ (fun y hy => ?_) rfl (fun y _ => rfl) (fun y hy => ?_) rfl (Nat.le_of_ble_eq_true rfl) (by rw [nglob]; exact Nat.zero_le _)
  · cases hy
    have key : ∀ R : ARes → Prop, (∀ v, decide ((popN a : Int) > (popN b : Int)) = v → R (.ret (.bool v))) → ∃ hs, vx.call 89 [I a, I b] (retK R) ⟨.nil, 0⟩ hs := fun R hR =>
      ⟨_, (f89 a b R).mpr ⟨C82_ok ha, rfl, C82_ok hb, rfl, fun h => hR _ h, fun h => hR _ h⟩⟩
    obtain ⟨hs, h⟩ := key (fun r => r = .ret (.bool (decide ((popN a : Int) > (popN b : Int))))) fun v hv => by rw [hv]
    exact ⟨hs, h⟩
  · cases hy
    intro cs hcs
    cases hcs
section
variable {o : Nat → Int}
theorem cl88 (s : Int) (i : Nat) : ClW (st88 o s i) := ⟨fun cs h => (by cases h), fun cs h => (by cases h)⟩
noncomputable def ex88 (o : Nat → Int) (s : Int) (i : Nat) : Option (AExit × Nat × Hw) := if apartI o s i = true then none else some (.ret, 1, ⟨⟨[.bool false], []⟩, [], []⟩)
theorem agg83 : tAgg Try.prog 83 = some false := by kernel_rfl
theorem part88 {i : Nat} (hi : i < 7) : partV Try.prog 83 [I (o 0), I (o 1), I (o 2), I (o 3), I (o 4), I (o 5), I (o 6)] (i * 1) = some (I (o i)) := by
  simp only [partV, agg83]
  have := ints_get (n := 7) o hi
  rw [Nat.zero_add] at this
  exact this
theorem loop88 (s : Int) {T1 : Tw} (h1 : [T88, R88][(runX (ex88 o s) (.exit 0, 0, st88 o s 7) 7 0).2.1]? = some T1) :
    LoopOW Try.prog none p88 T88 (st88 o s 0) (runX (ex88 o s) (.exit 0, 0, st88 o s 7) 7 0).1 T1 (runX (ex88 o s) (.exit 0, 0, st88 o s 7) 7 0).2.2 := by
  refine loop_untilW (Ts := [T88, R88]) (k := 1) (n := 7) (st := fun i => (0, st88 o s i)) (e := .exit 0) (ex := ex88 o s) rfl vx_sound ?_ (by rw [nglob]; omega) ⟨by simp, trivial⟩ (fun i _ => cl88 s i) (fun i x hi hx => ?_) (fun i hi R h1 h2 => ?_) (fun R hR => ?_) (Nat.zero_le 7) rfl (Nat.le_of_ble_eq_true rfl) (by decide) h1
  · intro T hT
    simp only [List.mem_cons, List.not_mem_nil, or_false] at hT
    rcases hT with rfl | rfl <;> rfl
  · unfold ex88 at hx
    split at hx
    · cases hx
    · cases hx
      exact ⟨by simp, trivial, fun cs h => (by cases h), fun cs h => (by cases h)⟩
  · have hw : IntKind.i64.wrap ((i : Int) + 1) = ((i + 1 : Nat) : Int) := wrapI (by omega) (by omega)
    refine ⟨T88, _, rfl, (b88 i s o R).mpr ⟨fun _ => ⟨⟨⟨by omega, by omega⟩, part88 hi⟩, ⟨⟨by omega, by omega⟩, rfl⟩, fun hA => ⟨fun hB => ?_, fun hB => ?_⟩, fun hA => ?_⟩, fun h => absurd (show ((i : Nat) : Int) < 7 by omega) (of_decide_eq_false h)⟩⟩
    · have hA : hasI s i = true := hA
      exact h2 (.ret, 1, _) (by simp only [ex88, apartI, hA, hB, Bool.true_and, Bool.not_true, Bool.false_eq_true, if_false])
    · have hA : hasI s i = true := hA
      rw [hw]
      exact h1 (by simp only [ex88, apartI, hA, hB, Bool.true_and, Bool.not_false, if_true])
    · have hA : hasI s i = false := hA
      rw [hw]
      exact h1 (by simp only [ex88, apartI, hA, Bool.false_and, Bool.not_false, if_true])
  · exact ⟨T88, _, rfl, (b88 7 s o R).mpr ⟨fun h => absurd (of_decide_eq_true h) (by omega), fun _ => hR⟩⟩
theorem run88 (s : Int) (fin : AExit × Nat × Hw) (r : Nat) : ∀ i, runX (ex88 o s) fin r i = if allFrom (apartI o s) r i then fin else (.ret, 1, ⟨⟨[.bool false], []⟩, [], []⟩) := by
  induction r with
  | zero => intro i; rfl
  | succ r ih =>
    intro i
    simp only [runX, ex88, allFrom]
    by_cases h : apartI o s i = true
    · rw [if_pos h]
      simp only [h, Bool.true_and]
      exact ih (i + 1)
    · rw [if_neg h]
      have h2 : apartI o s i = false := by simpa using h
      simp only [h2, Bool.false_and, Bool.false_eq_true, if_false]
theorem C88_ok (s : Int) : ConOK Try.prog 88 (C88 o s) := by
  refine con_of vx_sound _ (fun x hx => ?_) rfl (fun x _ => rfl) (fun x hx => ?_) rfl (Nat.le_of_ble_eq_true rfl) (by rw [nglob]; exact Nat.zero_le _)
  · cases hx
    have hl := fun T1 => loop88 (o := o) (T1 := T1) s
    rw [run88] at hl
    show ∃ hs, vx.call 88 [.agg ⟨ints 7 o⟩, I s] (retK fun r => r = .ret (.bool (allFrom (apartI o s) 7 0))) ⟨.nil, 0⟩ hs
    cases hb : allFrom (apartI o s) 7 0 with
    | true =>
      rw [hb] at hl
      exact ⟨_, (f88t s o _).mpr ⟨cl88 s 0, hl T88 rfl, rfl⟩⟩
    | false =>
      rw [hb] at hl
      exact ⟨_, (f88f s o _).mpr ⟨cl88 s 0, hl R88 rfl, rfl⟩⟩
  · cases hx
    intro cs hcs
    cases hcs
def bestF (o : Nat → Int) : Nat → Nat
  | 0 => 0
  | s + 1 => if allFrom (apartI o (s : Int)) 7 0 && decide (popN (bestF o s) < popN s) then s else bestF o s
theorem bestF_lt (s N : Nat) (h : s ≤ N) (hN : 0 < N) : bestF o s < N := by
  induction s with
  | zero => exact hN
  | succ s ih =>
    simp only [bestF]
    split
    · omega
    · exact ih (by omega)
theorem clB (N i found : Nat) (bg : Bool) : ClW (st93 o N i found bg) := by
  refine ⟨fun cs hcs v hv => ?_, fun es hes => (by cases hes)⟩
  simp only [st93, List.mem_cons, List.not_mem_nil, or_false] at hcs
  rcases hcs with rfl | rfl
  · simp only [List.mem_cons, List.not_mem_nil, or_false] at hv; subst hv; rfl
  · simp only [List.mem_cons, List.not_mem_nil, or_false] at hv; subst hv; rfl
theorem apart0 (i : Nat) : apartI o 0 i = true := by
  have h0 : hasI 0 i = false := by
    have := hasI_mask 0 i (by decide)
    simpa using this
  simp only [apartI, h0, Bool.false_and, Bool.not_false]
theorem loop93 {N : Nat} (hN : N ≤ 128) (h0 : 0 < N) : LoopOW Try.prog none p93 T93 (st93 o N 0 0 false) (.exit 0) T93 (st93 o N N (bestF o N) true) := by
  have hend : st93 o N N (bestF o N) true = st93 o N N (bestF o N) (decide (0 < N)) := by simp [h0]
  rw [hend]
  refine loop_forW (Ts := [T93]) (k := 6) (n := N) (e := .exit 0) (st := fun j => (0, st93 o N j (bestF o j) (decide (0 < j)))) rfl vx_sound ?_ (by rw [nglob]; omega) ⟨by simp, trivial⟩ (fun j _ => clB N j _ _) (fun j hj R hR => ?_) (fun R hR => ?_) rfl (Nat.le_of_ble_eq_true rfl) (by decide) rfl
  · intro T hT; simp only [List.mem_singleton] at hT; subst hT; rfl
  · have hw : IntKind.i64.wrap ((j : Int) + 1) = ((j + 1 : Nat) : Int) := wrapI (by omega) (by omega)
    have hb := bestF_lt (o := o) j N (by omega) h0
    have hR2 : R 0 .normal (st93 o N (j + 1) (bestF o (j + 1)) true) := by
      have : decide (0 < j + 1) = true := by simp
      rw [← this]; exact hR
    refine ⟨T93, _, rfl, (b93 N j (bestF o j) (decide (0 < j)) o R).mpr ⟨fun _ => ⟨C88_ok _, rfl, fun hA => ⟨fun hB => ⟨C89_ok (by omega) (by omega), rfl, fun hC => ?_, fun hC => ?_⟩, fun hB => ?_⟩, fun hA => ?_⟩, fun h => absurd (by omega) (of_decide_eq_false h)⟩⟩
    · rw [hw]
      have hC : decide ((popN j : Int) > (popN (bestF o j) : Int)) = true := hC
      have hC := of_decide_eq_true hC
      have : bestF o (j + 1) = j := by
        simp only [bestF, hA, Bool.true_and]
        rw [if_pos (decide_eq_true (by omega))]
      rw [this] at hR2
      exact hR2
    · rw [hw]
      have hC : decide ((popN j : Int) > (popN (bestF o j) : Int)) = false := hC
      have hC := of_decide_eq_false hC
      have : bestF o (j + 1) = bestF o j := by
        simp only [bestF, hA, Bool.true_and]
        rw [if_neg (by simp; omega)]
      rw [this] at hR2
      have e : decide (0 < j) = true := hB
      rw [e]
      exact hR2
    · rw [hw]
      have e : ¬ 0 < j := of_decide_eq_false hB
      have e0 : j = 0 := by omega
      subst e0
      have : bestF o (0 + 1) = 0 := by simp [bestF]
      rw [this] at hR2
      exact hR2
    · rw [hw]
      have e0 : 0 < j := by
        rcases Nat.eq_zero_or_pos j with h | h
        · subst h
          have : allFrom (apartI o ((0 : Nat) : Int)) 7 0 = true := by
            simp only [allFrom, Int.natCast_zero, apart0, Bool.true_and]
          rw [this] at hA; cases hA
        · exact h
      have : bestF o (j + 1) = bestF o j := by simp [bestF, hA]
      rw [this] at hR2
      have e : decide (0 < j) = true := by simp [e0]
      rw [e]
      exact hR2
  · exact ⟨T93, _, rfl, (b93 N N (bestF o N) (decide (0 < N)) o R).mpr ⟨fun h => absurd (of_decide_eq_true h) (by omega), fun _ => hR⟩⟩
end
end Go.Ab
set_option maxRecDepth 100000
namespace Go.Ab
open Go Go.RowKit Go.Proofs
theorem f25t (p : Int) (n c found : Nat) (f : Nat → Mv) (R : ARes → Prop) : (vx.call 25 [hV p n c, .bool true] (retK R) (m1 (mvs n f)) ((19, .con (C68t p n c f)) :: (19, .again) :: (0, .con (C44 true p n c f)) :: (0, .again) :: (16, .again) :: (0, .con (C87 n (ordF true p n f n) found)) :: [])) =
(((ConOK Try.prog 68 (C68t p n c f)) ∧ (Con.pre (C68t p n c f) ⟨⟨[(I p)], [⟨n, c⟩]⟩, [(mvs n f)]⟩) ∧
((((((2 : Nat) ≤ (2 : Nat))) ∧ (((.agg ⟨[(I p), (.slice (.some ⟨0, 0, .none⟩) (n) (c))]⟩) : Value) = (.agg ⟨[(I p), (.slice (.some ⟨0, 0, .none⟩) (n) (c))]⟩))) ∧ (((((2 : Nat) ≤ (2 : Nat))) ∧ (((.agg ⟨[(I p), (.slice (.some ⟨0, 0, .none⟩) (n) (c))]⟩) : Value) = (.agg ⟨[(I p), (.slice (.some ⟨0, 0, .none⟩) (n) (c))]⟩))) ∧ (True))) ∧
((ConOK Try.prog 44 (C44 true p n c f)) ∧ (Con.pre (C44 true p n c f) ⟨⟨[(I p)], [⟨n, c⟩]⟩, [(mvs n f)]⟩) ∧
((((((2 : Nat) ≤ (2 : Nat))) ∧ (((.agg ⟨[(I p), (.slice (.some ⟨0, 0, .none⟩) (n) (c))]⟩) : Value) = (.agg ⟨[(I p), (.slice (.some ⟨0, 0, .none⟩) (n) (c))]⟩))) ∧ (True)) ∧
((((((7 : Nat) ≤ (7 : Nat))) ∧ (((.agg ⟨[(I (ordF true p n f n (0 : Nat))), (I (ordF true p n f n (1 : Nat))), (I (ordF true p n f n (2 : Nat))), (I (ordF true p n f n (3 : Nat))), (I (ordF true p n f n (4 : Nat))), (I (ordF true p n f n (5 : Nat))), (I (ordF true p n f n (6 : Nat)))]⟩) : Value) = (.agg ⟨[(I (ordF true p n f n (0 : Nat))), (I (ordF true p n f n (1 : Nat))), (I (ordF true p n f n (2 : Nat))), (I (ordF true p n f n (3 : Nat))), (I (ordF true p n f n (4 : Nat))), (I (ordF true p n f n (5 : Nat))), (I (ordF true p n f n (6 : Nat)))]⟩))) ∧ (True)) ∧
((ConOK Try.prog 87 (C87 n (ordF true p n f n) found)) ∧ (Con.pre (C87 n (ordF true p n f n) found) ⟨⟨[(I (ordF true p n f n (0 : Nat))), (I (ordF true p n f n (1 : Nat))), (I (ordF true p n f n (2 : Nat))), (I (ordF true p n f n (3 : Nat))), (I (ordF true p n f n (4 : Nat))), (I (ordF true p n f n (5 : Nat))), (I (ordF true p n f n (6 : Nat))), (I n)], []⟩, []⟩) ∧
R (.ret (.tuple ⟨[(I found), (I 0)]⟩))))))))) := by kernel_rfl
theorem f25f (p : Int) (n c found : Nat) (f : Nat → Mv) (R : ARes → Prop) : (vx.call 25 [hV p n c, .bool false] (retK R) (m1 (mvs n f)) ((19, .con (C68t p n c f)) :: (19, .again) :: (0, .con (C44 false p n c f)) :: (0, .again) :: (16, .again) :: (0, .con (C87 n (ordF false p n f n) found)) :: [])) =
(((ConOK Try.prog 68 (C68t p n c f)) ∧ (Con.pre (C68t p n c f) ⟨⟨[(I p)], [⟨n, c⟩]⟩, [(mvs n f)]⟩) ∧
((((((2 : Nat) ≤ (2 : Nat))) ∧ (((.agg ⟨[(I p), (.slice (.some ⟨0, 0, .none⟩) (n) (c))]⟩) : Value) = (.agg ⟨[(I p), (.slice (.some ⟨0, 0, .none⟩) (n) (c))]⟩))) ∧ (((((2 : Nat) ≤ (2 : Nat))) ∧ (((.agg ⟨[(I p), (.slice (.some ⟨0, 0, .none⟩) (n) (c))]⟩) : Value) = (.agg ⟨[(I p), (.slice (.some ⟨0, 0, .none⟩) (n) (c))]⟩))) ∧ (True))) ∧
((ConOK Try.prog 44 (C44 false p n c f)) ∧ (Con.pre (C44 false p n c f) ⟨⟨[(I p)], [⟨n, c⟩]⟩, [(mvs n f)]⟩) ∧
((((((2 : Nat) ≤ (2 : Nat))) ∧ (((.agg ⟨[(I p), (.slice (.some ⟨0, 0, .none⟩) (n) (c))]⟩) : Value) = (.agg ⟨[(I p), (.slice (.some ⟨0, 0, .none⟩) (n) (c))]⟩))) ∧ (True)) ∧
((((((7 : Nat) ≤ (7 : Nat))) ∧ (((.agg ⟨[(I (ordF false p n f n (0 : Nat))), (I (ordF false p n f n (1 : Nat))), (I (ordF false p n f n (2 : Nat))), (I (ordF false p n f n (3 : Nat))), (I (ordF false p n f n (4 : Nat))), (I (ordF false p n f n (5 : Nat))), (I (ordF false p n f n (6 : Nat)))]⟩) : Value) = (.agg ⟨[(I (ordF false p n f n (0 : Nat))), (I (ordF false p n f n (1 : Nat))), (I (ordF false p n f n (2 : Nat))), (I (ordF false p n f n (3 : Nat))), (I (ordF false p n f n (4 : Nat))), (I (ordF false p n f n (5 : Nat))), (I (ordF false p n f n (6 : Nat)))]⟩))) ∧ (True)) ∧
((ConOK Try.prog 87 (C87 n (ordF false p n f n) found)) ∧ (Con.pre (C87 n (ordF false p n f n) found) ⟨⟨[(I (ordF false p n f n (0 : Nat))), (I (ordF false p n f n (1 : Nat))), (I (ordF false p n f n (2 : Nat))), (I (ordF false p n f n (3 : Nat))), (I (ordF false p n f n (4 : Nat))), (I (ordF false p n f n (5 : Nat))), (I (ordF false p n f n (6 : Nat))), (I n)], []⟩, []⟩) ∧
R (.ret (.tuple ⟨[(I found), (I 0)]⟩))))))))) := by kernel_rfl
theorem f24t (p : Int) (n c many : Nat) (f : Nat → Mv) (pl : List Value) (R : Hx → Prop) : (vx.call 24 [hV p n c, .bool true] (retN (rowT3 1 3) R) (m1 (mvs n f)) ((20, .con (C68t p n c f)) :: (19, .again) :: (0, .con (C44 true p n c f)) :: (0, .again) :: (7, .conN (C49 p n c f)) :: (0, .again) :: (0, .con (C83c (ordF true p n f n) n n (jobsC n f) many)) :: (5, .conN (C86c p n c (mvs n f) (ordF true p n f n) many pl)) :: [(21, .tm (0 : Nat) [((1 : Nat), (13 : Nat))])])) =
(((ConOK Try.prog 68 (C68t p n c f)) ∧ (Con.pre (C68t p n c f) ⟨⟨[(I p)], [⟨n, c⟩]⟩, [(mvs n f)]⟩) ∧
((((((2 : Nat) ≤ (2 : Nat))) ∧ (((.agg ⟨[(I p), (.slice (.some ⟨0, 0, .none⟩) (n) (c))]⟩) : Value) = (.agg ⟨[(I p), (.slice (.some ⟨0, 0, .none⟩) (n) (c))]⟩))) ∧ (((((2 : Nat) ≤ (2 : Nat))) ∧ (((.agg ⟨[(I p), (.slice (.some ⟨0, 0, .none⟩) (n) (c))]⟩) : Value) = (.agg ⟨[(I p), (.slice (.some ⟨0, 0, .none⟩) (n) (c))]⟩))) ∧ (True))) ∧
((ConOK Try.prog 44 (C44 true p n c f)) ∧ (Con.pre (C44 true p n c f) ⟨⟨[(I p)], [⟨n, c⟩]⟩, [(mvs n f)]⟩) ∧
((((((2 : Nat) ≤ (2 : Nat))) ∧ (((.agg ⟨[(I p), (.slice (.some ⟨0, 0, .none⟩) (n) (c))]⟩) : Value) = (.agg ⟨[(I p), (.slice (.some ⟨0, 0, .none⟩) (n) (c))]⟩))) ∧ (True)) ∧
((ConNOK Try.prog 49 (C49 p n c f)) ∧ (ConN.pre (C49 p n c f) ⟨⟨[(I p)], [⟨n, c⟩]⟩, [(mvs n f)]⟩) ∧
((((((7 : Nat) ≤ (7 : Nat))) ∧ (((.agg ⟨[(I (ordF true p n f n (0 : Nat))), (I (ordF true p n f n (1 : Nat))), (I (ordF true p n f n (2 : Nat))), (I (ordF true p n f n (3 : Nat))), (I (ordF true p n f n (4 : Nat))), (I (ordF true p n f n (5 : Nat))), (I (ordF true p n f n (6 : Nat)))]⟩) : Value) = (.agg ⟨[(I (ordF true p n f n (0 : Nat))), (I (ordF true p n f n (1 : Nat))), (I (ordF true p n f n (2 : Nat))), (I (ordF true p n f n (3 : Nat))), (I (ordF true p n f n (4 : Nat))), (I (ordF true p n f n (5 : Nat))), (I (ordF true p n f n (6 : Nat)))]⟩))) ∧ (True)) ∧
((ConOK Try.prog 83 (C83c (ordF true p n f n) n n (jobsC n f) many)) ∧ (Con.pre (C83c (ordF true p n f n) n n (jobsC n f) many) ⟨⟨[(I (ordF true p n f n (0 : Nat))), (I (ordF true p n f n (1 : Nat))), (I (ordF true p n f n (2 : Nat))), (I (ordF true p n f n (3 : Nat))), (I (ordF true p n f n (4 : Nat))), (I (ordF true p n f n (5 : Nat))), (I (ordF true p n f n (6 : Nat)))], [⟨n, n⟩]⟩, [(jobsC n f)]⟩) ∧
((ConNOK Try.prog 86 (C86c p n c (mvs n f) (ordF true p n f n) many pl)) ∧ (ConN.pre (C86c p n c (mvs n f) (ordF true p n f n) many pl) ⟨⟨[(I p), (I (ordF true p n f n (0 : Nat))), (I (ordF true p n f n (1 : Nat))), (I (ordF true p n f n (2 : Nat))), (I (ordF true p n f n (3 : Nat))), (I (ordF true p n f n (4 : Nat))), (I (ordF true p n f n (5 : Nat))), (I (ordF true p n f n (6 : Nat))), (I many)], [⟨n, c⟩]⟩, [(mvs n f)]⟩) ∧
R ⟨⟨[(I many), (I 0)], [⟨n, n⟩]⟩, [(pl)]⟩))))))))) := by kernel_rfl
theorem f24f (p : Int) (n c many : Nat) (f : Nat → Mv) (pl : List Value) (R : Hx → Prop) : (vx.call 24 [hV p n c, .bool false] (retN (rowT3 1 3) R) (m1 (mvs n f)) ((20, .con (C68t p n c f)) :: (19, .again) :: (0, .con (C44 false p n c f)) :: (0, .again) :: (7, .conN (C49 p n c f)) :: (0, .again) :: (0, .con (C83c (ordF false p n f n) n n (jobsC n f) many)) :: (5, .conN (C86c p n c (mvs n f) (ordF false p n f n) many pl)) :: [(21, .tm (0 : Nat) [((1 : Nat), (13 : Nat))])])) =
(((ConOK Try.prog 68 (C68t p n c f)) ∧ (Con.pre (C68t p n c f) ⟨⟨[(I p)], [⟨n, c⟩]⟩, [(mvs n f)]⟩) ∧
((((((2 : Nat) ≤ (2 : Nat))) ∧ (((.agg ⟨[(I p), (.slice (.some ⟨0, 0, .none⟩) (n) (c))]⟩) : Value) = (.agg ⟨[(I p), (.slice (.some ⟨0, 0, .none⟩) (n) (c))]⟩))) ∧ (((((2 : Nat) ≤ (2 : Nat))) ∧ (((.agg ⟨[(I p), (.slice (.some ⟨0, 0, .none⟩) (n) (c))]⟩) : Value) = (.agg ⟨[(I p), (.slice (.some ⟨0, 0, .none⟩) (n) (c))]⟩))) ∧ (True))) ∧
((ConOK Try.prog 44 (C44 false p n c f)) ∧ (Con.pre (C44 false p n c f) ⟨⟨[(I p)], [⟨n, c⟩]⟩, [(mvs n f)]⟩) ∧
((((((2 : Nat) ≤ (2 : Nat))) ∧ (((.agg ⟨[(I p), (.slice (.some ⟨0, 0, .none⟩) (n) (c))]⟩) : Value) = (.agg ⟨[(I p), (.slice (.some ⟨0, 0, .none⟩) (n) (c))]⟩))) ∧ (True)) ∧
((ConNOK Try.prog 49 (C49 p n c f)) ∧ (ConN.pre (C49 p n c f) ⟨⟨[(I p)], [⟨n, c⟩]⟩, [(mvs n f)]⟩) ∧
((((((7 : Nat) ≤ (7 : Nat))) ∧ (((.agg ⟨[(I (ordF false p n f n (0 : Nat))), (I (ordF false p n f n (1 : Nat))), (I (ordF false p n f n (2 : Nat))), (I (ordF false p n f n (3 : Nat))), (I (ordF false p n f n (4 : Nat))), (I (ordF false p n f n (5 : Nat))), (I (ordF false p n f n (6 : Nat)))]⟩) : Value) = (.agg ⟨[(I (ordF false p n f n (0 : Nat))), (I (ordF false p n f n (1 : Nat))), (I (ordF false p n f n (2 : Nat))), (I (ordF false p n f n (3 : Nat))), (I (ordF false p n f n (4 : Nat))), (I (ordF false p n f n (5 : Nat))), (I (ordF false p n f n (6 : Nat)))]⟩))) ∧ (True)) ∧
((ConOK Try.prog 83 (C83c (ordF false p n f n) n n (jobsC n f) many)) ∧ (Con.pre (C83c (ordF false p n f n) n n (jobsC n f) many) ⟨⟨[(I (ordF false p n f n (0 : Nat))), (I (ordF false p n f n (1 : Nat))), (I (ordF false p n f n (2 : Nat))), (I (ordF false p n f n (3 : Nat))), (I (ordF false p n f n (4 : Nat))), (I (ordF false p n f n (5 : Nat))), (I (ordF false p n f n (6 : Nat)))], [⟨n, n⟩]⟩, [(jobsC n f)]⟩) ∧
((ConNOK Try.prog 86 (C86c p n c (mvs n f) (ordF false p n f n) many pl)) ∧ (ConN.pre (C86c p n c (mvs n f) (ordF false p n f n) many pl) ⟨⟨[(I p), (I (ordF false p n f n (0 : Nat))), (I (ordF false p n f n (1 : Nat))), (I (ordF false p n f n (2 : Nat))), (I (ordF false p n f n (3 : Nat))), (I (ordF false p n f n (4 : Nat))), (I (ordF false p n f n (5 : Nat))), (I (ordF false p n f n (6 : Nat))), (I many)], [⟨n, c⟩]⟩, [(mvs n f)]⟩) ∧
R ⟨⟨[(I many), (I 0)], [⟨n, n⟩]⟩, [(pl)]⟩))))))))) := by kernel_rfl
theorem f86_1 (p : Int) (c many : Nat) (b : Bool) (ms : List Value) (o D2 P2 : Nat → Int) (R : Hx → Prop) : (vx.call 86 [hV p 1 c, .agg ⟨ints 7 o⟩, I many] (retN (rowT 1 3) R) (m1 ms) ((11, .conW (CW96 p (1 : Nat) c many o (0 : Int) (ints (7 : Nat) fun x => (0 : Int)) (ints (7 : Nat) fun x => (0 : Int)) b (ints (7 : Nat) D2) (ints (7 : Nat) P2))) :: [(11, .tm (0 : Nat) [((1 : Nat), (7 : Nat))])])) =
(((ConWOK Try.prog ((96 : Nat)) (CW96 p (1 : Nat) c many o (0 : Int) [Value.int .i64 (0 : Int), Value.int .i64 (0 : Int), Value.int .i64 (0 : Int), Value.int .i64 (0 : Int), Value.int .i64 (0 : Int), Value.int .i64 (0 : Int), Value.int .i64 (0 : Int)] [Value.int .i64 (0 : Int), Value.int .i64 (0 : Int), Value.int .i64 (0 : Int), Value.int .i64 (0 : Int), Value.int .i64 (0 : Int), Value.int .i64 (0 : Int), Value.int .i64 (0 : Int)] b [Value.int .i64 (D2 (0 : Nat)), Value.int .i64 (D2 (1 : Nat)), Value.int .i64 (D2 (2 : Nat)), Value.int .i64 (D2 (3 : Nat)), Value.int .i64 (D2 (4 : Nat)), Value.int .i64 (D2 (5 : Nat)), Value.int .i64 (D2 (6 : Nat))] [Value.int .i64 (P2 (0 : Nat)), Value.int .i64 (P2 (1 : Nat)), Value.int .i64 (P2 (2 : Nat)), Value.int .i64 (P2 (3 : Nat)), Value.int .i64 (P2 (4 : Nat)), Value.int .i64 (P2 (5 : Nat)), Value.int .i64 (P2 (6 : Nat))])) ∧ (ConW.pre (CW96 p (1 : Nat) c many o (0 : Int) [Value.int .i64 (0 : Int), Value.int .i64 (0 : Int), Value.int .i64 (0 : Int), Value.int .i64 (0 : Int), Value.int .i64 (0 : Int), Value.int .i64 (0 : Int), Value.int .i64 (0 : Int)] [Value.int .i64 (0 : Int), Value.int .i64 (0 : Int), Value.int .i64 (0 : Int), Value.int .i64 (0 : Int), Value.int .i64 (0 : Int), Value.int .i64 (0 : Int), Value.int .i64 (0 : Int)] b [Value.int .i64 (D2 (0 : Nat)), Value.int .i64 (D2 (1 : Nat)), Value.int .i64 (D2 (2 : Nat)), Value.int .i64 (D2 (3 : Nat)), Value.int .i64 (D2 (4 : Nat)), Value.int .i64 (D2 (5 : Nat)), Value.int .i64 (D2 (6 : Nat))] [Value.int .i64 (P2 (0 : Nat)), Value.int .i64 (P2 (1 : Nat)), Value.int .i64 (P2 (2 : Nat)), Value.int .i64 (P2 (3 : Nat)), Value.int .i64 (P2 (4 : Nat)), Value.int .i64 (P2 (5 : Nat)), Value.int .i64 (P2 (6 : Nat))]) ⟨⟨[(I 0), (I p), (I many), (I (o 0)), (I (o 1)), (I (o 2)), (I (o 3)), (I (o 4)), (I (o 5)), (I (o 6))], [⟨1, c⟩]⟩, [[(I 0), (I 0), (I 0), (I 0), (I 0), (I 0), (I 0)], [(I 0), (I 0), (I 0), (I 0), (I 0), (I 0), (I 0)]], []⟩) ∧
R ⟨⟨[], [⟨((1 : Nat)), ((1 : Nat))⟩]⟩, [[(I (P2 (0 : Nat)))]]⟩)) := by kernel_rfl
theorem f86_2 (p : Int) (c many : Nat) (b : Bool) (ms : List Value) (o D2 P2 : Nat → Int) (R : Hx → Prop) : (vx.call 86 [hV p 2 c, .agg ⟨ints 7 o⟩, I many] (retN (rowT 1 3) R) (m1 ms) ((11, .conW (CW96 p (2 : Nat) c many o (0 : Int) (ints (7 : Nat) fun x => (0 : Int)) (ints (7 : Nat) fun x => (0 : Int)) b (ints (7 : Nat) D2) (ints (7 : Nat) P2))) :: [(11, .tm (0 : Nat) [((1 : Nat), (7 : Nat))])])) =
(((ConWOK Try.prog ((96 : Nat)) (CW96 p (2 : Nat) c many o (0 : Int) [Value.int .i64 (0 : Int), Value.int .i64 (0 : Int), Value.int .i64 (0 : Int), Value.int .i64 (0 : Int), Value.int .i64 (0 : Int), Value.int .i64 (0 : Int), Value.int .i64 (0 : Int)] [Value.int .i64 (0 : Int), Value.int .i64 (0 : Int), Value.int .i64 (0 : Int), Value.int .i64 (0 : Int), Value.int .i64 (0 : Int), Value.int .i64 (0 : Int), Value.int .i64 (0 : Int)] b [Value.int .i64 (D2 (0 : Nat)), Value.int .i64 (D2 (1 : Nat)), Value.int .i64 (D2 (2 : Nat)), Value.int .i64 (D2 (3 : Nat)), Value.int .i64 (D2 (4 : Nat)), Value.int .i64 (D2 (5 : Nat)), Value.int .i64 (D2 (6 : Nat))] [Value.int .i64 (P2 (0 : Nat)), Value.int .i64 (P2 (1 : Nat)), Value.int .i64 (P2 (2 : Nat)), Value.int .i64 (P2 (3 : Nat)), Value.int .i64 (P2 (4 : Nat)), Value.int .i64 (P2 (5 : Nat)), Value.int .i64 (P2 (6 : Nat))])) ∧ (ConW.pre (CW96 p (2 : Nat) c many o (0 : Int) [Value.int .i64 (0 : Int), Value.int .i64 (0 : Int), Value.int .i64 (0 : Int), Value.int .i64 (0 : Int), Value.int .i64 (0 : Int), Value.int .i64 (0 : Int), Value.int .i64 (0 : Int)] [Value.int .i64 (0 : Int), Value.int .i64 (0 : Int), Value.int .i64 (0 : Int), Value.int .i64 (0 : Int), Value.int .i64 (0 : Int), Value.int .i64 (0 : Int), Value.int .i64 (0 : Int)] b [Value.int .i64 (D2 (0 : Nat)), Value.int .i64 (D2 (1 : Nat)), Value.int .i64 (D2 (2 : Nat)), Value.int .i64 (D2 (3 : Nat)), Value.int .i64 (D2 (4 : Nat)), Value.int .i64 (D2 (5 : Nat)), Value.int .i64 (D2 (6 : Nat))] [Value.int .i64 (P2 (0 : Nat)), Value.int .i64 (P2 (1 : Nat)), Value.int .i64 (P2 (2 : Nat)), Value.int .i64 (P2 (3 : Nat)), Value.int .i64 (P2 (4 : Nat)), Value.int .i64 (P2 (5 : Nat)), Value.int .i64 (P2 (6 : Nat))]) ⟨⟨[(I 0), (I p), (I many), (I (o 0)), (I (o 1)), (I (o 2)), (I (o 3)), (I (o 4)), (I (o 5)), (I (o 6))], [⟨2, c⟩]⟩, [[(I 0), (I 0), (I 0), (I 0), (I 0), (I 0), (I 0)], [(I 0), (I 0), (I 0), (I 0), (I 0), (I 0), (I 0)]], []⟩) ∧
R ⟨⟨[], [⟨((2 : Nat)), ((2 : Nat))⟩]⟩, [[(I (P2 (0 : Nat))), (I (P2 (1 : Nat)))]]⟩)) := by kernel_rfl
theorem f86_3 (p : Int) (c many : Nat) (b : Bool) (ms : List Value) (o D2 P2 : Nat → Int) (R : Hx → Prop) : (vx.call 86 [hV p 3 c, .agg ⟨ints 7 o⟩, I many] (retN (rowT 1 3) R) (m1 ms) ((11, .conW (CW96 p (3 : Nat) c many o (0 : Int) (ints (7 : Nat) fun x => (0 : Int)) (ints (7 : Nat) fun x => (0 : Int)) b (ints (7 : Nat) D2) (ints (7 : Nat) P2))) :: [(11, .tm (0 : Nat) [((1 : Nat), (7 : Nat))])])) =
(((ConWOK Try.prog ((96 : Nat)) (CW96 p (3 : Nat) c many o (0 : Int) [Value.int .i64 (0 : Int), Value.int .i64 (0 : Int), Value.int .i64 (0 : Int), Value.int .i64 (0 : Int), Value.int .i64 (0 : Int), Value.int .i64 (0 : Int), Value.int .i64 (0 : Int)] [Value.int .i64 (0 : Int), Value.int .i64 (0 : Int), Value.int .i64 (0 : Int), Value.int .i64 (0 : Int), Value.int .i64 (0 : Int), Value.int .i64 (0 : Int), Value.int .i64 (0 : Int)] b [Value.int .i64 (D2 (0 : Nat)), Value.int .i64 (D2 (1 : Nat)), Value.int .i64 (D2 (2 : Nat)), Value.int .i64 (D2 (3 : Nat)), Value.int .i64 (D2 (4 : Nat)), Value.int .i64 (D2 (5 : Nat)), Value.int .i64 (D2 (6 : Nat))] [Value.int .i64 (P2 (0 : Nat)), Value.int .i64 (P2 (1 : Nat)), Value.int .i64 (P2 (2 : Nat)), Value.int .i64 (P2 (3 : Nat)), Value.int .i64 (P2 (4 : Nat)), Value.int .i64 (P2 (5 : Nat)), Value.int .i64 (P2 (6 : Nat))])) ∧ (ConW.pre (CW96 p (3 : Nat) c many o (0 : Int) [Value.int .i64 (0 : Int), Value.int .i64 (0 : Int), Value.int .i64 (0 : Int), Value.int .i64 (0 : Int), Value.int .i64 (0 : Int), Value.int .i64 (0 : Int), Value.int .i64 (0 : Int)] [Value.int .i64 (0 : Int), Value.int .i64 (0 : Int), Value.int .i64 (0 : Int), Value.int .i64 (0 : Int), Value.int .i64 (0 : Int), Value.int .i64 (0 : Int), Value.int .i64 (0 : Int)] b [Value.int .i64 (D2 (0 : Nat)), Value.int .i64 (D2 (1 : Nat)), Value.int .i64 (D2 (2 : Nat)), Value.int .i64 (D2 (3 : Nat)), Value.int .i64 (D2 (4 : Nat)), Value.int .i64 (D2 (5 : Nat)), Value.int .i64 (D2 (6 : Nat))] [Value.int .i64 (P2 (0 : Nat)), Value.int .i64 (P2 (1 : Nat)), Value.int .i64 (P2 (2 : Nat)), Value.int .i64 (P2 (3 : Nat)), Value.int .i64 (P2 (4 : Nat)), Value.int .i64 (P2 (5 : Nat)), Value.int .i64 (P2 (6 : Nat))]) ⟨⟨[(I 0), (I p), (I many), (I (o 0)), (I (o 1)), (I (o 2)), (I (o 3)), (I (o 4)), (I (o 5)), (I (o 6))], [⟨3, c⟩]⟩, [[(I 0), (I 0), (I 0), (I 0), (I 0), (I 0), (I 0)], [(I 0), (I 0), (I 0), (I 0), (I 0), (I 0), (I 0)]], []⟩) ∧
R ⟨⟨[], [⟨((3 : Nat)), ((3 : Nat))⟩]⟩, [[(I (P2 (0 : Nat))), (I (P2 (1 : Nat))), (I (P2 (2 : Nat)))]]⟩)) := by kernel_rfl
theorem f86_4 (p : Int) (c many : Nat) (b : Bool) (ms : List Value) (o D2 P2 : Nat → Int) (R : Hx → Prop) : (vx.call 86 [hV p 4 c, .agg ⟨ints 7 o⟩, I many] (retN (rowT 1 3) R) (m1 ms) ((11, .conW (CW96 p (4 : Nat) c many o (0 : Int) (ints (7 : Nat) fun x => (0 : Int)) (ints (7 : Nat) fun x => (0 : Int)) b (ints (7 : Nat) D2) (ints (7 : Nat) P2))) :: [(11, .tm (0 : Nat) [((1 : Nat), (7 : Nat))])])) =
(((ConWOK Try.prog ((96 : Nat)) (CW96 p (4 : Nat) c many o (0 : Int) [Value.int .i64 (0 : Int), Value.int .i64 (0 : Int), Value.int .i64 (0 : Int), Value.int .i64 (0 : Int), Value.int .i64 (0 : Int), Value.int .i64 (0 : Int), Value.int .i64 (0 : Int)] [Value.int .i64 (0 : Int), Value.int .i64 (0 : Int), Value.int .i64 (0 : Int), Value.int .i64 (0 : Int), Value.int .i64 (0 : Int), Value.int .i64 (0 : Int), Value.int .i64 (0 : Int)] b [Value.int .i64 (D2 (0 : Nat)), Value.int .i64 (D2 (1 : Nat)), Value.int .i64 (D2 (2 : Nat)), Value.int .i64 (D2 (3 : Nat)), Value.int .i64 (D2 (4 : Nat)), Value.int .i64 (D2 (5 : Nat)), Value.int .i64 (D2 (6 : Nat))] [Value.int .i64 (P2 (0 : Nat)), Value.int .i64 (P2 (1 : Nat)), Value.int .i64 (P2 (2 : Nat)), Value.int .i64 (P2 (3 : Nat)), Value.int .i64 (P2 (4 : Nat)), Value.int .i64 (P2 (5 : Nat)), Value.int .i64 (P2 (6 : Nat))])) ∧ (ConW.pre (CW96 p (4 : Nat) c many o (0 : Int) [Value.int .i64 (0 : Int), Value.int .i64 (0 : Int), Value.int .i64 (0 : Int), Value.int .i64 (0 : Int), Value.int .i64 (0 : Int), Value.int .i64 (0 : Int), Value.int .i64 (0 : Int)] [Value.int .i64 (0 : Int), Value.int .i64 (0 : Int), Value.int .i64 (0 : Int), Value.int .i64 (0 : Int), Value.int .i64 (0 : Int), Value.int .i64 (0 : Int), Value.int .i64 (0 : Int)] b [Value.int .i64 (D2 (0 : Nat)), Value.int .i64 (D2 (1 : Nat)), Value.int .i64 (D2 (2 : Nat)), Value.int .i64 (D2 (3 : Nat)), Value.int .i64 (D2 (4 : Nat)), Value.int .i64 (D2 (5 : Nat)), Value.int .i64 (D2 (6 : Nat))] [Value.int .i64 (P2 (0 : Nat)), Value.int .i64 (P2 (1 : Nat)), Value.int .i64 (P2 (2 : Nat)), Value.int .i64 (P2 (3 : Nat)), Value.int .i64 (P2 (4 : Nat)), Value.int .i64 (P2 (5 : Nat)), Value.int .i64 (P2 (6 : Nat))]) ⟨⟨[(I 0), (I p), (I many), (I (o 0)), (I (o 1)), (I (o 2)), (I (o 3)), (I (o 4)), (I (o 5)), (I (o 6))], [⟨4, c⟩]⟩, [[(I 0), (I 0), (I 0), (I 0), (I 0), (I 0), (I 0)], [(I 0), (I 0), (I 0), (I 0), (I 0), (I 0), (I 0)]], []⟩) ∧
R ⟨⟨[], [⟨((4 : Nat)), ((4 : Nat))⟩]⟩, [[(I (P2 (0 : Nat))), (I (P2 (1 : Nat))), (I (P2 (2 : Nat))), (I (P2 (3 : Nat)))]]⟩)) := by kernel_rfl
theorem f86_5 (p : Int) (c many : Nat) (b : Bool) (ms : List Value) (o D2 P2 : Nat → Int) (R : Hx → Prop) : (vx.call 86 [hV p 5 c, .agg ⟨ints 7 o⟩, I many] (retN (rowT 1 3) R) (m1 ms) ((11, .conW (CW96 p (5 : Nat) c many o (0 : Int) (ints (7 : Nat) fun x => (0 : Int)) (ints (7 : Nat) fun x => (0 : Int)) b (ints (7 : Nat) D2) (ints (7 : Nat) P2))) :: [(11, .tm (0 : Nat) [((1 : Nat), (7 : Nat))])])) =
(((ConWOK Try.prog ((96 : Nat)) (CW96 p (5 : Nat) c many o (0 : Int) [Value.int .i64 (0 : Int), Value.int .i64 (0 : Int), Value.int .i64 (0 : Int), Value.int .i64 (0 : Int), Value.int .i64 (0 : Int), Value.int .i64 (0 : Int), Value.int .i64 (0 : Int)] [Value.int .i64 (0 : Int), Value.int .i64 (0 : Int), Value.int .i64 (0 : Int), Value.int .i64 (0 : Int), Value.int .i64 (0 : Int), Value.int .i64 (0 : Int), Value.int .i64 (0 : Int)] b [Value.int .i64 (D2 (0 : Nat)), Value.int .i64 (D2 (1 : Nat)), Value.int .i64 (D2 (2 : Nat)), Value.int .i64 (D2 (3 : Nat)), Value.int .i64 (D2 (4 : Nat)), Value.int .i64 (D2 (5 : Nat)), Value.int .i64 (D2 (6 : Nat))] [Value.int .i64 (P2 (0 : Nat)), Value.int .i64 (P2 (1 : Nat)), Value.int .i64 (P2 (2 : Nat)), Value.int .i64 (P2 (3 : Nat)), Value.int .i64 (P2 (4 : Nat)), Value.int .i64 (P2 (5 : Nat)), Value.int .i64 (P2 (6 : Nat))])) ∧ (ConW.pre (CW96 p (5 : Nat) c many o (0 : Int) [Value.int .i64 (0 : Int), Value.int .i64 (0 : Int), Value.int .i64 (0 : Int), Value.int .i64 (0 : Int), Value.int .i64 (0 : Int), Value.int .i64 (0 : Int), Value.int .i64 (0 : Int)] [Value.int .i64 (0 : Int), Value.int .i64 (0 : Int), Value.int .i64 (0 : Int), Value.int .i64 (0 : Int), Value.int .i64 (0 : Int), Value.int .i64 (0 : Int), Value.int .i64 (0 : Int)] b [Value.int .i64 (D2 (0 : Nat)), Value.int .i64 (D2 (1 : Nat)), Value.int .i64 (D2 (2 : Nat)), Value.int .i64 (D2 (3 : Nat)), Value.int .i64 (D2 (4 : Nat)), Value.int .i64 (D2 (5 : Nat)), Value.int .i64 (D2 (6 : Nat))] [Value.int .i64 (P2 (0 : Nat)), Value.int .i64 (P2 (1 : Nat)), Value.int .i64 (P2 (2 : Nat)), Value.int .i64 (P2 (3 : Nat)), Value.int .i64 (P2 (4 : Nat)), Value.int .i64 (P2 (5 : Nat)), Value.int .i64 (P2 (6 : Nat))]) ⟨⟨[(I 0), (I p), (I many), (I (o 0)), (I (o 1)), (I (o 2)), (I (o 3)), (I (o 4)), (I (o 5)), (I (o 6))], [⟨5, c⟩]⟩, [[(I 0), (I 0), (I 0), (I 0), (I 0), (I 0), (I 0)], [(I 0), (I 0), (I 0), (I 0), (I 0), (I 0), (I 0)]], []⟩) ∧
R ⟨⟨[], [⟨((5 : Nat)), ((5 : Nat))⟩]⟩, [[(I (P2 (0 : Nat))), (I (P2 (1 : Nat))), (I (P2 (2 : Nat))), (I (P2 (3 : Nat))), (I (P2 (4 : Nat)))]]⟩)) := by kernel_rfl
theorem f86_6 (p : Int) (c many : Nat) (b : Bool) (ms : List Value) (o D2 P2 : Nat → Int) (R : Hx → Prop) : (vx.call 86 [hV p 6 c, .agg ⟨ints 7 o⟩, I many] (retN (rowT 1 3) R) (m1 ms) ((11, .conW (CW96 p (6 : Nat) c many o (0 : Int) (ints (7 : Nat) fun x => (0 : Int)) (ints (7 : Nat) fun x => (0 : Int)) b (ints (7 : Nat) D2) (ints (7 : Nat) P2))) :: [(11, .tm (0 : Nat) [((1 : Nat), (7 : Nat))])])) =
(((ConWOK Try.prog ((96 : Nat)) (CW96 p (6 : Nat) c many o (0 : Int) [Value.int .i64 (0 : Int), Value.int .i64 (0 : Int), Value.int .i64 (0 : Int), Value.int .i64 (0 : Int), Value.int .i64 (0 : Int), Value.int .i64 (0 : Int), Value.int .i64 (0 : Int)] [Value.int .i64 (0 : Int), Value.int .i64 (0 : Int), Value.int .i64 (0 : Int), Value.int .i64 (0 : Int), Value.int .i64 (0 : Int), Value.int .i64 (0 : Int), Value.int .i64 (0 : Int)] b [Value.int .i64 (D2 (0 : Nat)), Value.int .i64 (D2 (1 : Nat)), Value.int .i64 (D2 (2 : Nat)), Value.int .i64 (D2 (3 : Nat)), Value.int .i64 (D2 (4 : Nat)), Value.int .i64 (D2 (5 : Nat)), Value.int .i64 (D2 (6 : Nat))] [Value.int .i64 (P2 (0 : Nat)), Value.int .i64 (P2 (1 : Nat)), Value.int .i64 (P2 (2 : Nat)), Value.int .i64 (P2 (3 : Nat)), Value.int .i64 (P2 (4 : Nat)), Value.int .i64 (P2 (5 : Nat)), Value.int .i64 (P2 (6 : Nat))])) ∧ (ConW.pre (CW96 p (6 : Nat) c many o (0 : Int) [Value.int .i64 (0 : Int), Value.int .i64 (0 : Int), Value.int .i64 (0 : Int), Value.int .i64 (0 : Int), Value.int .i64 (0 : Int), Value.int .i64 (0 : Int), Value.int .i64 (0 : Int)] [Value.int .i64 (0 : Int), Value.int .i64 (0 : Int), Value.int .i64 (0 : Int), Value.int .i64 (0 : Int), Value.int .i64 (0 : Int), Value.int .i64 (0 : Int), Value.int .i64 (0 : Int)] b [Value.int .i64 (D2 (0 : Nat)), Value.int .i64 (D2 (1 : Nat)), Value.int .i64 (D2 (2 : Nat)), Value.int .i64 (D2 (3 : Nat)), Value.int .i64 (D2 (4 : Nat)), Value.int .i64 (D2 (5 : Nat)), Value.int .i64 (D2 (6 : Nat))] [Value.int .i64 (P2 (0 : Nat)), Value.int .i64 (P2 (1 : Nat)), Value.int .i64 (P2 (2 : Nat)), Value.int .i64 (P2 (3 : Nat)), Value.int .i64 (P2 (4 : Nat)), Value.int .i64 (P2 (5 : Nat)), Value.int .i64 (P2 (6 : Nat))]) ⟨⟨[(I 0), (I p), (I many), (I (o 0)), (I (o 1)), (I (o 2)), (I (o 3)), (I (o 4)), (I (o 5)), (I (o 6))], [⟨6, c⟩]⟩, [[(I 0), (I 0), (I 0), (I 0), (I 0), (I 0), (I 0)], [(I 0), (I 0), (I 0), (I 0), (I 0), (I 0), (I 0)]], []⟩) ∧
R ⟨⟨[], [⟨((6 : Nat)), ((6 : Nat))⟩]⟩, [[(I (P2 (0 : Nat))), (I (P2 (1 : Nat))), (I (P2 (2 : Nat))), (I (P2 (3 : Nat))), (I (P2 (4 : Nat))), (I (P2 (5 : Nat)))]]⟩)) := by kernel_rfl
theorem f86_7 (p : Int) (c many : Nat) (b : Bool) (ms : List Value) (o D2 P2 : Nat → Int) (R : Hx → Prop) : (vx.call 86 [hV p 7 c, .agg ⟨ints 7 o⟩, I many] (retN (rowT 1 3) R) (m1 ms) ((11, .conW (CW96 p (7 : Nat) c many o (0 : Int) (ints (7 : Nat) fun x => (0 : Int)) (ints (7 : Nat) fun x => (0 : Int)) b (ints (7 : Nat) D2) (ints (7 : Nat) P2))) :: [(11, .tm (0 : Nat) [((1 : Nat), (7 : Nat))])])) =
(((ConWOK Try.prog ((96 : Nat)) (CW96 p (7 : Nat) c many o (0 : Int) [Value.int .i64 (0 : Int), Value.int .i64 (0 : Int), Value.int .i64 (0 : Int), Value.int .i64 (0 : Int), Value.int .i64 (0 : Int), Value.int .i64 (0 : Int), Value.int .i64 (0 : Int)] [Value.int .i64 (0 : Int), Value.int .i64 (0 : Int), Value.int .i64 (0 : Int), Value.int .i64 (0 : Int), Value.int .i64 (0 : Int), Value.int .i64 (0 : Int), Value.int .i64 (0 : Int)] b [Value.int .i64 (D2 (0 : Nat)), Value.int .i64 (D2 (1 : Nat)), Value.int .i64 (D2 (2 : Nat)), Value.int .i64 (D2 (3 : Nat)), Value.int .i64 (D2 (4 : Nat)), Value.int .i64 (D2 (5 : Nat)), Value.int .i64 (D2 (6 : Nat))] [Value.int .i64 (P2 (0 : Nat)), Value.int .i64 (P2 (1 : Nat)), Value.int .i64 (P2 (2 : Nat)), Value.int .i64 (P2 (3 : Nat)), Value.int .i64 (P2 (4 : Nat)), Value.int .i64 (P2 (5 : Nat)), Value.int .i64 (P2 (6 : Nat))])) ∧ (ConW.pre (CW96 p (7 : Nat) c many o (0 : Int) [Value.int .i64 (0 : Int), Value.int .i64 (0 : Int), Value.int .i64 (0 : Int), Value.int .i64 (0 : Int), Value.int .i64 (0 : Int), Value.int .i64 (0 : Int), Value.int .i64 (0 : Int)] [Value.int .i64 (0 : Int), Value.int .i64 (0 : Int), Value.int .i64 (0 : Int), Value.int .i64 (0 : Int), Value.int .i64 (0 : Int), Value.int .i64 (0 : Int), Value.int .i64 (0 : Int)] b [Value.int .i64 (D2 (0 : Nat)), Value.int .i64 (D2 (1 : Nat)), Value.int .i64 (D2 (2 : Nat)), Value.int .i64 (D2 (3 : Nat)), Value.int .i64 (D2 (4 : Nat)), Value.int .i64 (D2 (5 : Nat)), Value.int .i64 (D2 (6 : Nat))] [Value.int .i64 (P2 (0 : Nat)), Value.int .i64 (P2 (1 : Nat)), Value.int .i64 (P2 (2 : Nat)), Value.int .i64 (P2 (3 : Nat)), Value.int .i64 (P2 (4 : Nat)), Value.int .i64 (P2 (5 : Nat)), Value.int .i64 (P2 (6 : Nat))]) ⟨⟨[(I 0), (I p), (I many), (I (o 0)), (I (o 1)), (I (o 2)), (I (o 3)), (I (o 4)), (I (o 5)), (I (o 6))], [⟨7, c⟩]⟩, [[(I 0), (I 0), (I 0), (I 0), (I 0), (I 0), (I 0)], [(I 0), (I 0), (I 0), (I 0), (I 0), (I 0), (I 0)]], []⟩) ∧
R ⟨⟨[], [⟨((7 : Nat)), ((7 : Nat))⟩]⟩, [[(I (P2 (0 : Nat))), (I (P2 (1 : Nat))), (I (P2 (2 : Nat))), (I (P2 (3 : Nat))), (I (P2 (4 : Nat))), (I (P2 (5 : Nat))), (I (P2 (6 : Nat)))]]⟩)) := by kernel_rfl
theorem two_pow_lt {n : Nat} (hn : n ≤ 7) : 2 ^ n ≤ 128 ∧ 0 < 2 ^ n := by
  have : n = 0 ∨ n = 1 ∨ n = 2 ∨ n = 3 ∨ n = 4 ∨ n = 5 ∨ n = 6 ∨ n = 7 := by omega
  rcases this with rfl | rfl | rfl | rfl | rfl | rfl | rfl | rfl <;> decide
theorem wrap_sets {n : Nat} (hn : n ≤ 7) : IntKind.i64.wrap (IntKind.i64.wrap (IntKind.i64.wrap ((1 : Int) * (2 : Int) ^ n) - 1) + 1) = ((2 ^ n : Nat) : Int) := by
  obtain ⟨h1, h2⟩ := two_pow_lt hn
  have e : (1 : Int) * 2 ^ n = ((2 ^ n : Nat) : Int) := by simp
  rw [e]
  generalize 2 ^ n = z at h1 h2
  rw [wrapI (x := (z : Int)) (by omega) (by omega), wrapI (x := (z : Int) - 1) (by omega) (by omega), wrapI (by omega) (by omega)]
  omega
theorem C87_ok {n : Nat} {o : Nat → Int} (hn : n ≤ 7) : ConOK Try.prog 87 (C87 n o (bestF o (2 ^ n))) := by
  refine con_of vx_sound _ (fun y hy => ?_) rfl (fun y _ => rfl) (fun y hy => ?_) rfl (Nat.le_of_ble_eq_true rfl) (by rw [nglob]; exact Nat.zero_le _)
  · cases hy
    obtain ⟨h1, h2⟩ := two_pow_lt hn
    have hl := loop93 (o := o) h1 h2
    refine ⟨_, (f87 n (2 ^ n) (bestF o (2 ^ n)) o _).mpr ⟨⟨⟨by omega, by omega⟩, rfl⟩, ?_⟩⟩
    rw [wrap_sets hn]
    exact ⟨clB (2 ^ n) 0 0 false, hl, rfl⟩
  · cases hy
    intro cs hcs
    cases hcs
section
variable {p : Int} {n c : Nat} {f : Nat → Mv}
theorem C25_ok (sure : Bool) (hok : okH p n f = true) (hn : n ≤ 7) : ConOK Try.prog 25 (C25 sure p n c f (bestF (ordF sure p n f n) (2 ^ n))) := by
  refine con_of vx_sound _ (fun y hy => ?_) rfl (fun y _ => rfl) (fun y hy => ?_) rfl (Nat.le_of_ble_eq_true rfl) (by rw [nglob]; exact Nat.zero_le _)
  · cases hy
    cases sure
    · exact ⟨_, (f25f p n c _ f _).mpr ⟨C68t_ok p n c f (by omega), ⟨rfl, hok⟩, ⟨⟨Nat.le_refl _, rfl⟩, ⟨Nat.le_refl _, rfl⟩, trivial⟩, C44_ok _ p n c f hn, rfl, ⟨⟨Nat.le_refl _, rfl⟩, trivial⟩, ⟨⟨Nat.le_refl _, rfl⟩, trivial⟩, C87_ok hn, rfl, rfl⟩⟩
    · exact ⟨_, (f25t p n c _ f _).mpr ⟨C68t_ok p n c f (by omega), ⟨rfl, hok⟩, ⟨⟨Nat.le_refl _, rfl⟩, ⟨Nat.le_refl _, rfl⟩, trivial⟩, C44_ok _ p n c f hn, rfl, ⟨⟨Nat.le_refl _, rfl⟩, trivial⟩, ⟨⟨Nat.le_refl _, rfl⟩, trivial⟩, C87_ok hn, rfl, rfl⟩⟩
  · cases hy
    exact mvs_atoms n f
def planF (o : Nat → Int) (n many : Nat) : Bool × Gs := giveF (fitsN o n) n many 8 0 ⟨fun _ => 0, fun _ => 0⟩
theorem C86_ok {o : Nat → Int} {many : Nat} (hn : n ≤ 7) (h0 : 0 < n) (hm : many ≤ 7) : ConNOK Try.prog 86 (C86c p n c (mvs n f) o many (ints n fun i => ((planF o n many).2.P i : Int))) := by
  refine conRow_of rfl vx_sound (C := C86c p n c (mvs n f) o many (ints n fun i => ((planF o n many).2.P i : Int))) (n := n) (cells := ints n fun i => ((planF o n many).2.P i : Int)) (e := 3) ⟨⟨I p :: ints 7 o ++ [I many], [(n, c)]⟩, [mvs n f]⟩ (fun x => Iff.rfl) rfl rfl rfl ?_ (mvs_atoms n f) (ints_atoms n _ _ List.mem_cons_self) rfl (Nat.le_of_ble_eq_true rfl) (by rw [nglob]; exact Nat.zero_le _)
  have hC := C96_ok (p := p) (o := o) (c := c) hn hm 8 0 ⟨fun _ => 0, fun _ => 0⟩ (Nat.zero_le n) (by omega) (fun h => Nat.zero_lt_succ _)
  have hC : ConWOK Try.prog 96 (C96 p o n c many 0 ⟨fun _ => 0, fun _ => 0⟩ (planF o n many)) := hC
  generalize planF o n many = r at hC
  obtain ⟨b, σ⟩ := r
  have hn' : n = 1 ∨ n = 2 ∨ n = 3 ∨ n = 4 ∨ n = 5 ∨ n = 6 ∨ n = 7 := by omega
  rcases hn' with rfl | rfl | rfl | rfl | rfl | rfl | rfl
  · exact ⟨_, (f86_1 p c many b (mvs 1 f) o (fun i => (σ.D i : Int)) (fun i => (σ.P i : Int)) _).mpr ⟨hC, rfl, rfl⟩⟩
  · exact ⟨_, (f86_2 p c many b (mvs 2 f) o (fun i => (σ.D i : Int)) (fun i => (σ.P i : Int)) _).mpr ⟨hC, rfl, rfl⟩⟩
  · exact ⟨_, (f86_3 p c many b (mvs 3 f) o (fun i => (σ.D i : Int)) (fun i => (σ.P i : Int)) _).mpr ⟨hC, rfl, rfl⟩⟩
  · exact ⟨_, (f86_4 p c many b (mvs 4 f) o (fun i => (σ.D i : Int)) (fun i => (σ.P i : Int)) _).mpr ⟨hC, rfl, rfl⟩⟩
  · exact ⟨_, (f86_5 p c many b (mvs 5 f) o (fun i => (σ.D i : Int)) (fun i => (σ.P i : Int)) _).mpr ⟨hC, rfl, rfl⟩⟩
  · exact ⟨_, (f86_6 p c many b (mvs 6 f) o (fun i => (σ.D i : Int)) (fun i => (σ.P i : Int)) _).mpr ⟨hC, rfl, rfl⟩⟩
  · exact ⟨_, (f86_7 p c many b (mvs 7 f) o (fun i => (σ.D i : Int)) (fun i => (σ.P i : Int)) _).mpr ⟨hC, rfl, rfl⟩⟩
theorem fewN_le (o : Nat → Int) (hn : n ≤ 7) : fewN (canO o id) id n ≤ 7 := Nat.le_trans (fewS_ok (can := canO o id) (q := id) (n := n) (fun s hs => by show s < 7; omega) n (Nat.le_refl n)).2 hn
def fewH (sure : Bool) (p : Int) (n : Nat) (f : Nat → Mv) : Nat := fewN (canO (ordF sure p n f n) id) id n
theorem C24_ok (sure : Bool) (hok : okH p n f = true) (hn : n ≤ 7) (h0 : 0 < n) : ConNOK Try.prog 24 (C24 sure p n c f (fewH sure p n f) (planF (ordF sure p n f n) n (fewH sure p n f)).2.P) := by
  refine conRow3_of rfl vx_sound (C := C24 sure p n c f (fewH sure p n f) (planF (ordF sure p n f n) n (fewH sure p n f)).2.P) (n := n) (cells := ints n fun i => ((planF (ordF sure p n f n) n (fewH sure p n f)).2.P i : Int)) (e := 3) (y0 := fewH sure p n f) (z := 0) ⟨⟨[I p, .bool sure], [(n, c)]⟩, [mvs n f]⟩ (fun x => Iff.rfl) rfl rfl rfl ?_ (mvs_atoms n f) (ints_atoms n _ _ List.mem_cons_self) rfl (Nat.le_of_ble_eq_true rfl) (by rw [nglob]; exact Nat.zero_le _)
  have hid : ∀ i j, i < n → j < n → id i = id j → i = j := fun i j _ _ h => h
  have h83 : ConOK Try.prog 83 (C83c (ordF sure p n f n) n n (jobsC n f) (fewH sure p n f)) := C83_ok (o := ordF sure p n f n) (c := n) (f := f) (q := id) hn hid (fun i hi => by show i < 7; omega)
  have h86 := C86_ok (p := p) (c := c) (f := f) (o := ordF sure p n f n) hn h0 (fewN_le (ordF sure p n f n) hn)
  cases sure
  · exact ⟨_, (f24f p n c _ f _ _).mpr ⟨C68t_ok p n c f (by omega), ⟨rfl, hok⟩, ⟨⟨Nat.le_refl _, rfl⟩, ⟨Nat.le_refl _, rfl⟩, trivial⟩, C44_ok _ p n c f hn, rfl, ⟨⟨Nat.le_refl _, rfl⟩, trivial⟩, C49_ok p n c f h0 (by omega), rfl, ⟨⟨Nat.le_refl _, rfl⟩, trivial⟩, h83, rfl, h86, rfl, rfl⟩⟩
  · exact ⟨_, (f24t p n c _ f _ _).mpr ⟨C68t_ok p n c f (by omega), ⟨rfl, hok⟩, ⟨⟨Nat.le_refl _, rfl⟩, ⟨Nat.le_refl _, rfl⟩, trivial⟩, C44_ok _ p n c f hn, rfl, ⟨⟨Nat.le_refl _, rfl⟩, trivial⟩, C49_ok p n c f h0 (by omega), rfl, ⟨⟨Nat.le_refl _, rfl⟩, trivial⟩, h83, rfl, h86, rfl, rfl⟩⟩
end
end Go.Ab
