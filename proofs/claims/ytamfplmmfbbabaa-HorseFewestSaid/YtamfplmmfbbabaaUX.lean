/- the law HorseFewest: what it calls. -/
import Derived.Test.YtamfplmmfbbabaaUV
import Derived.Test.YtamfplmmfbbabaaUW
import Derived.Test.YtamfplmmfbbabaaUT
set_option maxRecDepth 100000
namespace Go.Ab
open Go Go.RowKit Go.Proofs
theorem b26 (p : Int) (n c k d : Nat) (f : Nat → Mv) (g : Nat → Nat) (i : Nat) (R : Nat → AExit → Hw → Prop) : (vx.code none (.l p26) (leafW [T26] R) (T26.inst (st26 p n c k d f g i)) ([(3, .split ((3, .val (.pointer (.some ⟨((1 : Nat)), ((0 : Nat) + i * (1 : Nat)), .none⟩))) :: (0, .val (I ((↑(g i) : Int)))) :: [(8, .split ([(7, .tm 0 [])]) ([(5, .tm 0 [])]))]) ([(1, .tm 0 [])]))])) =
((((decide ((↑i : Int) < (↑k : Int))) = true → ((((((0 : Int) ≤ (↑i : Int))) ∧ (((↑i : Int) < (↑k : Int)))) ∧ (((.pointer (.some ⟨((1 : Nat)), ((0 : Nat) + i * (1 : Nat)), .none⟩)) : Value) = (.pointer (.some ⟨((1 : Nat)), ((0 : Nat) + i * (1 : Nat)), .none⟩)))) ∧
((((natL k g)[(0 : Nat) + i * (1 : Nat)]? = some (I ((↑(g i) : Int))))) ∧
(((decide ((↑(g i) : Int) ≤ (6 : Int))) = true → R 0 .normal ⟨⟨[(.bool false), (I (IntKind.i64.wrap ((↑i : Int) + (1 : Int)))), (I p)], [⟨k, d⟩, ⟨n, c⟩]⟩, [(mvs n f), (natL k g)], []⟩) ∧
((decide ((↑(g i) : Int) ≤ (6 : Int))) = false → R 0 .ret ⟨⟨[(.bool false), (I i), (I p)], [⟨k, d⟩, ⟨n, c⟩]⟩, [(mvs n f), (natL k g)], []⟩))))) ∧
((decide ((↑i : Int) < (↑k : Int))) = false → R 0 (.exit ((0 : Nat))) ⟨⟨[(.bool false), (I i), (I p)], [⟨k, d⟩, ⟨n, c⟩]⟩, [(mvs n f), (natL k g)], []⟩))) := by kernel_rfl
theorem b28i (k d : Nat) (g : Nat → Nat) (a i : Nat) (fr : Bool) (j : Nat) (R : Nat → AExit → Hw → Prop) : (vx.code none (.l p28i) (leafW [T28i] R) (T28i.inst (st28i k d g a i fr j)) ([(2, .split ([(1, .split ((3, .val (.pointer (.some ⟨((0 : Nat)), ((0 : Nat) + j * (1 : Nat)), .none⟩))) :: (0, .val (I ((↑(g j) : Int)))) :: (2, .val (.pointer (.some ⟨((0 : Nat)), ((0 : Nat) + i * (1 : Nat)), .none⟩))) :: (0, .val (I ((↑(g i) : Int)))) :: [(0, .split ([(5, .tm 0 [])]) ([(5, .tm 0 [])]))]) ([(6, .tm 0 [])]))]) ([(1, .tm 0 [])]))])) =
((((decide ((↑j : Int) < (↑i : Int))) = true → (((fr) = true → ((((((0 : Int) ≤ (↑j : Int))) ∧ (((↑j : Int) < (↑k : Int)))) ∧ (((.pointer (.some ⟨((0 : Nat)), ((0 : Nat) + j * (1 : Nat)), .none⟩)) : Value) = (.pointer (.some ⟨((0 : Nat)), ((0 : Nat) + j * (1 : Nat)), .none⟩)))) ∧
((((natL k g)[(0 : Nat) + j * (1 : Nat)]? = some (I ((↑(g j) : Int))))) ∧
((((((0 : Int) ≤ (↑i : Int))) ∧ (((↑i : Int) < (↑k : Int)))) ∧ (((.pointer (.some ⟨((0 : Nat)), ((0 : Nat) + i * (1 : Nat)), .none⟩)) : Value) = (.pointer (.some ⟨((0 : Nat)), ((0 : Nat) + i * (1 : Nat)), .none⟩)))) ∧
((((natL k g)[(0 : Nat) + i * (1 : Nat)]? = some (I ((↑(g i) : Int))))) ∧
((((↑(g j) : Int) != (↑(g i) : Int)) = true → R 0 .normal ⟨⟨[(I ((↑(0 : Nat) : Int))), (I a), (I i), (.bool true), (I (IntKind.i64.wrap ((↑j : Int) + (1 : Int))))], [⟨k, d⟩]⟩, [(natL k g)], []⟩) ∧
(((↑(g j) : Int) != (↑(g i) : Int)) = false → R 0 .normal ⟨⟨[(I ((↑(0 : Nat) : Int))), (I a), (I i), (.bool false), (I (IntKind.i64.wrap ((↑j : Int) + (1 : Int))))], [⟨k, d⟩]⟩, [(natL k g)], []⟩))))))) ∧
((fr) = false → R 0 .normal ⟨⟨[(I ((↑(0 : Nat) : Int))), (I a), (I i), (.bool false), (I (IntKind.i64.wrap ((↑j : Int) + (1 : Int))))], [⟨k, d⟩]⟩, [(natL k g)], []⟩))) ∧
((decide ((↑j : Int) < (↑i : Int))) = false → R 0 (.exit ((2 : Nat))) ⟨⟨[(I ((↑(0 : Nat) : Int))), (I a), (I i), (.bool fr), (I j)], [⟨k, d⟩]⟩, [(natL k g)], []⟩))) := by kernel_rfl
theorem b28o (k d : Nat) (g : Nat → Nat) (a i : Nat) (fr : Bool) (R : Nat → AExit → Hw → Prop) : (vx.code none (.l p28o) (leafW [T28o] R) (T28o.inst (st28o k d g a i)) ([(3, .split ((3, .loopW T28i (AExit.exit (2 : Nat)) T28i fun x => st28i k d g a i fr i) :: [(0, .split ([(7, .tm 0 [])]) ([(4, .tm 0 [])]))]) ([(1, .tm 0 [])]))])) =
((((decide ((↑i : Int) < (↑k : Int))) = true → ((ClW ⟨⟨[(I ((↑(0 : Nat) : Int))), (I a), (I i), (.bool true), (I 0)], [⟨k, d⟩]⟩, [(natL k g)], []⟩) ∧ (LoopOW Try.prog .none p28i (T28i) ⟨⟨[(I ((↑(0 : Nat) : Int))), (I a), (I i), (.bool true), (I 0)], [⟨k, d⟩]⟩, [(natL k g)], []⟩ (.exit ((2 : Nat))) (T28i) ⟨⟨[(I ((↑(0 : Nat) : Int))), (I a), (I i), (.bool fr), (I i)], [⟨k, d⟩]⟩, [(natL k g)], []⟩) ∧
(((fr) = true → R 0 .normal ⟨⟨[(I ((↑(0 : Nat) : Int))), (I (IntKind.i64.wrap ((↑a : Int) + (1 : Int)))), (I (IntKind.i64.wrap ((↑i : Int) + (1 : Int))))], [⟨k, d⟩]⟩, [(natL k g)], []⟩) ∧
((fr) = false → R 0 .normal ⟨⟨[(I ((↑(0 : Nat) : Int))), (I a), (I (IntKind.i64.wrap ((↑i : Int) + (1 : Int))))], [⟨k, d⟩]⟩, [(natL k g)], []⟩)))) ∧
((decide ((↑i : Int) < (↑k : Int))) = false → R 0 (.exit ((0 : Nat))) ⟨⟨[(I ((↑(0 : Nat) : Int))), (I a), (I i)], [⟨k, d⟩]⟩, [(natL k g)], []⟩))) := by kernel_rfl
theorem f26 (p : Int) (n c k d : Nat) (f : Nat → Mv) (g : Nat → Nat) (R : ARes → Prop) : (vx.call 26 [hV p n c, slV 1 k d] (retK R) (m2 (mvs n f) (natL k g)) ((4, .loopW T26 (AExit.exit (0 : Nat)) T26 fun x => st26 p n c k d f g k) :: [(5, .split ([]) ([]))])) =
(((ClW ⟨⟨[(.bool false), (I 0), (I p)], [⟨k, d⟩, ⟨n, c⟩]⟩, [(mvs n f), (natL k g)], []⟩) ∧ (LoopOW Try.prog .none p26 (T26) ⟨⟨[(.bool false), (I 0), (I p)], [⟨k, d⟩, ⟨n, c⟩]⟩, [(mvs n f), (natL k g)], []⟩ (.exit ((0 : Nat))) (T26) ⟨⟨[(.bool false), (I k), (I p)], [⟨k, d⟩, ⟨n, c⟩]⟩, [(mvs n f), (natL k g)], []⟩) ∧
((((↑k : Int) == (↑n : Int)) = true → R (.ret (.bool true))) ∧
(((↑k : Int) == (↑n : Int)) = false → R (.ret (.bool false)))))) := by kernel_rfl
theorem f28 (k d : Nat) (g : Nat → Nat) (a : Nat) (R : ARes → Prop) : (vx.call 28 [slV 0 k d] (retK R) (mL (natL k g)) ((4, .loopW T28o (AExit.exit (0 : Nat)) T28o fun x => st28o k d g a k) :: [])) =
(((ClW ⟨⟨[(I 0), (I 0), (I 0)], [⟨k, d⟩]⟩, [(natL k g)], []⟩) ∧ (LoopOW Try.prog .none p28o (T28o) ⟨⟨[(I 0), (I 0), (I 0)], [⟨k, d⟩]⟩, [(natL k g)], []⟩ (.exit ((0 : Nat))) (T28o) ⟨⟨[(I ((↑(0 : Nat) : Int))), (I a), (I k)], [⟨k, d⟩]⟩, [(natL k g)], []⟩) ∧
R (.ret (I a)))) := by kernel_rfl
theorem f27t (p : Int) (n c k d : Nat) (f : Nat → Mv) (g : Nat → Int) (a b e : Int) (R : ARes → Prop) : (vx.call 27 [hV p n c, slV 1 k d, .bool true] (retK R) (m2 (mvs n f) (ints k g)) ((6, .con ((C16 true p n c k d f g).when (ARes.ret (Value.tuple { toList := [I a, I b, I e] })))) :: [(8, .split ([]) ([]))])) =
(((ConOK Try.prog 16 ((C16 true p n c k d f g).when (ARes.ret (Value.tuple { toList := [I a, I b, I e] })))) ∧ (Con.pre ((C16 true p n c k d f g).when (ARes.ret (Value.tuple { toList := [I a, I b, I e] }))) ⟨⟨[(I p), (.bool true)], [⟨n, c⟩, ⟨k, d⟩]⟩, [(mvs n f), (ints k g)]⟩) ∧
(((e == (4 : Int)) = true → R (.ret (.bool true))) ∧
((e == (4 : Int)) = false → R (.ret (.bool false)))))) := by kernel_rfl
theorem f27f (p : Int) (n c k d : Nat) (f : Nat → Mv) (g : Nat → Int) (a b e : Int) (R : ARes → Prop) : (vx.call 27 [hV p n c, slV 1 k d, .bool false] (retK R) (m2 (mvs n f) (ints k g)) ((6, .con ((C16 false p n c k d f g).when (ARes.ret (Value.tuple { toList := [I a, I b, I e] })))) :: [(8, .split ([]) ([]))])) =
(((ConOK Try.prog 16 ((C16 false p n c k d f g).when (ARes.ret (Value.tuple { toList := [I a, I b, I e] })))) ∧ (Con.pre ((C16 false p n c k d f g).when (ARes.ret (Value.tuple { toList := [I a, I b, I e] }))) ⟨⟨[(I p), (.bool false)], [⟨n, c⟩, ⟨k, d⟩]⟩, [(mvs n f), (ints k g)]⟩) ∧
(((e == (4 : Int)) = true → R (.ret (.bool true))) ∧
((e == (4 : Int)) = false → R (.ret (.bool false)))))) := by kernel_rfl
theorem natL_get {k : Nat} {g : Nat → Nat} {i : Nat} (h : i < k) : (natL k g)[0 + i * 1]? = some (I (g i)) := by
  exact ints_get (fun i => (g i : Int)) h
theorem natL_atom (k : Nat) (g : Nat → Nat) : ∀ v ∈ natL k g, atomic v = true := ints_atom k _
theorem cl26 (p : Int) (n c k d : Nat) (f : Nat → Mv) (g : Nat → Nat) (i : Nat) : ClW (st26 p n c k d f g i) :=
  ⟨fun cs h => by
    simp only [st26, List.mem_cons, List.not_mem_nil, or_false] at h
    rcases h with rfl | rfl
    · exact mvs_atoms n f _ (by simp)
    · exact natL_atom k g, fun cs h => (by cases h)⟩
theorem loop26 (p : Int) (n c k d : Nat) (f : Nat → Mv) (g : Nat → Nat) (hk : k ≤ 7) (hg : ∀ i, i < k → g i < 7) : LoopOW Try.prog none p26 T26 (st26 p n c k d f g 0) (.exit 0) T26 (st26 p n c k d f g k) := by
  refine loop_forW (Ts := [T26]) (k := 3) (n := k) (e := .exit 0) (st := fun i => (0, st26 p n c k d f g i)) rfl vx_sound ?_ (by rw [nglob]; omega) ⟨by simp, trivial⟩ (fun i _ => cl26 p n c k d f g i) (fun i hi R hR => ?_) (fun R hR => ?_) rfl (Nat.le_of_ble_eq_true rfl) (by decide) rfl
  · intro T hT; simp only [List.mem_singleton] at hT; subst hT; rfl
  · have hw : IntKind.i64.wrap ((i : Int) + 1) = ((i + 1 : Nat) : Int) := wrapI (by omega) (by omega)
    have := hg i hi
    refine ⟨T26, _, rfl, (b26 p n c k d f g i R).mpr ⟨fun _ => ⟨⟨⟨by omega, by omega⟩, rfl⟩, natL_get hi, fun _ => ?_, fun h => absurd (by omega) (of_decide_eq_false h)⟩, fun h => absurd (by omega) (of_decide_eq_false h)⟩⟩
    rw [hw]
    exact hR
  · exact ⟨T26, _, rfl, (b26 p n c k d f g k R).mpr ⟨fun h => absurd (of_decide_eq_true h) (by omega), fun _ => hR⟩⟩
theorem C26_ok (p : Int) (n c k d : Nat) (f : Nat → Mv) (g : Nat → Nat) (hk : k ≤ 7) (hg : ∀ i, i < k → g i < 7) : ConOK Try.prog 26 (C26 p n c k d f g) := by
  refine con_of vx_sound _ (fun x hx => ?_) rfl (fun x _ => rfl) (fun x hx => ?_) rfl (Nat.le_of_ble_eq_true rfl) (by rw [nglob]; exact Nat.zero_le _)
  · cases hx
    refine ⟨_, (f26 p n c k d f g _).mpr ⟨cl26 p n c k d f g 0, loop26 p n c k d f g hk hg, fun h => ?_, fun h => ?_⟩⟩
    · show ARes.ret (.bool true) = ARes.ret (.bool (decide ((k : Int) = n)))
      rw [decide_eq_true (eq_of_beq h)]
    · show ARes.ret (.bool false) = ARes.ret (.bool (decide ((k : Int) = n)))
      rw [decide_eq_false (fun e => by rw [e] at h; simp at h)]
  · cases hx
    intro cs hcs
    simp only [List.mem_cons, List.not_mem_nil, or_false] at hcs
    rcases hcs with rfl | rfl
    · exact mvs_atoms n f _ (by simp)
    · exact natL_atom k g
noncomputable def rightB (sure : Bool) (p : Int) (n k : Nat) (f : Nat → Mv) (g : Nat → Int) : Bool := (pairS g (ordF sure p n f n) k k 0).isNone
theorem C27_ok (sure : Bool) (p : Int) (n c k d : Nat) (f : Nat → Mv) (g : Nat → Nat) (hok : okH p n f = true) (hpl : okP n k (fun i => (g i : Int)) = true) (hn : n ≤ 7) (hk : k ≤ 7) : ConOK Try.prog 27 (C27 sure p n c k d f g (rightB sure p n k f fun i => (g i : Int))) := by
  have h16 : ∀ r, ConOK Try.prog 16 ((C16 sure p n c k d f fun i => (g i : Int)).when r) := fun r => con_when (C16_ok sure p n c k d f (fun i => (g i : Int)) hok hpl hn hk) r
  refine con_of vx_sound _ (fun x hx => ?_) rfl (fun x _ => rfl) (fun x hx => ?_) rfl (Nat.le_of_ble_eq_true rfl) (by rw [nglob]; exact Nat.zero_le _)
  · cases hx
    show ∃ hs, vx.call 27 [hV p n c, slV 1 k d, .bool sure] (retK fun r => r = .ret (.bool (rightB sure p n k f fun i => (g i : Int)))) (m2 (mvs n f) (natL k g)) hs
    cases hs : pairS (fun i => (g i : Int)) (ordF sure p n f n) k k 0 with
    | none =>
      have hv : (C16 sure p n c k d f fun i => (g i : Int)).res ⟨⟨[I p, .bool sure], [(n, c), (k, d)]⟩, [mvs n f, natL k g]⟩ = .ret (.tuple ⟨[I 0, I 0, I 4]⟩) := by simp only [C16, checkV, hs]
      have hb : rightB sure p n k f (fun i => (g i : Int)) = true := by simp only [rightB, hs]; rfl
      rw [hb]
      cases sure
      · exact ⟨_, (f27f p n c k d f (fun i => (g i : Int)) 0 0 4 _).mpr ⟨h16 _, ⟨rfl, hv⟩, fun _ => rfl, fun h => absurd h (by decide)⟩⟩
      · exact ⟨_, (f27t p n c k d f (fun i => (g i : Int)) 0 0 4 _).mpr ⟨h16 _, ⟨rfl, hv⟩, fun _ => rfl, fun h => absurd h (by decide)⟩⟩
    | some m =>
      have hv : (C16 sure p n c k d f fun i => (g i : Int)).res ⟨⟨[I p, .bool sure], [(n, c), (k, d)]⟩, [mvs n f, natL k g]⟩ = .ret (.tuple ⟨[I m.1, I m.2, I 0]⟩) := by simp only [C16, checkV, hs]
      have hb : rightB sure p n k f (fun i => (g i : Int)) = false := by simp only [rightB, hs]; rfl
      rw [hb]
      cases sure
      · exact ⟨_, (f27f p n c k d f (fun i => (g i : Int)) m.1 m.2 0 _).mpr ⟨h16 _, ⟨rfl, hv⟩, fun h => absurd h (by decide), fun _ => rfl⟩⟩
      · exact ⟨_, (f27t p n c k d f (fun i => (g i : Int)) m.1 m.2 0 _).mpr ⟨h16 _, ⟨rfl, hv⟩, fun h => absurd h (by decide), fun _ => rfl⟩⟩
  · cases hx
    intro cs hcs
    simp only [List.mem_cons, List.not_mem_nil, or_false] at hcs
    rcases hcs with rfl | rfl
    · exact mvs_atoms n f _ (by simp)
    · exact natL_atom k g
def frB (g : Nat → Nat) (i : Nat) : Nat → Bool
  | 0 => true
  | j + 1 => frB g i j && (g j : Int) != (g i : Int)
def usN (g : Nat → Nat) : Nat → Nat
  | 0 => 0
  | i + 1 => if frB g i i = true then usN g i + 1 else usN g i
theorem usN_le (g : Nat → Nat) (i : Nat) : usN g i ≤ i := by
  induction i with
  | zero => exact Nat.le_refl _
  | succ i ih => simp only [usN]; split <;> omega
theorem frB_used (g : Nat → Nat) (i j : Nat) : frB g i j = !usedB g j (g i) := by
  induction j with
  | zero => rfl
  | succ j ih =>
    have e1 : ((g j : Int) != (g i : Int)) = !(g j == g i) := by
      by_cases e : g j = g i
      · rw [e, BEq.rfl]; simp
      · have h2 : (g j : Int) ≠ g i := by omega
        rw [bne_iff_ne.2 h2, beq_false_of_ne e]
        rfl
    simp only [frB, usedB, ih, Bool.not_or, e1]
theorem usN_cnt (g : Nat → Nat) (m : Nat) : ∀ n, (∀ i, i < n → g i < m) → usN g n = cnt (usedB g n) m := by
  intro n
  induction n with
  | zero => intro _; exact (cnt_false m).symm
  | succ n ih =>
    intro h
    have h1 := ih fun i hi => h i (by omega)
    have h2 := cnt_upd (P := usedB g n) (Q := usedB g (n + 1)) (s := g n) (h n (by omega)) (fun v hv => by
      show (usedB g n v || g n == v) = usedB g n v
      rw [beq_false_of_ne (Ne.symm hv), Bool.or_false])
    have h3 : usedB g (n + 1) (g n) = true := by simp only [usedB, BEq.rfl, Bool.or_true]
    rw [if_pos h3] at h2
    simp only [usN, frB_used]
    cases hu : usedB g n (g n) with
    | true => rw [if_pos hu] at h2; simp only [Bool.not_true, Bool.false_eq_true, if_false]; omega
    | false => rw [if_neg (by rw [hu]; decide)] at h2; simp only [Bool.not_false, if_true]; omega
theorem cl28o (k d : Nat) (g : Nat → Nat) (a i : Nat) : ClW (st28o k d g a i) :=
  ⟨fun cs h => by simp only [st28o, List.mem_singleton] at h; subst h; exact natL_atom k g, fun cs h => (by cases h)⟩
theorem cl28i (k d : Nat) (g : Nat → Nat) (a i : Nat) (fr : Bool) (j : Nat) : ClW (st28i k d g a i fr j) :=
  ⟨fun cs h => by simp only [st28i, List.mem_singleton] at h; subst h; exact natL_atom k g, fun cs h => (by cases h)⟩
theorem loop28i (k d : Nat) (g : Nat → Nat) (a i : Nat) (hk : k ≤ 7) (hi : i < k) : LoopOW Try.prog none p28i T28i (st28i k d g a i true 0) (.exit 2) T28i (st28i k d g a i (frB g i i) i) := by
  refine loop_forW (Ts := [T28i]) (k := 1) (n := i) (e := .exit 2) (st := fun j => (0, st28i k d g a i (frB g i j) j)) rfl vx_sound ?_ (by rw [nglob]; omega) ⟨by simp, trivial⟩ (fun j _ => cl28i k d g a i _ j) (fun j hj R hR => ?_) (fun R hR => ?_) rfl (Nat.le_of_ble_eq_true rfl) (by decide) rfl
  · intro T hT; simp only [List.mem_singleton] at hT; subst hT; rfl
  · have hw : IntKind.i64.wrap ((j : Int) + 1) = ((j + 1 : Nat) : Int) := wrapI (by omega) (by omega)
    have key : ∀ v, frB g i (j + 1) = v → R 0 .normal (st28i k d g a i v (j + 1)) := fun v hv => by subst hv; exact hR
    refine ⟨T28i, _, rfl, (b28i k d g a i (frB g i j) j R).mpr ⟨fun _ => ⟨fun h1 => ⟨⟨⟨by omega, by omega⟩, rfl⟩, natL_get (by omega), ⟨⟨by omega, by omega⟩, rfl⟩, natL_get hi, fun h2 => ?_, fun h2 => ?_⟩, fun h1 => ?_⟩, fun h => absurd (by omega) (of_decide_eq_false h)⟩⟩
    all_goals rw [hw]
    · exact key true (by simp only [frB, h1, h2, Bool.and_self])
    · exact key false (by simp only [frB, h1, h2, Bool.and_false])
    · exact key false (by simp only [frB, h1, Bool.false_and])
  · exact ⟨T28i, _, rfl, (b28i k d g a i (frB g i i) i R).mpr ⟨fun h => absurd (of_decide_eq_true h) (by omega), fun _ => hR⟩⟩
theorem loop28o (k d : Nat) (g : Nat → Nat) (hk : k ≤ 7) : LoopOW Try.prog none p28o T28o (st28o k d g 0 0) (.exit 0) T28o (st28o k d g (usN g k) k) := by
  refine loop_forW (Ts := [T28o]) (k := 1) (n := k) (e := .exit 0) (st := fun i => (0, st28o k d g (usN g i) i)) rfl vx_sound ?_ (by rw [nglob]; omega) ⟨by simp, trivial⟩ (fun i _ => cl28o k d g _ i) (fun i hi R hR => ?_) (fun R hR => ?_) rfl (Nat.le_of_ble_eq_true rfl) (by decide) rfl
  · intro T hT; simp only [List.mem_singleton] at hT; subst hT; rfl
  · have hw : IntKind.i64.wrap ((i : Int) + 1) = ((i + 1 : Nat) : Int) := wrapI (by omega) (by omega)
    have hu := usN_le g i
    have hw2 : IntKind.i64.wrap ((usN g i : Int) + 1) = ((usN g i + 1 : Nat) : Int) := wrapI (by omega) (by omega)
    have key : ∀ v, usN g (i + 1) = v → R 0 .normal (st28o k d g v (i + 1)) := fun v hv => by subst hv; exact hR
    refine ⟨T28o, _, rfl, (b28o k d g (usN g i) i (frB g i i) R).mpr ⟨fun _ => ⟨cl28i k d g _ i true 0, loop28i k d g _ i hk hi, fun h1 => ?_, fun h1 => ?_⟩, fun h => absurd (by omega) (of_decide_eq_false h)⟩⟩
    · rw [hw, hw2]
      exact key _ (by simp only [usN, h1, if_true])
    · rw [hw]
      exact key _ (by simp only [usN, h1, Bool.false_eq_true, if_false])
  · exact ⟨T28o, _, rfl, (b28o k d g (usN g k) k true R).mpr ⟨fun h => absurd (of_decide_eq_true h) (by omega), fun _ => hR⟩⟩
theorem C28_ok (k d : Nat) (g : Nat → Nat) (hk : k ≤ 7) : ConOK Try.prog 28 (C28 k d g (usN g k)) := by
  refine con_of vx_sound _ (fun x hx => ?_) rfl (fun x _ => rfl) (fun x hx => ?_) rfl (Nat.le_of_ble_eq_true rfl) (by rw [nglob]; exact Nat.zero_le _)
  · cases hx
    exact ⟨_, (f28 k d g (usN g k) _).mpr ⟨cl28o k d g 0 0, loop28o k d g hk, rfl⟩⟩
  · cases hx
    intro cs hcs
    simp only [List.mem_cons, List.not_mem_nil, or_false] at hcs
    subst hcs
    exact natL_atom k g
end Go.Ab
/- the law HorseFewest: what the first plan is. -/
set_option maxRecDepth 100000
namespace Go.Ab
open Go Go.RowKit Go.Proofs
theorem allFrom_of {b : Nat → Bool} : ∀ r m, (∀ i, m ≤ i → i < m + r → b i = true) → allFrom b r m = true := by
  intro r
  induction r with
  | zero => intro m _; rfl
  | succ r ih =>
    intro m hm
    simp only [allFrom, hm m (by omega) (by omega), Bool.true_and]
    exact ih (m + 1) fun i h1 h2 => hm i (by omega) (by omega)
theorem search_no {b : Nat → Bool} : ∀ {r m : Nat}, search b r m = none ↔ ∀ i, m ≤ i → i < m + r → b i = false := by
  intro r
  induction r with
  | zero => intro m; exact ⟨fun _ i h1 h2 => by omega, fun _ => rfl⟩
  | succ r ih =>
    intro m
    simp only [search]
    cases hb : b m with
    | true =>
      simp only [if_true]
      exact ⟨fun h => (by cases h), fun h => by have := h m (by omega) (by omega); rw [hb] at this; cases this⟩
    | false =>
      simp only [Bool.false_eq_true, if_false]
      rw [ih]
      constructor
      · intro h i h1 h2
        by_cases e : i = m
        · subst e; exact hb
        · exact h i (by omega) (by omega)
      · intro h i h1 h2
        exact h i (by omega) (by omega)
theorem pairS_no {g o : Nat → Int} {k : Nat} : ∀ {r i : Nat}, pairS g o k r i = none ↔ ∀ a, i ≤ a → a < i + r → rowS g o k a = none := by
  intro r
  induction r with
  | zero => intro i; exact ⟨fun _ a h1 h2 => by omega, fun _ => rfl⟩
  | succ r ih =>
    intro i
    simp only [pairS]
    cases hb : rowS g o k i with
    | some j => exact ⟨fun h => (by cases h), fun h => by have := h i (by omega) (by omega); rw [hb] at this; cases this⟩
    | none =>
      rw [ih]
      constructor
      · intro h a h1 h2
        by_cases e : a = i
        · subst e; exact hb
        · exact h a (by omega) (by omega)
      · intro h a h1 h2
        exact h a (by omega) (by omega)
section
variable {p : Int} {n : Nat} {f : Nat → Mv} {sure : Bool}
theorem right_iff (h : HOK p n f) {g : Nat → Nat} : rightB sure p n n f (fun i => (g i : Int)) = true ↔ ∀ i j, i < j → j < n → g i = g j → Lk (canB sure p f) i j := by
  have bad : ∀ i j, i < n → j < n → (badB (fun i => (g i : Int)) (ordF sure p n f n) i j = false ↔ (g i = g j → Lk (canB sure p f) i j)) := fun i j hi hj => by
    simp only [badB, linkB, hasI_ord sure p f h.n7 hi hj, hasI_ord sure p f h.n7 hj hi, Lk]
    by_cases e : g i = g j
    · rw [e]
      cases canB sure p f i j <;> cases canB sure p f j i <;> simp
    · have h2 : ((g i : Int) == (g j : Int)) = false := beq_false_of_ne (by omega)
      rw [h2]
      simp [e]
  simp only [rightB, Option.isNone_iff_eq_none, pairS_no, rowS, search_no]
  constructor
  · intro hh i j hij hj
    exact (bad i j (by omega) hj).1 (hh i (by omega) (by omega) j (by omega) (by omega))
  · intro hh i _ hi j h1 h2
    exact (bad i j (by omega) (by omega)).2 (hh i j (by omega) (by omega))
theorem fits_ok (h : HOK p n f) : Fits (canB sure p f) (fitsN (ordF sure p n f n) n) n := by
  have hn7 := h.n7
  intro D m hD hm
  have bitI : ∀ k, hasI (D : Int) k = D.testBit k := fun k => hasI_mask D k (by omega)
  show allFrom (fun k => !(hasI (D : Int) k && !linkB (ordF sure p n f n) k m)) n 0 = true ↔ _
  have each : ∀ k, k < n → ((!(hasI (D : Int) k && !linkB (ordF sure p n f n) k m)) = true ↔ (D.testBit k = true → Lk (canB sure p f) k m)) := fun k hk => by
    rw [bitI]
    simp only [linkB, hasI_ord sure p f hn7 hk hm, hasI_ord sure p f hn7 hm hk, Lk]
    cases D.testBit k <;> cases canB sure p f k m <;> cases canB sure p f m k <;> simp
  constructor
  · intro ha k hk hb
    exact (each k hk).1 (allFrom_iff _ n 0 ha k (by omega) (by omega)) hb
  · intro ha
    exact allFrom_of n 0 fun k _ hk => (each k (by omega)).2 (ha k (by omega))
def firstP (sure : Bool) (p : Int) (n : Nat) (f : Nat → Mv) : Nat → Nat := (planF (ordF sure p n f n) n (fewH sure p n f)).2.P
theorem first_ok (h : HOK p n f) : Pl (canB sure p f) (fewH sure p n f) n (firstP sure p n f) ∧ ∀ Q, Pl (canB sure p f) (fewH sure p n f) n Q → Bef n (firstP sure p n f) Q := by
  obtain ⟨Q, hQ⟩ := plan_ex (can := canO (ordF sure p n f n) id) (q := id) (n := n) (fun i j _ _ e => e) h.n7 (fun i => (f i).at_.toNat)
    (fun i j hi hj hc => can_mu h hi hj (by rw [← canO_eq h hi hj]; exact hc))
    (fun i j k hi hj hk h1 h2 => by
      rw [canO_eq h hi hj] at h1
      rw [canO_eq h hj hk] at h2
      rw [canO_eq h hi hk]
      exact can_trans h hi hj hk h1 h2)
  have hQ' : Pl (canB sure p f) (fewH sure p n f) n Q := ⟨hQ.lt, fun i j hij hj he => by
    have := hQ.ok i j hij hj he
    simp only [Lk, canO_eq h (show i < n by omega) hj, canO_eq h hj (show i < n by omega)] at this
    exact this⟩
  exact giveF_first (fits_ok h) h.n7 hQ'
theorem few_le7 (h : HOK p n f) : fewH sure p n f ≤ 7 := fewN_le _ h.n7
theorem first_lt (h : HOK p n f) {i : Nat} (hi : i < n) : firstP sure p n f i < 7 := by
  have := (first_ok (sure := sure) h).1.lt i hi
  have := few_le7 (sure := sure) h
  omega
theorem first_right (h : HOK p n f) : rightB sure p n n f (fun i => (firstP sure p n f i : Int)) = true := (right_iff h).2 (first_ok h).1.ok
theorem used_few (h : HOK p n f) {g : Nat → Nat} (hg : ∀ i, i < n → g i < 7) (hr : rightB sure p n n f (fun i => (g i : Int)) = true) : fewH sure p n f ≤ usN g n := by
  obtain ⟨X, hX, hc⟩ := few_ex (sure := sure) h
  rw [usN_cnt g 7 n hg]
  exact Nat.le_trans hc (used_ge hX ⟨hg, (right_iff h).1 hr⟩)
theorem first_used (h : HOK p n f) : usN (firstP sure p n f) n = fewH sure p n f := by
  have h1 : fewH sure p n f ≤ usN (firstP sure p n f) n := used_few (sure := sure) h (fun i hi => first_lt h hi) (first_right h)
  have h2 : usN (firstP sure p n f) n ≤ fewH sure p n f := by
    rw [usN_cnt _ (fewH sure p n f) n (first_ok h).1.lt]
    exact cnt_le _ _
  omega
theorem first_next (h : HOK p n f) {i : Nat} (hi : i < n) : firstP sure p n f i ≤ nextF (firstP sure p n f) i := first_canon (first_ok h).1 (first_ok h).2 hi
theorem first_least (h : HOK p n f) {g : Nat → Nat} (hg : ∀ i, i < n → g i < 7) (hr : rightB sure p n n f (fun i => (g i : Int)) = true) (hu : usN g n = fewH sure p n f) {i : Nat} (hi : i < n) (hpre : ∀ j, j < i → g j = firstP sure p n f j) : firstP sure p n f i ≤ g i :=
  first_before (first_ok h).1 (first_ok h).2 (m := 7) ⟨hg, (right_iff h).1 hr⟩ (by rw [← usN_cnt g 7 n hg]; exact hu) hi hpre
theorem okP_nat {g : Nat → Nat} (hg : ∀ i, i < n → g i < 7) : okP n n (fun i => (g i : Int)) = true := by
  have h1 : ((n : Int) != (n : Int)) = false := bne_self_eq_false _
  simp only [okP, h1, Bool.not_false, Bool.true_and]
  refine allFrom_of n 0 fun i _ hi => ?_
  have := hg i (by omega)
  simp only [okN, Bool.and_eq_true, decide_eq_true_eq]
  omega
theorem proof_pair (h : HOK p n f) {i j : Nat} (hi : i < n) (hj : j < n) (h1 : (proofH sure p n f).testBit i = true) (h2 : (proofH sure p n f).testBit j = true) : folV p n f i j < cond sure 2 1 := by
  have := proof_anti (p := p) (f := f) (sure := sure) h.n7 i j hi hj h1 h2
  have h3 := folV_can h sure hi hj
  rw [this] at h3
  exact of_decide_eq_true h3
end
end Go.Ab
/- the law HorseFewest: its loops. -/
set_option maxRecDepth 100000
namespace Go.Ab
open Go Go.RowKit Go.Proofs
theorem b5a (sure : Bool) (p : Int) (n c k d : Nat) (f : Nat → Mv) (bs : Nat → Int) (many found : Nat) (P : Nat → Nat) (next i : Nat) (R : Nat → AExit → Hw → Prop) : (vx.code none (.l p5a) (leafW [T5a] R) (T5a.inst (st5a sure p n c k d f bs many found P next i)) ([(0, .split ((1, .val (.pointer (.some ⟨((5 : Nat)), ((0 : Nat) + i * (1 : Nat)), .none⟩))) :: (0, .val (I ((↑(P i) : Int)))) :: [(3, .split ([(2, .tm 0 [])]) ([(8, .tm 0 [])]))]) ([(1, .tm 0 [])]))])) =
((((decide ((↑i : Int) < (↑n : Int))) = true → ((((((0 : Int) ≤ (↑i : Int))) ∧ (((↑i : Int) < (↑n : Int)))) ∧ (((.pointer (.some ⟨((5 : Nat)), ((0 : Nat) + i * (1 : Nat)), .none⟩)) : Value) = (.pointer (.some ⟨((5 : Nat)), ((0 : Nat) + i * (1 : Nat)), .none⟩)))) ∧
((((natL n P)[(0 : Nat) + i * (1 : Nat)]? = some (I ((↑(P i) : Int))))) ∧
(((decide ((↑(P i) : Int) > (↑next : Int))) = true → R 0 .ret ⟨⟨[(.bool sure), (I many), (I found), (I next), (I n), (I i), (I p)], [⟨k, d⟩, ⟨n, n⟩, ⟨n, n⟩, ⟨n, c⟩]⟩, [(mvs n f), (u8s k bs), (natL n P)], []⟩) ∧
((decide ((↑(P i) : Int) > (↑next : Int))) = false → R 0 .normal ⟨⟨[(.bool sure), (I many), (I found), (I (if IntKind.i64.wrap ((↑(P i) : Int) + (1 : Int)) > (↑next : Int) then IntKind.i64.wrap ((↑(P i) : Int) + (1 : Int)) else (↑next : Int))), (I n), (I (IntKind.i64.wrap ((↑i : Int) + (1 : Int)))), (I p)], [⟨k, d⟩, ⟨n, n⟩, ⟨n, n⟩, ⟨n, c⟩]⟩, [(mvs n f), (u8s k bs), (natL n P)], []⟩))))) ∧
((decide ((↑i : Int) < (↑n : Int))) = false → R 0 (.exit ((0 : Nat))) ⟨⟨[(.bool sure), (I many), (I found), (I next), (I n), (I i), (I p)], [⟨k, d⟩, ⟨n, n⟩, ⟨n, n⟩, ⟨n, c⟩]⟩, [(mvs n f), (u8s k bs), (natL n P)], []⟩))) := by kernel_rfl
theorem b5c (sure : Bool) (p : Int) (n c k d : Nat) (f : Nat → Mv) (bs : Nat → Int) (many found : Nat) (P : Nat → Nat) (can : Int) (i j : Nat) (R : Nat → AExit → Hw → Prop) : (vx.code none (.l p5c) (leafW [T5c] R) (T5c.inst (st5c sure p n c k d f bs many found P can i j)) ([(0, .split ((6, .con (C18 p i j n c f)) :: (10, .val (I ((↑found : Int) / (2 : Int) ^ i))) :: [(1, .split ((3, .val (I ((↑found : Int) / (2 : Int) ^ j))) :: [(1, .split ([(4, .split ([(4, .tm 0 [])]) ([(5, .tm 0 [])]))]) ([(7, .tm 0 [])]))]) ([(8, .tm 0 [])]))]) ([(1, .tm 0 [])]))])) =
((((decide ((↑j : Int) < (↑n : Int))) = true → ((ConOK Try.prog 18 (C18 p i j n c f)) ∧ (Con.pre (C18 p i j n c f) ⟨⟨[(I p), (I i), (I j)], [⟨n, c⟩]⟩, [(mvs n f)]⟩) ∧
((((((0 : Int) ≤ (↑i : Int))) ∧ (((↑i : Int) ≤ (↑(64 : Nat) : Int)))) ∧ (((I ((↑found : Int) / (2 : Int) ^ i)) : Value) = (I ((↑found : Int) / (2 : Int) ^ i)))) ∧
(((bits BinOp.and IntKind.i64 ((↑found : Int) / (2 : Int) ^ i) (1 : Int) == (1 : Int)) = true → ((((((0 : Int) ≤ (↑j : Int))) ∧ (((↑j : Int) ≤ (↑(64 : Nat) : Int)))) ∧ (((I ((↑found : Int) / (2 : Int) ^ j)) : Value) = (I ((↑found : Int) / (2 : Int) ^ j)))) ∧
(((bits BinOp.and IntKind.i64 ((↑found : Int) / (2 : Int) ^ j) (1 : Int) == (1 : Int)) = true → (((decide (folV p n f i j ≥ can)) = true → R 0 .ret ⟨⟨[(.bool sure), (I many), (I found), (I can), (I i), (I n), (I i), (I n), (I j), (I p)], [⟨k, d⟩, ⟨n, n⟩, ⟨n, c⟩]⟩, [(mvs n f), (u8s k bs), (natL n P)], []⟩) ∧
((decide (folV p n f i j ≥ can)) = false → R 0 .normal ⟨⟨[(.bool sure), (I many), (I found), (I can), (I i), (I n), (I i), (I n), (I (IntKind.i64.wrap ((↑j : Int) + (1 : Int)))), (I p)], [⟨k, d⟩, ⟨n, n⟩, ⟨n, c⟩]⟩, [(mvs n f), (u8s k bs), (natL n P)], []⟩))) ∧
((bits BinOp.and IntKind.i64 ((↑found : Int) / (2 : Int) ^ j) (1 : Int) == (1 : Int)) = false → R 0 .normal ⟨⟨[(.bool sure), (I many), (I found), (I can), (I i), (I n), (I i), (I n), (I (IntKind.i64.wrap ((↑j : Int) + (1 : Int)))), (I p)], [⟨k, d⟩, ⟨n, n⟩, ⟨n, c⟩]⟩, [(mvs n f), (u8s k bs), (natL n P)], []⟩)))) ∧
((bits BinOp.and IntKind.i64 ((↑found : Int) / (2 : Int) ^ i) (1 : Int) == (1 : Int)) = false → R 0 .normal ⟨⟨[(.bool sure), (I many), (I found), (I can), (I i), (I n), (I i), (I n), (I (IntKind.i64.wrap ((↑j : Int) + (1 : Int)))), (I p)], [⟨k, d⟩, ⟨n, n⟩, ⟨n, c⟩]⟩, [(mvs n f), (u8s k bs), (natL n P)], []⟩))))) ∧
((decide ((↑j : Int) < (↑n : Int))) = false → R 0 (.exit ((4 : Nat))) ⟨⟨[(.bool sure), (I many), (I found), (I can), (I i), (I n), (I i), (I n), (I j), (I p)], [⟨k, d⟩, ⟨n, n⟩, ⟨n, c⟩]⟩, [(mvs n f), (u8s k bs), (natL n P)], []⟩))) := by kernel_rfl
theorem b5b (sure : Bool) (p : Int) (n c k d : Nat) (f : Nat → Mv) (bs : Nat → Int) (many found : Nat) (P : Nat → Nat) (can : Int) (i : Nat) (R : Nat → AExit → Hw → Prop) : (vx.code none (.l p5b) (leafW [T5b] R) (T5b.inst (st5b sure p n c k d f bs many found P can i)) ([(0, .split ((7, .loopW T5c (AExit.exit (4 : Nat)) T5c fun x => st5c sure p n c k d f bs many found P can i n) :: [(2, .tm 0 [])]) ([(1, .tm 0 [])]))])) =
((((decide ((↑i : Int) < (↑n : Int))) = true → ((ClW ⟨⟨[(.bool sure), (I many), (I found), (I can), (I i), (I n), (I i), (I n), (I 0), (I p)], [⟨k, d⟩, ⟨n, n⟩, ⟨n, c⟩]⟩, [(mvs n f), (u8s k bs), (natL n P)], []⟩) ∧ (LoopOW Try.prog .none p5c (T5c) ⟨⟨[(.bool sure), (I many), (I found), (I can), (I i), (I n), (I i), (I n), (I 0), (I p)], [⟨k, d⟩, ⟨n, n⟩, ⟨n, c⟩]⟩, [(mvs n f), (u8s k bs), (natL n P)], []⟩ (.exit ((4 : Nat))) (T5c) ⟨⟨[(.bool sure), (I many), (I found), (I can), (I i), (I n), (I i), (I n), (I n), (I p)], [⟨k, d⟩, ⟨n, n⟩, ⟨n, c⟩]⟩, [(mvs n f), (u8s k bs), (natL n P)], []⟩) ∧
R 0 .normal ⟨⟨[(.bool sure), (I many), (I found), (I can), (I n), (I (IntKind.i64.wrap ((↑i : Int) + (1 : Int)))), (I p)], [⟨k, d⟩, ⟨n, n⟩, ⟨n, c⟩]⟩, [(mvs n f), (u8s k bs), (natL n P)], []⟩)) ∧
((decide ((↑i : Int) < (↑n : Int))) = false → R 0 (.exit ((2 : Nat))) ⟨⟨[(.bool sure), (I many), (I found), (I can), (I n), (I i), (I p)], [⟨k, d⟩, ⟨n, n⟩, ⟨n, c⟩]⟩, [(mvs n f), (u8s k bs), (natL n P)], []⟩))) := by kernel_rfl
theorem three_cl {n k : Nat} {f : Nat → Mv} {bs : Nat → Int} {P : Nat → Nat} {h : Hs} : ClW ⟨h, [mvs n f, u8s k bs, natL n P], []⟩ :=
  ⟨fun cs hc => by
    simp only [List.mem_cons, List.not_mem_nil, or_false] at hc
    rcases hc with rfl | rfl | rfl
    · exact mvs_atoms n f _ (by simp)
    · exact u8s_atoms k bs
    · exact natL_atom n P, fun cs hc => (by cases hc)⟩
section
variable {p : Int} {n c k d : Nat} {f : Nat → Mv} {bs : Nat → Int} {many found : Nat} {P : Nat → Nat}
theorem cl5a (sure : Bool) (i : Nat) : ClW (st5a sure p n c k d f bs many found P (nextF P i) i) := three_cl
theorem cl5b (sure : Bool) (can : Int) (i : Nat) : ClW (st5b sure p n c k d f bs many found P can i) := three_cl
theorem cl5c (sure : Bool) (can : Int) (i j : Nat) : ClW (st5c sure p n c k d f bs many found P can i j) := three_cl
theorem nextF_le {P : Nat → Nat} : ∀ {i : Nat}, (∀ j, j < i → P j < 7) → nextF P i ≤ 7 := by
  intro i
  induction i with
  | zero => intro _; exact Nat.zero_le _
  | succ i ih =>
    intro h
    have h1 := ih fun j hj => h j (by omega)
    have h2 := h i (by omega)
    simp only [nextF]
    omega
theorem loop5a (sure : Bool) (hn : n ≤ 7) (hP : ∀ i, i < n → P i < 7) (hc : ∀ i, i < n → P i ≤ nextF P i) :
    LoopOW Try.prog none p5a T5a (st5a sure p n c k d f bs many found P 0 0) (.exit 0) T5a (st5a sure p n c k d f bs many found P (nextF P n) n) := by
  refine loop_forW (Ts := [T5a]) (k := 6) (n := n) (e := .exit 0) (st := fun i => (0, st5a sure p n c k d f bs many found P (nextF P i) i)) rfl vx_sound ?_ (by rw [nglob]; omega) ⟨by simp, trivial⟩ (fun i _ => cl5a sure i) (fun i hi R hR => ?_) (fun R hR => ?_) rfl (Nat.le_of_ble_eq_true rfl) (by decide) rfl
  · intro T hT; simp only [List.mem_singleton] at hT; subst hT; rfl
  · have hw : IntKind.i64.wrap ((i : Int) + 1) = ((i + 1 : Nat) : Int) := wrapI (by omega) (by omega)
    have h1 := hP i hi
    have h2 := hc i hi
    have hw2 : IntKind.i64.wrap ((P i : Int) + 1) = ((P i + 1 : Nat) : Int) := wrapI (by omega) (by omega)
    have e : (if ((P i + 1 : Nat) : Int) > (nextF P i : Int) then ((P i + 1 : Nat) : Int) else (nextF P i : Int)) = (nextF P (i + 1) : Nat) := by
      simp only [nextF]
      split <;> omega
    refine ⟨T5a, _, rfl, (b5a sure p n c k d f bs many found P (nextF P i) i R).mpr ⟨fun _ => ⟨⟨⟨by omega, by omega⟩, rfl⟩, natL_get hi, fun h => absurd (of_decide_eq_true h) (by omega), fun _ => ?_⟩, fun h => absurd (by omega) (of_decide_eq_false h)⟩⟩
    rw [hw, hw2, e]
    exact hR
  · exact ⟨T5a, _, rfl, (b5a sure p n c k d f bs many found P (nextF P n) n R).mpr ⟨fun h => absurd (of_decide_eq_true h) (by omega), fun _ => hR⟩⟩
theorem bitI {found i : Nat} (hf : found < 128) : (bits BinOp.and IntKind.i64 ((found : Int) / (2 : Int) ^ i) (1 : Int) == (1 : Int)) = found.testBit i := by
  have h := nb_eq (own := found) (i := i) (by omega)
  simp only [nb] at h
  have e : (1 : Int) = ((1 : Nat) : Int) := rfl
  have e2 : ((found : Int) / (2 : Int) ^ i) = ((found / 2 ^ i : Nat) : Int) := by simp
  have h3 : found / 2 ^ i ≤ found := Nat.div_le_self _ _
  rw [e2, e, and_nat _ 1 (by omega) (by omega)]
  rw [Nat.and_one_is_mod]
  simp only [Nat.testBit, Nat.shiftRight_eq_div_pow, Nat.one_and_eq_mod_two]
  have : found / 2 ^ i % 2 = 0 ∨ found / 2 ^ i % 2 = 1 := by omega
  rcases this with h0 | h0 <;> rw [h0] <;> rfl
theorem loop5c (hok : okH p n f = true) (sure : Bool) (can : Int) (hf : found < 128) {i : Nat} (hi : i < n)
    (hp : ∀ j, j < n → found.testBit i = true → found.testBit j = true → folV p n f i j < can) :
    LoopOW Try.prog none p5c T5c (st5c sure p n c k d f bs many found P can i 0) (.exit 4) T5c (st5c sure p n c k d f bs many found P can i n) := by
  have h7 := (okH_iff hok).n7
  refine loop_forW (Ts := [T5c]) (k := 6) (n := n) (e := .exit 4) (st := fun j => (0, st5c sure p n c k d f bs many found P can i j)) rfl vx_sound ?_ (by rw [nglob]; omega) ⟨by simp, trivial⟩ (fun j _ => cl5c sure can i j) (fun j hj R hR => ?_) (fun R hR => ?_) rfl (Nat.le_of_ble_eq_true rfl) (by decide) rfl
  · intro T hT; simp only [List.mem_singleton] at hT; subst hT; rfl
  · have hw : IntKind.i64.wrap ((j : Int) + 1) = ((j + 1 : Nat) : Int) := wrapI (by omega) (by omega)
    refine ⟨T5c, _, rfl, (b5c sure p n c k d f bs many found P can i j R).mpr ⟨fun _ => ?_, fun h => absurd (by omega) (of_decide_eq_false h)⟩⟩
    rw [hw]
    refine ⟨C18_ok p i j n c f hok hi hj h7, rfl, ⟨⟨by omega, by omega⟩, rfl⟩, fun h1 => ⟨⟨⟨by omega, by omega⟩, rfl⟩, fun h2 => ⟨fun h3 => ?_, fun _ => hR⟩, fun _ => hR⟩, fun _ => hR⟩
    rw [bitI hf] at h1 h2
    have := hp j hj h1 h2
    exact absurd (of_decide_eq_true h3) (by omega)
  · exact ⟨T5c, _, rfl, (b5c sure p n c k d f bs many found P can i n R).mpr ⟨fun h => absurd (of_decide_eq_true h) (by omega), fun _ => hR⟩⟩
theorem loop5b (hok : okH p n f = true) (sure : Bool) (can : Int) (hf : found < 128)
    (hp : ∀ i j, i < n → j < n → found.testBit i = true → found.testBit j = true → folV p n f i j < can) :
    LoopOW Try.prog none p5b T5b (st5b sure p n c k d f bs many found P can 0) (.exit 2) T5b (st5b sure p n c k d f bs many found P can n) := by
  have h7 := (okH_iff hok).n7
  refine loop_forW (Ts := [T5b]) (k := 6) (n := n) (e := .exit 2) (st := fun i => (0, st5b sure p n c k d f bs many found P can i)) rfl vx_sound ?_ (by rw [nglob]; omega) ⟨by simp, trivial⟩ (fun i _ => cl5b sure can i) (fun i hi R hR => ?_) (fun R hR => ?_) rfl (Nat.le_of_ble_eq_true rfl) (by decide) rfl
  · intro T hT; simp only [List.mem_singleton] at hT; subst hT; rfl
  · have hw : IntKind.i64.wrap ((i : Int) + 1) = ((i + 1 : Nat) : Int) := wrapI (by omega) (by omega)
    refine ⟨T5b, _, rfl, (b5b sure p n c k d f bs many found P can i R).mpr ⟨fun _ => ⟨cl5c sure can i 0, loop5c hok sure can hf hi (fun j hj => hp i j hi hj), ?_⟩, fun h => absurd (by omega) (of_decide_eq_false h)⟩⟩
    rw [hw]
    exact hR
  · exact ⟨T5b, _, rfl, (b5b sure p n c k d f bs many found P can n R).mpr ⟨fun h => absurd (of_decide_eq_true h) (by omega), fun _ => hR⟩⟩
end
end Go.Ab
/- the law HorseProof: what its runs need. -/
set_option maxRecDepth 100000
namespace Go.Ab
open Go Go.RowKit Go.Proofs
section
variable {p : Int} {n : Nat} {f : Nat → Mv}
theorem proof_128 {sure : Bool} (hn : n ≤ 7) : proofH sure p n f < 128 := Nat.lt_of_lt_of_le (proof_lt hn) (two_pow_lt hn).1
end
noncomputable def planC (sure : Bool) (p : Int) (n : Nat) (f : Nat → Mv) : List Value := ints n fun i => ((planF (ordF sure p n f n) n (fewH sure p n f)).2.P i : Int)
theorem C24c_ok {p : Int} {n c : Nat} {f : Nat → Mv} (sure : Bool) (hok : okH p n f = true) (hn : n ≤ 7) (h0 : 0 < n) : ConNOK Try.prog 24 (C24c sure p n c (mvs n f) (fewH sure p n f) (planC sure p n f)) := C24_ok sure hok hn h0
end Go.Ab
/- the law HorseFewest: its run where plans are compared. -/
set_option maxRecDepth 100000
namespace Go.Ab
open Go Go.RowKit Go.Proofs
theorem b5d (n many kk : Nat) (P g : Nat → Nat) (i : Nat) (R : Nat → AExit → Hw → Prop) : (vx.code none (.l p5d) (leafW [T5d, R5d] R) (T5d.inst (st5d n many kk P g i)) ([(0, .split ([(5, .split ((3, .val (.pointer (.some ⟨((6 : Nat)), ((0 : Nat) + i * (1 : Nat)), .none⟩))) :: (0, .val (I ((↑(g i) : Int)))) :: (2, .val (.pointer (.some ⟨((5 : Nat)), ((0 : Nat) + i * (1 : Nat)), .none⟩))) :: (0, .val (I ((↑(P i) : Int)))) :: [(0, .split ((4, .val (.pointer (.some ⟨((5 : Nat)), ((0 : Nat) + i * (1 : Nat)), .none⟩))) :: (0, .val (I ((↑(P i) : Int)))) :: (2, .val (.pointer (.some ⟨((6 : Nat)), ((0 : Nat) + i * (1 : Nat)), .none⟩))) :: (0, .val (I ((↑(g i) : Int)))) :: [(0, .split ((1, .con C12) :: [(2, .tm 1 [])]) ([(3, .tm 1 [])]))]) ([(4, .tm 0 [])]))]) ([(5, .tm 0 [])]))]) ([(1, .tm 0 [])]))])) =
((((decide ((↑i : Int) < (↑n : Int))) = true → ((((↑kk : Int) == (↑many : Int)) = true → ((((((0 : Int) ≤ (↑i : Int))) ∧ (((↑i : Int) < (↑n : Int)))) ∧ (((.pointer (.some ⟨((6 : Nat)), ((0 : Nat) + i * (1 : Nat)), .none⟩)) : Value) = (.pointer (.some ⟨((6 : Nat)), ((0 : Nat) + i * (1 : Nat)), .none⟩)))) ∧
((((natL n g)[(0 : Nat) + i * (1 : Nat)]? = some (I ((↑(g i) : Int))))) ∧
((((((0 : Int) ≤ (↑i : Int))) ∧ (((↑i : Int) < (↑n : Int)))) ∧ (((.pointer (.some ⟨((5 : Nat)), ((0 : Nat) + i * (1 : Nat)), .none⟩)) : Value) = (.pointer (.some ⟨((5 : Nat)), ((0 : Nat) + i * (1 : Nat)), .none⟩)))) ∧
((((natL n P)[(0 : Nat) + i * (1 : Nat)]? = some (I ((↑(P i) : Int))))) ∧
((((↑(g i) : Int) != (↑(P i) : Int)) = true → ((((((0 : Int) ≤ (↑i : Int))) ∧ (((↑i : Int) < (↑n : Int)))) ∧ (((.pointer (.some ⟨((5 : Nat)), ((0 : Nat) + i * (1 : Nat)), .none⟩)) : Value) = (.pointer (.some ⟨((5 : Nat)), ((0 : Nat) + i * (1 : Nat)), .none⟩)))) ∧
((((natL n P)[(0 : Nat) + i * (1 : Nat)]? = some (I ((↑(P i) : Int))))) ∧
((((((0 : Int) ≤ (↑i : Int))) ∧ (((↑i : Int) < (↑n : Int)))) ∧ (((.pointer (.some ⟨((6 : Nat)), ((0 : Nat) + i * (1 : Nat)), .none⟩)) : Value) = (.pointer (.some ⟨((6 : Nat)), ((0 : Nat) + i * (1 : Nat)), .none⟩)))) ∧
((((natL n g)[(0 : Nat) + i * (1 : Nat)]? = some (I ((↑(g i) : Int))))) ∧
(((decide ((↑(P i) : Int) < (↑(g i) : Int))) = true → ((ConOK Try.prog 12 (C12)) ∧ (Con.pre (C12) ⟨⟨[], []⟩, []⟩) ∧
R 1 .ret ⟨⟨[(.bool true)], []⟩, [], []⟩)) ∧
((decide ((↑(P i) : Int) < (↑(g i) : Int))) = false → R 1 .ret ⟨⟨[(.bool false)], []⟩, [], []⟩))))))) ∧
(((↑(g i) : Int) != (↑(P i) : Int)) = false → R 0 .normal ⟨⟨[(I many), (I kk), (I n), (I (IntKind.i64.wrap ((↑i : Int) + (1 : Int))))], [⟨n, n⟩, ⟨n, n⟩]⟩, [(natL n P), (natL n g)], []⟩))))))) ∧
(((↑kk : Int) == (↑many : Int)) = false → R 0 .normal ⟨⟨[(I many), (I kk), (I n), (I (IntKind.i64.wrap ((↑i : Int) + (1 : Int))))], [⟨n, n⟩, ⟨n, n⟩]⟩, [(natL n P), (natL n g)], []⟩))) ∧
((decide ((↑i : Int) < (↑n : Int))) = false → R 0 (.exit ((6 : Nat))) ⟨⟨[(I many), (I kk), (I n), (I i)], [⟨n, n⟩, ⟨n, n⟩]⟩, [(natL n P), (natL n g)], []⟩))) := by kernel_rfl
section
variable {n many kk : Nat} {P g : Nat → Nat}
theorem cl5d (i : Nat) : ClW (st5d n many kk P g i) :=
  ⟨fun cs hc => by
    simp only [st5d, List.mem_cons, List.not_mem_nil, or_false] at hc
    rcases hc with rfl | rfl
    · exact natL_atom n P
    · exact natL_atom n g, fun cs hc => (by cases hc)⟩
noncomputable def ex5d (many kk : Nat) (P g : Nat → Nat) (i : Nat) : Option (AExit × Nat × Hw) := if ((kk : Int) == (many : Int)) && ((g i : Int) != (P i : Int)) then some (.ret, 1, rt5d (decide ((P i : Int) < (g i : Int)))) else none
theorem loop5d (hn : n ≤ 7) {T1 : Tw} (h1 : [T5d, R5d][(runX (ex5d many kk P g) (.exit 6, 0, st5d n many kk P g n) n 0).2.1]? = some T1) :
    LoopOW Try.prog none p5d T5d (st5d n many kk P g 0) (runX (ex5d many kk P g) (.exit 6, 0, st5d n many kk P g n) n 0).1 T1 (runX (ex5d many kk P g) (.exit 6, 0, st5d n many kk P g n) n 0).2.2 := by
  refine loop_untilW (Ts := [T5d, R5d]) (k := 7) (n := n) (st := fun i => (0, st5d n many kk P g i)) (e := .exit 6) (ex := ex5d many kk P g) rfl vx_sound ?_ (by rw [nglob]; omega) ⟨by simp, trivial⟩ (fun i _ => cl5d i) (fun i x hi hx => ?_) (fun i hi R h1 h2 => ?_) (fun R hR => ?_) (Nat.zero_le n) rfl (Nat.le_of_ble_eq_true rfl) (by decide) h1
  · intro T hT
    simp only [List.mem_cons, List.not_mem_nil, or_false] at hT
    rcases hT with rfl | rfl <;> rfl
  · unfold ex5d at hx
    split at hx
    · cases hx
      exact ⟨by simp, trivial, fun cs h => (by cases h), fun cs h => (by cases h)⟩
    · cases hx
  · have hw : IntKind.i64.wrap ((i : Int) + 1) = ((i + 1 : Nat) : Int) := wrapI (by omega) (by omega)
    refine ⟨T5d, _, rfl, (b5d n many kk P g i R).mpr ⟨fun _ => ?_, fun h => absurd (by omega) (of_decide_eq_false h)⟩⟩
    rw [hw]
    refine ⟨fun hA => ⟨⟨⟨by omega, by omega⟩, rfl⟩, natL_get hi, ⟨⟨by omega, by omega⟩, rfl⟩, natL_get hi, fun hB => ⟨⟨⟨by omega, by omega⟩, rfl⟩, natL_get hi, ⟨⟨by omega, by omega⟩, rfl⟩, natL_get hi, fun hC => ⟨C12_ok, rfl, ?_⟩, fun hC => ?_⟩, fun hB => ?_⟩, fun hA => ?_⟩
    · exact h2 (.ret, 1, rt5d true) (by simp only [ex5d, hA, hB, hC, Bool.and_self, if_true])
    · exact h2 (.ret, 1, rt5d false) (by simp only [ex5d, hA, hB, hC, Bool.and_self, if_true])
    · exact h1 (by simp only [ex5d, hB, Bool.and_false, Bool.false_eq_true, if_false])
    · exact h1 (by simp only [ex5d, hA, Bool.false_and, Bool.false_eq_true, if_false])
  · exact ⟨T5d, _, rfl, (b5d n many kk P g n R).mpr ⟨fun h => absurd (of_decide_eq_true h) (by omega), fun _ => hR⟩⟩
theorem run5d (fin : AExit × Nat × Hw) (hpre : ∀ i, i < n → kk = many → (∀ j, j < i → g j = P j) → P i ≤ g i) : ∀ r i, i + r = n → (kk = many → ∀ j, j < i → g j = P j) → runX (ex5d many kk P g) fin r i = fin ∨ runX (ex5d many kk P g) fin r i = (.ret, 1, rt5d true) := by
  intro r
  induction r with
  | zero => intro i _ _; exact .inl rfl
  | succ r ih =>
    intro i hr hp
    simp only [runX, ex5d]
    by_cases hc : (((kk : Int) == (many : Int)) && ((g i : Int) != (P i : Int))) = true
    · rw [if_pos hc]
      simp only [Bool.and_eq_true, beq_iff_eq, bne_iff_ne] at hc
      have e : kk = many := by omega
      have := hpre i (by omega) e (hp e)
      have hlt : (P i : Int) < (g i : Int) := by omega
      rw [decide_eq_true hlt]
      exact .inr rfl
    · rw [if_neg hc]
      refine ih (i + 1) (by omega) fun e j hj => ?_
      by_cases ej : j = i
      · subst ej
        simp only [Bool.and_eq_true, beq_iff_eq, bne_iff_ne, not_and, Classical.not_not] at hc
        have := hc (by omega)
        omega
      · exact hp e j (by omega)
end
def ownP (k : Nat) (b : Nat → Int) (i : Nat) : Nat := (planG k b i).toNat
theorem ownP_eq {k : Nat} {b : Nat → Int} (hb : ∀ i, i < k → 0 ≤ b i ∧ b i < 256) (i : Nat) : (ownP k b i : Int) = planG k b i := by
  have := planG_ok hb i
  simp only [okN, Bool.and_eq_true, decide_eq_true_eq] at this
  simp only [ownP]
  omega
theorem ownP_lt {k : Nat} {b : Nat → Int} (hb : ∀ i, i < k → 0 ≤ b i ∧ b i < 256) (i : Nat) : ownP k b i < 7 := by
  have := planG_ok hb i
  simp only [okN, Bool.and_eq_true, decide_eq_true_eq] at this
  simp only [ownP]
  omega
theorem ownL_eq {k : Nat} {b : Nat → Int} (n : Nat) (hb : ∀ i, i < k → 0 ≤ b i ∧ b i < 256) : natL n (ownP k b) = ints n (planG k b) := by
  show ints n (fun i => (ownP k b i : Int)) = _
  have : (fun i => (ownP k b i : Int)) = planG k b := funext fun i => ownP_eq hb i
  rw [this]
theorem C13q_ok (p : Int) (n c k d : Nat) (f : Nat → Mv) (b : Nat → Int) (h0 : 0 < n) (hn : n ≤ 1000000) (hb : ∀ i, i < k → 0 ≤ b i ∧ b i < 256) : ConNOK Try.prog 13 (C13q p n c k d f b (ownP k b)) := by
  have h := C13_ok p n c k d f b h0 hn
  have e : C13q p n c k d f b (ownP k b) = C13 p n c k d f b := by
    simp only [C13q, C13, ownL_eq n hb]
  rw [e]
  exact h
theorem C13z_ok (p : Int) (n c : Nat) (f : Nat → Mv) (h0 : 0 < n) (hn : n ≤ 1000000) : ConNOK Try.prog 13 (C13z p n c f (ownP 0 fun _ => 0)) := by
  have h := C13n_ok p n c f h0 hn
  have e : C13z p n c f (ownP 0 fun _ => 0) = C13n p n c f := by
    simp only [C13z, C13n, ownL_eq n (k := 0) (b := fun _ => 0) (fun i hi => absurd hi (by omega))]
  rw [e]
  exact h
end Go.Ab
/- the law HorseFewest: forms, where no bytes are handed in. -/
set_option maxRecDepth 100000
namespace Go.Ab
open Go Go.RowKit Go.Proofs
noncomputable def B5z : List TBw := [.list 1 .ro, .dead, .cells (.hole (.slice 0 0 .nil)) 24 .var, .dead, .dead, .list 3 .row]
noncomputable def T5az : Tw := ⟨187, mkS 187 [(1, .hole .nil), (2, .val nilS .nil), (3, .ptr 2 0 .nil), (7, .hole .nil), (8, .slice 5 0 .nil), (10, .hole .nil), (12, .hole .nil), (83, .slice 5 0 .nil), (84, .hole .nil), (85, .hole .nil)], 6, B5z⟩
noncomputable def T5bz : Tw := ⟨187, mkS 187 [(1, .hole .nil), (2, .val nilS .nil), (3, .ptr 2 0 .nil), (7, .hole .nil), (8, .slice 5 0 .nil), (10, .hole .nil), (15, .hole .nil), (100, .hole .nil), (101, .hole .nil)], 6, B5z⟩
noncomputable def T5cz : Tw := ⟨187, mkS 187 [(1, .hole .nil), (2, .val nilS .nil), (3, .ptr 2 0 .nil), (7, .hole .nil), (8, .slice 5 0 .nil), (10, .hole .nil), (15, .hole .nil), (16, .hole .nil), (100, .hole .nil), (101, .hole .nil), (106, .hole .nil), (107, .hole .nil)], 6, B5z⟩
noncomputable def st5az (sure : Bool) (p : Int) (n c : Nat) (f : Nat → Mv) (many found : Nat) (P : Nat → Nat) (next i : Nat) : Hw := ⟨⟨[.bool sure, I many, I found, I next, I n, I i, I p], [(n, n), (n, n), (n, c)]⟩, [mvs n f, natL n P], []⟩
noncomputable def st5bz (sure : Bool) (p : Int) (n c : Nat) (f : Nat → Mv) (many found : Nat) (P : Nat → Nat) (can : Int) (i : Nat) : Hw := ⟨⟨[.bool sure, I many, I found, I can, I n, I i, I p], [(n, n), (n, c)]⟩, [mvs n f, natL n P], []⟩
noncomputable def st5cz (sure : Bool) (p : Int) (n c : Nat) (f : Nat → Mv) (many found : Nat) (P : Nat → Nat) (can : Int) (i j : Nat) : Hw := ⟨⟨[.bool sure, I many, I found, I can, I i, I n, I i, I n, I j, I p], [(n, n), (n, c)]⟩, [mvs n f, natL n P], []⟩
end Go.Ab
/- the law HorseFewest: its loops, where no bytes are handed in. -/
set_option maxRecDepth 100000
namespace Go.Ab
open Go Go.RowKit Go.Proofs
theorem b5az (sure : Bool) (p : Int) (n c : Nat) (f : Nat → Mv) (many found : Nat) (P : Nat → Nat) (next i : Nat) (R : Nat → AExit → Hw → Prop) : (vx.code none (.l p5a) (leafW [T5az] R) (T5az.inst (st5az sure p n c f many found P next i)) ([(0, .split ((1, .val (.pointer (.some ⟨((5 : Nat)), ((0 : Nat) + i * (1 : Nat)), .none⟩))) :: (0, .val (I ((↑(P i) : Int)))) :: [(3, .split ([(2, .tm 0 [])]) ([(8, .tm 0 [])]))]) ([(1, .tm 0 [])]))])) =
((((decide ((↑i : Int) < (↑n : Int))) = true → ((((((0 : Int) ≤ (↑i : Int))) ∧ (((↑i : Int) < (↑n : Int)))) ∧ (((.pointer (.some ⟨((5 : Nat)), ((0 : Nat) + i * (1 : Nat)), .none⟩)) : Value) = (.pointer (.some ⟨((5 : Nat)), ((0 : Nat) + i * (1 : Nat)), .none⟩)))) ∧
((((natL n P)[(0 : Nat) + i * (1 : Nat)]? = some (I ((↑(P i) : Int))))) ∧
(((decide ((↑(P i) : Int) > (↑next : Int))) = true → R 0 .ret ⟨⟨[(.bool sure), (I many), (I found), (I next), (I n), (I i), (I p)], [⟨n, n⟩, ⟨n, n⟩, ⟨n, c⟩]⟩, [(mvs n f), (natL n P)], []⟩) ∧
((decide ((↑(P i) : Int) > (↑next : Int))) = false → R 0 .normal ⟨⟨[(.bool sure), (I many), (I found), (I (if IntKind.i64.wrap ((↑(P i) : Int) + (1 : Int)) > (↑next : Int) then IntKind.i64.wrap ((↑(P i) : Int) + (1 : Int)) else (↑next : Int))), (I n), (I (IntKind.i64.wrap ((↑i : Int) + (1 : Int)))), (I p)], [⟨n, n⟩, ⟨n, n⟩, ⟨n, c⟩]⟩, [(mvs n f), (natL n P)], []⟩))))) ∧
((decide ((↑i : Int) < (↑n : Int))) = false → R 0 (.exit ((0 : Nat))) ⟨⟨[(.bool sure), (I many), (I found), (I next), (I n), (I i), (I p)], [⟨n, n⟩, ⟨n, n⟩, ⟨n, c⟩]⟩, [(mvs n f), (natL n P)], []⟩))) := by kernel_rfl
theorem b5cz (sure : Bool) (p : Int) (n c : Nat) (f : Nat → Mv) (many found : Nat) (P : Nat → Nat) (can : Int) (i j : Nat) (R : Nat → AExit → Hw → Prop) : (vx.code none (.l p5c) (leafW [T5cz] R) (T5cz.inst (st5cz sure p n c f many found P can i j)) ([(0, .split ((6, .con (C18 p i j n c f)) :: (10, .val (I ((↑found : Int) / (2 : Int) ^ i))) :: [(1, .split ((3, .val (I ((↑found : Int) / (2 : Int) ^ j))) :: [(1, .split ([(4, .split ([(4, .tm 0 [])]) ([(5, .tm 0 [])]))]) ([(7, .tm 0 [])]))]) ([(8, .tm 0 [])]))]) ([(1, .tm 0 [])]))])) =
((((decide ((↑j : Int) < (↑n : Int))) = true → ((ConOK Try.prog 18 (C18 p i j n c f)) ∧ (Con.pre (C18 p i j n c f) ⟨⟨[(I p), (I i), (I j)], [⟨n, c⟩]⟩, [(mvs n f)]⟩) ∧
((((((0 : Int) ≤ (↑i : Int))) ∧ (((↑i : Int) ≤ (↑(64 : Nat) : Int)))) ∧ (((I ((↑found : Int) / (2 : Int) ^ i)) : Value) = (I ((↑found : Int) / (2 : Int) ^ i)))) ∧
(((bits BinOp.and IntKind.i64 ((↑found : Int) / (2 : Int) ^ i) (1 : Int) == (1 : Int)) = true → ((((((0 : Int) ≤ (↑j : Int))) ∧ (((↑j : Int) ≤ (↑(64 : Nat) : Int)))) ∧ (((I ((↑found : Int) / (2 : Int) ^ j)) : Value) = (I ((↑found : Int) / (2 : Int) ^ j)))) ∧
(((bits BinOp.and IntKind.i64 ((↑found : Int) / (2 : Int) ^ j) (1 : Int) == (1 : Int)) = true → (((decide (folV p n f i j ≥ can)) = true → R 0 .ret ⟨⟨[(.bool sure), (I many), (I found), (I can), (I i), (I n), (I i), (I n), (I j), (I p)], [⟨n, n⟩, ⟨n, c⟩]⟩, [(mvs n f), (natL n P)], []⟩) ∧
((decide (folV p n f i j ≥ can)) = false → R 0 .normal ⟨⟨[(.bool sure), (I many), (I found), (I can), (I i), (I n), (I i), (I n), (I (IntKind.i64.wrap ((↑j : Int) + (1 : Int)))), (I p)], [⟨n, n⟩, ⟨n, c⟩]⟩, [(mvs n f), (natL n P)], []⟩))) ∧
((bits BinOp.and IntKind.i64 ((↑found : Int) / (2 : Int) ^ j) (1 : Int) == (1 : Int)) = false → R 0 .normal ⟨⟨[(.bool sure), (I many), (I found), (I can), (I i), (I n), (I i), (I n), (I (IntKind.i64.wrap ((↑j : Int) + (1 : Int)))), (I p)], [⟨n, n⟩, ⟨n, c⟩]⟩, [(mvs n f), (natL n P)], []⟩)))) ∧
((bits BinOp.and IntKind.i64 ((↑found : Int) / (2 : Int) ^ i) (1 : Int) == (1 : Int)) = false → R 0 .normal ⟨⟨[(.bool sure), (I many), (I found), (I can), (I i), (I n), (I i), (I n), (I (IntKind.i64.wrap ((↑j : Int) + (1 : Int)))), (I p)], [⟨n, n⟩, ⟨n, c⟩]⟩, [(mvs n f), (natL n P)], []⟩))))) ∧
((decide ((↑j : Int) < (↑n : Int))) = false → R 0 (.exit ((4 : Nat))) ⟨⟨[(.bool sure), (I many), (I found), (I can), (I i), (I n), (I i), (I n), (I j), (I p)], [⟨n, n⟩, ⟨n, c⟩]⟩, [(mvs n f), (natL n P)], []⟩))) := by kernel_rfl
theorem b5bz (sure : Bool) (p : Int) (n c : Nat) (f : Nat → Mv) (many found : Nat) (P : Nat → Nat) (can : Int) (i : Nat) (R : Nat → AExit → Hw → Prop) : (vx.code none (.l p5b) (leafW [T5bz] R) (T5bz.inst (st5bz sure p n c f many found P can i)) ([(0, .split ((7, .loopW T5cz (AExit.exit (4 : Nat)) T5cz fun x => st5cz sure p n c f many found P can i n) :: [(2, .tm 0 [])]) ([(1, .tm 0 [])]))])) =
((((decide ((↑i : Int) < (↑n : Int))) = true → ((ClW ⟨⟨[(.bool sure), (I many), (I found), (I can), (I i), (I n), (I i), (I n), (I 0), (I p)], [⟨n, n⟩, ⟨n, c⟩]⟩, [(mvs n f), (natL n P)], []⟩) ∧ (LoopOW Try.prog .none p5c (T5cz) ⟨⟨[(.bool sure), (I many), (I found), (I can), (I i), (I n), (I i), (I n), (I 0), (I p)], [⟨n, n⟩, ⟨n, c⟩]⟩, [(mvs n f), (natL n P)], []⟩ (.exit ((4 : Nat))) (T5cz) ⟨⟨[(.bool sure), (I many), (I found), (I can), (I i), (I n), (I i), (I n), (I n), (I p)], [⟨n, n⟩, ⟨n, c⟩]⟩, [(mvs n f), (natL n P)], []⟩) ∧
R 0 .normal ⟨⟨[(.bool sure), (I many), (I found), (I can), (I n), (I (IntKind.i64.wrap ((↑i : Int) + (1 : Int)))), (I p)], [⟨n, n⟩, ⟨n, c⟩]⟩, [(mvs n f), (natL n P)], []⟩)) ∧
((decide ((↑i : Int) < (↑n : Int))) = false → R 0 (.exit ((2 : Nat))) ⟨⟨[(.bool sure), (I many), (I found), (I can), (I n), (I i), (I p)], [⟨n, n⟩, ⟨n, c⟩]⟩, [(mvs n f), (natL n P)], []⟩))) := by kernel_rfl
theorem three_clz {n : Nat} {f : Nat → Mv} {P : Nat → Nat} {h : Hs} : ClW ⟨h, [mvs n f, natL n P], []⟩ :=
  ⟨fun cs hc => by
    simp only [List.mem_cons, List.not_mem_nil, or_false] at hc
    rcases hc with rfl | rfl
    · exact mvs_atoms n f _ (by simp)
    · exact natL_atom n P, fun cs hc => (by cases hc)⟩
section
variable {p : Int} {n c : Nat} {f : Nat → Mv} {many found : Nat} {P : Nat → Nat}
theorem cl5az (sure : Bool) (i : Nat) : ClW (st5az sure p n c f many found P (nextF P i) i) := three_clz
theorem cl5bz (sure : Bool) (can : Int) (i : Nat) : ClW (st5bz sure p n c f many found P can i) := three_clz
theorem cl5cz (sure : Bool) (can : Int) (i j : Nat) : ClW (st5cz sure p n c f many found P can i j) := three_clz
theorem loop5az (sure : Bool) (hn : n ≤ 7) (hP : ∀ i, i < n → P i < 7) (hc : ∀ i, i < n → P i ≤ nextF P i) :
    LoopOW Try.prog none p5a T5az (st5az sure p n c f many found P 0 0) (.exit 0) T5az (st5az sure p n c f many found P (nextF P n) n) := by
  refine loop_forW (Ts := [T5az]) (k := 6) (n := n) (e := .exit 0) (st := fun i => (0, st5az sure p n c f many found P (nextF P i) i)) rfl vx_sound ?_ (by rw [nglob]; omega) ⟨by simp, trivial⟩ (fun i _ => cl5az sure i) (fun i hi R hR => ?_) (fun R hR => ?_) rfl (Nat.le_of_ble_eq_true rfl) (by decide) rfl
  · intro T hT; simp only [List.mem_singleton] at hT; subst hT; rfl
  · have hw : IntKind.i64.wrap ((i : Int) + 1) = ((i + 1 : Nat) : Int) := wrapI (by omega) (by omega)
    have h1 := hP i hi
    have h2 := hc i hi
    have hw2 : IntKind.i64.wrap ((P i : Int) + 1) = ((P i + 1 : Nat) : Int) := wrapI (by omega) (by omega)
    have e : (if ((P i + 1 : Nat) : Int) > (nextF P i : Int) then ((P i + 1 : Nat) : Int) else (nextF P i : Int)) = (nextF P (i + 1) : Nat) := by
      simp only [nextF]
      split <;> omega
    refine ⟨T5az, _, rfl, (b5az sure p n c f many found P (nextF P i) i R).mpr ⟨fun _ => ⟨⟨⟨by omega, by omega⟩, rfl⟩, natL_get hi, fun h => absurd (of_decide_eq_true h) (by omega), fun _ => ?_⟩, fun h => absurd (by omega) (of_decide_eq_false h)⟩⟩
    rw [hw, hw2, e]
    exact hR
  · exact ⟨T5az, _, rfl, (b5az sure p n c f many found P (nextF P n) n R).mpr ⟨fun h => absurd (of_decide_eq_true h) (by omega), fun _ => hR⟩⟩
theorem loop5cz (hok : okH p n f = true) (sure : Bool) (can : Int) (hf : found < 128) {i : Nat} (hi : i < n)
    (hp : ∀ j, j < n → found.testBit i = true → found.testBit j = true → folV p n f i j < can) :
    LoopOW Try.prog none p5c T5cz (st5cz sure p n c f many found P can i 0) (.exit 4) T5cz (st5cz sure p n c f many found P can i n) := by
  have h7 := (okH_iff hok).n7
  refine loop_forW (Ts := [T5cz]) (k := 6) (n := n) (e := .exit 4) (st := fun j => (0, st5cz sure p n c f many found P can i j)) rfl vx_sound ?_ (by rw [nglob]; omega) ⟨by simp, trivial⟩ (fun j _ => cl5cz sure can i j) (fun j hj R hR => ?_) (fun R hR => ?_) rfl (Nat.le_of_ble_eq_true rfl) (by decide) rfl
  · intro T hT; simp only [List.mem_singleton] at hT; subst hT; rfl
  · have hw : IntKind.i64.wrap ((j : Int) + 1) = ((j + 1 : Nat) : Int) := wrapI (by omega) (by omega)
    refine ⟨T5cz, _, rfl, (b5cz sure p n c f many found P can i j R).mpr ⟨fun _ => ?_, fun h => absurd (by omega) (of_decide_eq_false h)⟩⟩
    rw [hw]
    refine ⟨C18_ok p i j n c f hok hi hj h7, rfl, ⟨⟨by omega, by omega⟩, rfl⟩, fun h1 => ⟨⟨⟨by omega, by omega⟩, rfl⟩, fun h2 => ⟨fun h3 => ?_, fun _ => hR⟩, fun _ => hR⟩, fun _ => hR⟩
    rw [bitI hf] at h1 h2
    have := hp j hj h1 h2
    exact absurd (of_decide_eq_true h3) (by omega)
  · exact ⟨T5cz, _, rfl, (b5cz sure p n c f many found P can i n R).mpr ⟨fun h => absurd (of_decide_eq_true h) (by omega), fun _ => hR⟩⟩
theorem loop5bz (hok : okH p n f = true) (sure : Bool) (can : Int) (hf : found < 128)
    (hp : ∀ i j, i < n → j < n → found.testBit i = true → found.testBit j = true → folV p n f i j < can) :
    LoopOW Try.prog none p5b T5bz (st5bz sure p n c f many found P can 0) (.exit 2) T5bz (st5bz sure p n c f many found P can n) := by
  have h7 := (okH_iff hok).n7
  refine loop_forW (Ts := [T5bz]) (k := 6) (n := n) (e := .exit 2) (st := fun i => (0, st5bz sure p n c f many found P can i)) rfl vx_sound ?_ (by rw [nglob]; omega) ⟨by simp, trivial⟩ (fun i _ => cl5bz sure can i) (fun i hi R hR => ?_) (fun R hR => ?_) rfl (Nat.le_of_ble_eq_true rfl) (by decide) rfl
  · intro T hT; simp only [List.mem_singleton] at hT; subst hT; rfl
  · have hw : IntKind.i64.wrap ((i : Int) + 1) = ((i + 1 : Nat) : Int) := wrapI (by omega) (by omega)
    refine ⟨T5bz, _, rfl, (b5bz sure p n c f many found P can i R).mpr ⟨fun _ => ⟨cl5cz sure can i 0, loop5cz hok sure can hf hi (fun j hj => hp i j hi hj), ?_⟩, fun h => absurd (by omega) (of_decide_eq_false h)⟩⟩
    rw [hw]
    exact hR
  · exact ⟨T5bz, _, rfl, (b5bz sure p n c f many found P can n R).mpr ⟨fun h => absurd (of_decide_eq_true h) (by omega), fun _ => hR⟩⟩
end
end Go.Ab
