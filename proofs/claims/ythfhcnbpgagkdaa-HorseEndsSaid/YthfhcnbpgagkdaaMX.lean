/- the law HorseCheck: its loops. -/
import Derived.Test.YthfhcnbpgagkdaaMW
set_option maxRecDepth 100000
namespace Go.Ab
open Go Go.RowKit Go.Proofs
theorem b6i (p a b e can : Int) (r : Bool) (i j n c : Nat) (ms ps : List Value) (f : Nat → Mv) (g : Nat → Int) (R : Nat → AExit → Hx → Prop)  : (vx.code none (.l p6i) (leafK [T6i] R) (T6i.inst ⟨⟨[.bool r, I a, I b, I e, I can, I i, I j, I n, I i, I p], [(n, n), (n, c)]⟩, [ms, ps]⟩) ([(3, .split ((4, Hint.con (C18x p n c f)) :: (8, Hint.con (C18x p n c f)) :: [(13, .split ([(2, .split ([(4, Hint.tm (0 : Nat) [])]) ((5, .val (.pointer (.some ⟨((5 : Nat)), ((0 : Nat) + i * (1 : Nat)), .none⟩))) :: (0, .val (.int IntKind.i64 (g i))) :: (2, .val (.pointer (.some ⟨((5 : Nat)), ((0 : Nat) + j * (1 : Nat)), .none⟩))) :: (0, .val (.int IntKind.i64 (g j))) :: [(0, .split ([(3, .split ([(4, .split ([(3, .split ([(3, .split ([(4, .split ((2, Hint.con C12) :: [(2, Hint.tm (0 : Nat) [])]) ([(4, Hint.tm (0 : Nat) [])]))]) ([(6, Hint.tm (0 : Nat) [])]))]) ([(7, Hint.tm (0 : Nat) [])]))]) ([(5, Hint.tm (0 : Nat) [])]))]) ([(7, Hint.tm (0 : Nat) [])]))]) ([(8, Hint.tm (0 : Nat) [])]))]))]) ((6, .val (.pointer (.some ⟨((5 : Nat)), ((0 : Nat) + i * (1 : Nat)), .none⟩))) :: (0, .val (.int IntKind.i64 (g i))) :: (2, .val (.pointer (.some ⟨((5 : Nat)), ((0 : Nat) + j * (1 : Nat)), .none⟩))) :: (0, .val (.int IntKind.i64 (g j))) :: [(0, .split ([(3, .split ([(4, .split ([(3, .split ([(3, .split ([(4, .split ((2, Hint.con C12) :: [(2, Hint.tm (0 : Nat) [])]) ([(4, Hint.tm (0 : Nat) [])]))]) ([(6, Hint.tm (0 : Nat) [])]))]) ([(7, Hint.tm (0 : Nat) [])]))]) ([(5, Hint.tm (0 : Nat) [])]))]) ([(7, Hint.tm (0 : Nat) [])]))]) ([(8, Hint.tm (0 : Nat) [])]))]))]) ([(1, Hint.tm (0 : Nat) [])]))])) =
((((decide ((↑j : Int) < (↑n : Int))) = true → ((ConOK Try.prog ((18 : Nat)) (C18x p n c f)) ∧ (Con.pre (C18x p n c f) ⟨⟨[(.int IntKind.i64 (p)), (.int IntKind.i64 ((↑i : Int))), (.int IntKind.i64 ((↑j : Int)))], [⟨(n), (c)⟩]⟩, [(ms)]⟩) ∧ 
((ConOK Try.prog ((18 : Nat)) (C18x p n c f)) ∧ (Con.pre (C18x p n c f) ⟨⟨[(.int IntKind.i64 (p)), (.int IntKind.i64 ((↑j : Int))), (.int IntKind.i64 ((↑i : Int)))], [⟨(n), (c)⟩]⟩, [(ms)]⟩) ∧ 
(((decide (folV p n f i j > (0 : Int))) = true → (((decide (folV p n f j i > (0 : Int))) = true → R ((0 : Nat)) .ret ⟨⟨[(.bool false), (.int IntKind.i64 (a)), (.int IntKind.i64 (b)), (.int IntKind.i64 (e)), (.int IntKind.i64 (can)), (.int IntKind.i64 ((↑i : Int))), (.int IntKind.i64 ((↑j : Int))), (.int IntKind.i64 ((↑n : Int))), (.int IntKind.i64 ((↑i : Int))), (.int IntKind.i64 (p))], [⟨(n), (n)⟩, ⟨(n), (c)⟩]⟩, [(ms), (ps)]⟩) ∧
((decide (folV p n f j i > (0 : Int))) = false → ((((((0 : Int) ≤ (↑i : Int))) ∧ (((↑i : Int) < (↑n : Int)))) ∧ (((.pointer (.some ⟨((5 : Nat)), ((0 : Nat) + i * (1 : Nat)), .none⟩)) : Value) = (.pointer (.some ⟨((5 : Nat)), ((0 : Nat) + i * (1 : Nat)), .none⟩)))) ∧
(((ps[(0 : Nat) + i * (1 : Nat)]? = some (.int IntKind.i64 (g i)))) ∧
((((((0 : Int) ≤ (↑j : Int))) ∧ (((↑j : Int) < (↑n : Int)))) ∧ (((.pointer (.some ⟨((5 : Nat)), ((0 : Nat) + j * (1 : Nat)), .none⟩)) : Value) = (.pointer (.some ⟨((5 : Nat)), ((0 : Nat) + j * (1 : Nat)), .none⟩)))) ∧
(((ps[(0 : Nat) + j * (1 : Nat)]? = some (.int IntKind.i64 (g j)))) ∧
(((g i == g j) = true → (((decide (folV p n f i j < can)) = true → (((decide (folV p n f j i < can)) = true → (((e == (0 : Int)) = true → (((a == (↑i : Int)) = true → (((b == (↑j : Int)) = true → ((ConOK Try.prog ((12 : Nat)) (C12)) ∧ (Con.pre (C12) ⟨⟨[], []⟩, []⟩) ∧ 
R ((0 : Nat)) .ret ⟨⟨[(.bool true), (.int IntKind.i64 (a)), (.int IntKind.i64 (b)), (.int IntKind.i64 (e)), (.int IntKind.i64 (can)), (.int IntKind.i64 ((↑i : Int))), (.int IntKind.i64 ((↑j : Int))), (.int IntKind.i64 ((↑n : Int))), (.int IntKind.i64 ((↑i : Int))), (.int IntKind.i64 (p))], [⟨(n), (n)⟩, ⟨(n), (c)⟩]⟩, [(ms), (ps)]⟩)) ∧
((b == (↑j : Int)) = false → R ((0 : Nat)) .ret ⟨⟨[(.bool false), (.int IntKind.i64 (a)), (.int IntKind.i64 (b)), (.int IntKind.i64 (e)), (.int IntKind.i64 (can)), (.int IntKind.i64 ((↑i : Int))), (.int IntKind.i64 ((↑j : Int))), (.int IntKind.i64 ((↑n : Int))), (.int IntKind.i64 ((↑i : Int))), (.int IntKind.i64 (p))], [⟨(n), (n)⟩, ⟨(n), (c)⟩]⟩, [(ms), (ps)]⟩))) ∧
((a == (↑i : Int)) = false → R ((0 : Nat)) .ret ⟨⟨[(.bool false), (.int IntKind.i64 (a)), (.int IntKind.i64 (b)), (.int IntKind.i64 (e)), (.int IntKind.i64 (can)), (.int IntKind.i64 ((↑i : Int))), (.int IntKind.i64 ((↑j : Int))), (.int IntKind.i64 ((↑n : Int))), (.int IntKind.i64 ((↑i : Int))), (.int IntKind.i64 (p))], [⟨(n), (n)⟩, ⟨(n), (c)⟩]⟩, [(ms), (ps)]⟩))) ∧
((e == (0 : Int)) = false → R ((0 : Nat)) .ret ⟨⟨[(.bool false), (.int IntKind.i64 (a)), (.int IntKind.i64 (b)), (.int IntKind.i64 (e)), (.int IntKind.i64 (can)), (.int IntKind.i64 ((↑i : Int))), (.int IntKind.i64 ((↑j : Int))), (.int IntKind.i64 ((↑n : Int))), (.int IntKind.i64 ((↑i : Int))), (.int IntKind.i64 (p))], [⟨(n), (n)⟩, ⟨(n), (c)⟩]⟩, [(ms), (ps)]⟩))) ∧
((decide (folV p n f j i < can)) = false → R ((0 : Nat)) .normal ⟨⟨[(.bool (r)), (.int IntKind.i64 (a)), (.int IntKind.i64 (b)), (.int IntKind.i64 (e)), (.int IntKind.i64 (can)), (.int IntKind.i64 ((↑i : Int))), (.int IntKind.i64 (IntKind.i64.wrap ((↑j : Int) + (1 : Int)))), (.int IntKind.i64 ((↑n : Int))), (.int IntKind.i64 ((↑i : Int))), (.int IntKind.i64 (p))], [⟨(n), (n)⟩, ⟨(n), (c)⟩]⟩, [(ms), (ps)]⟩))) ∧
((decide (folV p n f i j < can)) = false → R ((0 : Nat)) .normal ⟨⟨[(.bool (r)), (.int IntKind.i64 (a)), (.int IntKind.i64 (b)), (.int IntKind.i64 (e)), (.int IntKind.i64 (can)), (.int IntKind.i64 ((↑i : Int))), (.int IntKind.i64 (IntKind.i64.wrap ((↑j : Int) + (1 : Int)))), (.int IntKind.i64 ((↑n : Int))), (.int IntKind.i64 ((↑i : Int))), (.int IntKind.i64 (p))], [⟨(n), (n)⟩, ⟨(n), (c)⟩]⟩, [(ms), (ps)]⟩))) ∧
((g i == g j) = false → R ((0 : Nat)) .normal ⟨⟨[(.bool (r)), (.int IntKind.i64 (a)), (.int IntKind.i64 (b)), (.int IntKind.i64 (e)), (.int IntKind.i64 (can)), (.int IntKind.i64 ((↑i : Int))), (.int IntKind.i64 (IntKind.i64.wrap ((↑j : Int) + (1 : Int)))), (.int IntKind.i64 ((↑n : Int))), (.int IntKind.i64 ((↑i : Int))), (.int IntKind.i64 (p))], [⟨(n), (n)⟩, ⟨(n), (c)⟩]⟩, [(ms), (ps)]⟩))))))))) ∧
((decide (folV p n f i j > (0 : Int))) = false → ((((((0 : Int) ≤ (↑i : Int))) ∧ (((↑i : Int) < (↑n : Int)))) ∧ (((.pointer (.some ⟨((5 : Nat)), ((0 : Nat) + i * (1 : Nat)), .none⟩)) : Value) = (.pointer (.some ⟨((5 : Nat)), ((0 : Nat) + i * (1 : Nat)), .none⟩)))) ∧
(((ps[(0 : Nat) + i * (1 : Nat)]? = some (.int IntKind.i64 (g i)))) ∧
((((((0 : Int) ≤ (↑j : Int))) ∧ (((↑j : Int) < (↑n : Int)))) ∧ (((.pointer (.some ⟨((5 : Nat)), ((0 : Nat) + j * (1 : Nat)), .none⟩)) : Value) = (.pointer (.some ⟨((5 : Nat)), ((0 : Nat) + j * (1 : Nat)), .none⟩)))) ∧
(((ps[(0 : Nat) + j * (1 : Nat)]? = some (.int IntKind.i64 (g j)))) ∧
(((g i == g j) = true → (((decide (folV p n f i j < can)) = true → (((decide (folV p n f j i < can)) = true → (((e == (0 : Int)) = true → (((a == (↑i : Int)) = true → (((b == (↑j : Int)) = true → ((ConOK Try.prog ((12 : Nat)) (C12)) ∧ (Con.pre (C12) ⟨⟨[], []⟩, []⟩) ∧ 
R ((0 : Nat)) .ret ⟨⟨[(.bool true), (.int IntKind.i64 (a)), (.int IntKind.i64 (b)), (.int IntKind.i64 (e)), (.int IntKind.i64 (can)), (.int IntKind.i64 ((↑i : Int))), (.int IntKind.i64 ((↑j : Int))), (.int IntKind.i64 ((↑n : Int))), (.int IntKind.i64 ((↑i : Int))), (.int IntKind.i64 (p))], [⟨(n), (n)⟩, ⟨(n), (c)⟩]⟩, [(ms), (ps)]⟩)) ∧
((b == (↑j : Int)) = false → R ((0 : Nat)) .ret ⟨⟨[(.bool false), (.int IntKind.i64 (a)), (.int IntKind.i64 (b)), (.int IntKind.i64 (e)), (.int IntKind.i64 (can)), (.int IntKind.i64 ((↑i : Int))), (.int IntKind.i64 ((↑j : Int))), (.int IntKind.i64 ((↑n : Int))), (.int IntKind.i64 ((↑i : Int))), (.int IntKind.i64 (p))], [⟨(n), (n)⟩, ⟨(n), (c)⟩]⟩, [(ms), (ps)]⟩))) ∧
((a == (↑i : Int)) = false → R ((0 : Nat)) .ret ⟨⟨[(.bool false), (.int IntKind.i64 (a)), (.int IntKind.i64 (b)), (.int IntKind.i64 (e)), (.int IntKind.i64 (can)), (.int IntKind.i64 ((↑i : Int))), (.int IntKind.i64 ((↑j : Int))), (.int IntKind.i64 ((↑n : Int))), (.int IntKind.i64 ((↑i : Int))), (.int IntKind.i64 (p))], [⟨(n), (n)⟩, ⟨(n), (c)⟩]⟩, [(ms), (ps)]⟩))) ∧
((e == (0 : Int)) = false → R ((0 : Nat)) .ret ⟨⟨[(.bool false), (.int IntKind.i64 (a)), (.int IntKind.i64 (b)), (.int IntKind.i64 (e)), (.int IntKind.i64 (can)), (.int IntKind.i64 ((↑i : Int))), (.int IntKind.i64 ((↑j : Int))), (.int IntKind.i64 ((↑n : Int))), (.int IntKind.i64 ((↑i : Int))), (.int IntKind.i64 (p))], [⟨(n), (n)⟩, ⟨(n), (c)⟩]⟩, [(ms), (ps)]⟩))) ∧
((decide (folV p n f j i < can)) = false → R ((0 : Nat)) .normal ⟨⟨[(.bool (r)), (.int IntKind.i64 (a)), (.int IntKind.i64 (b)), (.int IntKind.i64 (e)), (.int IntKind.i64 (can)), (.int IntKind.i64 ((↑i : Int))), (.int IntKind.i64 (IntKind.i64.wrap ((↑j : Int) + (1 : Int)))), (.int IntKind.i64 ((↑n : Int))), (.int IntKind.i64 ((↑i : Int))), (.int IntKind.i64 (p))], [⟨(n), (n)⟩, ⟨(n), (c)⟩]⟩, [(ms), (ps)]⟩))) ∧
((decide (folV p n f i j < can)) = false → R ((0 : Nat)) .normal ⟨⟨[(.bool (r)), (.int IntKind.i64 (a)), (.int IntKind.i64 (b)), (.int IntKind.i64 (e)), (.int IntKind.i64 (can)), (.int IntKind.i64 ((↑i : Int))), (.int IntKind.i64 (IntKind.i64.wrap ((↑j : Int) + (1 : Int)))), (.int IntKind.i64 ((↑n : Int))), (.int IntKind.i64 ((↑i : Int))), (.int IntKind.i64 (p))], [⟨(n), (n)⟩, ⟨(n), (c)⟩]⟩, [(ms), (ps)]⟩))) ∧
((g i == g j) = false → R ((0 : Nat)) .normal ⟨⟨[(.bool (r)), (.int IntKind.i64 (a)), (.int IntKind.i64 (b)), (.int IntKind.i64 (e)), (.int IntKind.i64 (can)), (.int IntKind.i64 ((↑i : Int))), (.int IntKind.i64 (IntKind.i64.wrap ((↑j : Int) + (1 : Int)))), (.int IntKind.i64 ((↑n : Int))), (.int IntKind.i64 ((↑i : Int))), (.int IntKind.i64 (p))], [⟨(n), (n)⟩, ⟨(n), (c)⟩]⟩, [(ms), (ps)]⟩))))))))))) ∧
((decide ((↑j : Int) < (↑n : Int))) = false → R ((0 : Nat)) (.exit ((2 : Nat))) ⟨⟨[(.bool (r)), (.int IntKind.i64 (a)), (.int IntKind.i64 (b)), (.int IntKind.i64 (e)), (.int IntKind.i64 (can)), (.int IntKind.i64 ((↑i : Int))), (.int IntKind.i64 ((↑j : Int))), (.int IntKind.i64 ((↑n : Int))), (.int IntKind.i64 ((↑i : Int))), (.int IntKind.i64 (p))], [⟨(n), (n)⟩, ⟨(n), (c)⟩]⟩, [(ms), (ps)]⟩))) := by kernel_rfl

noncomputable def h6i (p : Int) (n c : Nat) (f : Nat → Mv) (g : Nat → Int) (r : Bool) (a b e can : Int) (i j : Nat) : Hx := ⟨⟨[.bool r, I a, I b, I e, I can, I i, I j, I n, I i, I p], [(n, n), (n, c)]⟩, [mvs n f, ints n g]⟩
theorem atoms6 (n : Nat) (f : Nat → Mv) (g : Nat → Int) : Atoms [mvs n f, ints n g] := fun cs hcs => by
  simp only [List.mem_cons, List.not_mem_nil, or_false] at hcs
  rcases hcs with rfl | rfl
  · exact mvs_atoms n f _ (by simp)
  · exact ints_atoms n g _ (by simp)
theorem round6i {p : Int} {n c : Nat} {f : Nat → Mv} {g : Nat → Int} (hok : okH p n f = true) (sure : Bool) {r : Bool} {a b e : Int} {i j : Nat} (hi : i < n) {R : Nat → AExit → Hx → Prop}
    (fact : j < n → badB g (ordF sure p n f n) i j = true → e = 0 ∧ a = i ∧ b = j)
    (h1 : j < n → badB g (ordF sure p n f n) i j = false → R 0 .normal (h6i p n c f g r a b e (cond sure 2 1) i (j + 1)))
    (h2 : j < n → badB g (ordF sure p n f n) i j = true → R 0 .ret (h6i p n c f g true a b e (cond sure 2 1) i j))
    (h3 : ¬ j < n → R 0 (.exit 2) (h6i p n c f g r a b e (cond sure 2 1) i j)) : ∃ hs, vx.code none (.l p6i) (leafK [T6i] R) (T6i.inst (h6i p n c f g r a b e (cond sure 2 1) i j)) hs := by
  have h := okH_iff hok
  have h7 := h.n7
  refine ⟨_, (b6i p a b e (cond sure 2 1) r i j n c (mvs n f) (ints n g) f g R).mpr ⟨fun hlt => ?_, fun hlt => h3 (by simpa using hlt)⟩⟩
  have hj : j < n := by simpa using hlt
  have hw : IntKind.i64.wrap ((j : Int) + 1) = ((j + 1 : Nat) : Int) := wrapI (by omega) (by omega)
  have fact := fact hj
  have h1 := h1 hj
  have h2 := h2 hj
  rw [badB_eq h sure g hi hj] at fact h1 h2
  rw [hw]
  repeat' (first | with_reducible apply And.intro | with_reducible intro)
  all_goals first
    | exact C18x_ok p n c f (by omega) hok h7
    | exact C12_ok
    | omega
    | exact ints_get g hi
    | exact ints_get g hj
    | exact ⟨i, j, hi, hj, rfl⟩
    | exact ⟨j, i, hj, hi, rfl⟩
    | rfl
    | (exfalso; exact folV_pos h hi hj ‹_› ‹_›)
    | (refine h1 ?_; simp only [*, Bool.and_false, Bool.false_and, Bool.and_true, Bool.true_and]; done)
    | (refine h2 ?_; simp only [*, Bool.and_false, Bool.false_and, Bool.and_true, Bool.true_and]; done)
    | (exfalso; have ft := fact (by simp only [*, Bool.and_true, Bool.true_and]); obtain ⟨q1, q2, q3⟩ := ft; subst q1; subst q2; subst q3; simp at *; done)
end Go.Ab

/- the law HorseCheck: some moves, some numbers. -/
set_option maxRecDepth 100000
namespace Go.Ab
open Go Go.RowKit Go.Proofs
theorem b6on (p a b e can : Int) (r : Bool) (i n c : Nat) (ms ps : List Value) (R : Nat → AExit → Hx → Prop)  : (vx.code none (.l p6o) (leafK [T6o] R) (T6o.inst ⟨⟨[.bool r, I a, I b, I e, I can, I n, I i, I p], [(n, n), (n, c)]⟩, [ms, ps]⟩) ([(0, .split ((6, Hint.loopT T6i (AExit.exit (2 : Nat)) T6i fun _ =>   {     hs :=       { vs := [Value.bool r, I a, I b, I e, I can, I (↑i : Int), I (↑n : Int), I (↑n : Int), I (↑i : Int), I p],         ns := [(n, n), (n, c)] },     ls := [ms, ps] }) :: [(2, Hint.tm (0 : Nat) [])]) ([(1, Hint.tm (0 : Nat) [])]))])) =
((((decide ((↑i : Int) < (↑n : Int))) = true → ((Atoms [(ms), (ps)]) ∧ (LoopOK Try.prog .none p6i (T6i) ⟨⟨[(.bool (r)), (.int IntKind.i64 (a)), (.int IntKind.i64 (b)), (.int IntKind.i64 (e)), (.int IntKind.i64 (can)), (.int IntKind.i64 ((↑i : Int))), (.int IntKind.i64 (IntKind.i64.wrap ((↑i : Int) + (1 : Int)))), (.int IntKind.i64 ((↑n : Int))), (.int IntKind.i64 ((↑i : Int))), (.int IntKind.i64 (p))], [⟨(n), (n)⟩, ⟨(n), (c)⟩]⟩, [(ms), (ps)]⟩ (.exit ((2 : Nat))) (T6i) ⟨⟨[(.bool (r)), (.int IntKind.i64 (a)), (.int IntKind.i64 (b)), (.int IntKind.i64 (e)), (.int IntKind.i64 (can)), (.int IntKind.i64 ((↑i : Int))), (.int IntKind.i64 ((↑n : Int))), (.int IntKind.i64 ((↑n : Int))), (.int IntKind.i64 ((↑i : Int))), (.int IntKind.i64 (p))], [⟨(n), (n)⟩, ⟨(n), (c)⟩]⟩, [(ms), (ps)]⟩) ∧ 
R ((0 : Nat)) .normal ⟨⟨[(.bool (r)), (.int IntKind.i64 (a)), (.int IntKind.i64 (b)), (.int IntKind.i64 (e)), (.int IntKind.i64 (can)), (.int IntKind.i64 ((↑n : Int))), (.int IntKind.i64 (IntKind.i64.wrap ((↑i : Int) + (1 : Int)))), (.int IntKind.i64 (p))], [⟨(n), (n)⟩, ⟨(n), (c)⟩]⟩, [(ms), (ps)]⟩)) ∧
((decide ((↑i : Int) < (↑n : Int))) = false → R ((0 : Nat)) (.exit ((0 : Nat))) ⟨⟨[(.bool (r)), (.int IntKind.i64 (a)), (.int IntKind.i64 (b)), (.int IntKind.i64 (e)), (.int IntKind.i64 (can)), (.int IntKind.i64 ((↑n : Int))), (.int IntKind.i64 ((↑i : Int))), (.int IntKind.i64 (p))], [⟨(n), (n)⟩, ⟨(n), (c)⟩]⟩, [(ms), (ps)]⟩))) := by kernel_rfl

theorem b6or (p a b e can : Int) (r : Bool) (i j n c : Nat) (ms ps : List Value) (R : Nat → AExit → Hx → Prop)  : (vx.code none (.l p6o) (leafK [T6o] R) (T6o.inst ⟨⟨[.bool r, I a, I b, I e, I can, I n, I i, I p], [(n, n), (n, c)]⟩, [ms, ps]⟩) ([(0, .split ((6, Hint.loopT T6i AExit.ret T6i fun _ =>   {     hs :=       { vs := [Value.bool true, I a, I b, I e, I can, I (↑i : Int), I (↑j : Int), I (↑n : Int), I (↑i : Int), I p],         ns := [(n, n), (n, c)] },     ls := [ms, ps] }) :: [(0, Hint.tm (0 : Nat) [])]) ([(1, Hint.tm (0 : Nat) [])]))])) =
((((decide ((↑i : Int) < (↑n : Int))) = true → ((Atoms [(ms), (ps)]) ∧ (LoopOK Try.prog .none p6i (T6i) ⟨⟨[(.bool (r)), (.int IntKind.i64 (a)), (.int IntKind.i64 (b)), (.int IntKind.i64 (e)), (.int IntKind.i64 (can)), (.int IntKind.i64 ((↑i : Int))), (.int IntKind.i64 (IntKind.i64.wrap ((↑i : Int) + (1 : Int)))), (.int IntKind.i64 ((↑n : Int))), (.int IntKind.i64 ((↑i : Int))), (.int IntKind.i64 (p))], [⟨(n), (n)⟩, ⟨(n), (c)⟩]⟩, [(ms), (ps)]⟩ .ret (T6i) ⟨⟨[(.bool true), (.int IntKind.i64 (a)), (.int IntKind.i64 (b)), (.int IntKind.i64 (e)), (.int IntKind.i64 (can)), (.int IntKind.i64 ((↑i : Int))), (.int IntKind.i64 ((↑j : Int))), (.int IntKind.i64 ((↑n : Int))), (.int IntKind.i64 ((↑i : Int))), (.int IntKind.i64 (p))], [⟨(n), (n)⟩, ⟨(n), (c)⟩]⟩, [(ms), (ps)]⟩) ∧ 
R ((0 : Nat)) .ret ⟨⟨[(.bool true), (.int IntKind.i64 (a)), (.int IntKind.i64 (b)), (.int IntKind.i64 (e)), (.int IntKind.i64 (can)), (.int IntKind.i64 ((↑n : Int))), (.int IntKind.i64 ((↑i : Int))), (.int IntKind.i64 (p))], [⟨(n), (n)⟩, ⟨(n), (c)⟩]⟩, [(ms), (ps)]⟩)) ∧
((decide ((↑i : Int) < (↑n : Int))) = false → R ((0 : Nat)) (.exit ((0 : Nat))) ⟨⟨[(.bool (r)), (.int IntKind.i64 (a)), (.int IntKind.i64 (b)), (.int IntKind.i64 (e)), (.int IntKind.i64 (can)), (.int IntKind.i64 ((↑n : Int))), (.int IntKind.i64 ((↑i : Int))), (.int IntKind.i64 (p))], [⟨(n), (n)⟩, ⟨(n), (c)⟩]⟩, [(ms), (ps)]⟩))) := by kernel_rfl

theorem f6n (p a b e : Int) (sure : Bool) (n c k d : Nat) (f : Nat → Mv) (bs : Nat → Int) (R : ARes → Prop)  : (vx.call 6 [hV p n c, .bool sure, slV 1 k d] (retK R) (m2b (mvs n f) (u8s k bs)) ([(17, .split ((7, Hint.con C12) :: []) ((4, Hint.con ((C21 p n c f).when (ARes.ret (Value.bool true)))) :: (6, Hint.conN (C13 p n c k d f bs)) :: [(3, .split ((0, Hint.con ((C16 sure p n c n n f (planG k bs)).when (ARes.ret (Value.tuple { toList := [I a, I b, I e] })))) :: [(8, .split ((5, Hint.loopT T6o (AExit.exit (0 : Nat)) T6o fun x =>   {     hs :=       { vs := [Value.bool false, I a, I b, I e, x.hs.vs[(4 : Nat)]?.getD undef, I (↑n : Int), I (↑n : Int), I p],         ns := [(n, n), (n, c)] },     ls := [mvs n f, ints n (planG k bs)] }) :: [(1, .split ([(2, .split ([(3, .split ((2, Hint.con C12) :: []) ([]))]) ([]))]) ([]))]) ((4, Hint.loopT T6o (AExit.exit (0 : Nat)) T6o fun x =>   {     hs :=       { vs := [Value.bool false, I a, I b, I e, x.hs.vs[(4 : Nat)]?.getD undef, I (↑n : Int), I (↑n : Int), I p],         ns := [(n, n), (n, c)] },     ls := [mvs n f, ints n (planG k bs)] }) :: [(1, .split ([(2, .split ([(3, .split ((2, Hint.con C12) :: []) ([]))]) ([]))]) ([]))]))]) ((0, Hint.con ((C16 sure p n c n n f (planG k bs)).when (ARes.ret (Value.tuple { toList := [I a, I b, I e] })))) :: [(8, .split ((5, Hint.loopT T6o (AExit.exit (0 : Nat)) T6o fun x =>   {     hs :=       { vs := [Value.bool false, I a, I b, I e, x.hs.vs[(4 : Nat)]?.getD undef, I (↑n : Int), I (↑n : Int), I p],         ns := [(n, n), (n, c)] },     ls := [mvs n f, ints n (planG k bs)] }) :: [(1, .split ([(2, .split ([(3, .split ((2, Hint.con C12) :: []) ([]))]) ([]))]) ([]))]) ((4, Hint.loopT T6o (AExit.exit (0 : Nat)) T6o fun x =>   {     hs :=       { vs := [Value.bool false, I a, I b, I e, x.hs.vs[(4 : Nat)]?.getD undef, I (↑n : Int), I (↑n : Int), I p],         ns := [(n, n), (n, c)] },     ls := [mvs n f, ints n (planG k bs)] }) :: [(1, .split ([(2, .split ([(3, .split ((2, Hint.con C12) :: []) ([]))]) ([]))]) ([]))]))]))]))])) =
((((decide ((if (↑(0 : Nat) : Int) > (↑n : Int) then (↑(0 : Nat) : Int) else (↑n : Int)) > (40 : Int))) = true → ((ConOK Try.prog ((12 : Nat)) (C12)) ∧ (Con.pre (C12) ⟨⟨[], []⟩, []⟩) ∧ 
R (.ret (.bool true)))) ∧
((decide ((if (↑(0 : Nat) : Int) > (↑n : Int) then (↑(0 : Nat) : Int) else (↑n : Int)) > (40 : Int))) = false → ((ConOK Try.prog ((21 : Nat)) ((C21 p n c f).when (ARes.ret (Value.bool true)))) ∧ (Con.pre ((C21 p n c f).when (ARes.ret (Value.bool true))) ⟨⟨[(.int IntKind.i64 (p))], [⟨(n), (c)⟩]⟩, [(mvs n f)]⟩) ∧ 
((ConNOK Try.prog ((13 : Nat)) (C13 p n c k d f bs)) ∧ (ConN.pre (C13 p n c k d f bs) ⟨⟨[(.int IntKind.i64 (p))], [⟨(n), (c)⟩, ⟨(k), (d)⟩]⟩, [(mvs n f), (u8s k bs)]⟩) ∧ 
(((sure) = true → ((ConOK Try.prog ((16 : Nat)) ((C16 sure p n c n n f (planG k bs)).when (ARes.ret (Value.tuple { toList := [I a, I b, I e] })))) ∧ (Con.pre ((C16 sure p n c n n f (planG k bs)).when (ARes.ret (Value.tuple { toList := [I a, I b, I e] }))) ⟨⟨[(.int IntKind.i64 (p)), (.bool true)], [⟨(n), (c)⟩, ⟨(n), (n)⟩]⟩, [(mvs n f), (ints n (planG k bs))]⟩) ∧ 
(((sure) = true → ((Atoms [(mvs n f), (ints n (planG k bs))]) ∧ (LoopOK Try.prog .none p6o (T6o) ⟨⟨[(.bool false), (.int IntKind.i64 (a)), (.int IntKind.i64 (b)), (.int IntKind.i64 (e)), (.int IntKind.i64 ((2 : Int))), (.int IntKind.i64 ((↑n : Int))), (.int IntKind.i64 ((0 : Int))), (.int IntKind.i64 (p))], [⟨(n), (n)⟩, ⟨(n), (c)⟩]⟩, [(mvs n f), (ints n (planG k bs))]⟩ (.exit ((0 : Nat))) (T6o) ⟨⟨[(.bool false), (.int IntKind.i64 (a)), (.int IntKind.i64 (b)), (.int IntKind.i64 (e)), (.int IntKind.i64 ((2 : Int))), (.int IntKind.i64 ((↑n : Int))), (.int IntKind.i64 ((↑n : Int))), (.int IntKind.i64 (p))], [⟨(n), (n)⟩, ⟨(n), (c)⟩]⟩, [(mvs n f), (ints n (planG k bs))]⟩) ∧ 
(((e == (4 : Int)) = true → (((a == (0 : Int)) = true → (((b == (0 : Int)) = true → ((ConOK Try.prog ((12 : Nat)) (C12)) ∧ (Con.pre (C12) ⟨⟨[], []⟩, []⟩) ∧ 
R (.ret (.bool true)))) ∧
((b == (0 : Int)) = false → R (.ret (.bool false))))) ∧
((a == (0 : Int)) = false → R (.ret (.bool false))))) ∧
((e == (4 : Int)) = false → R (.ret (.bool false)))))) ∧
((sure) = false → ((Atoms [(mvs n f), (ints n (planG k bs))]) ∧ (LoopOK Try.prog .none p6o (T6o) ⟨⟨[(.bool false), (.int IntKind.i64 (a)), (.int IntKind.i64 (b)), (.int IntKind.i64 (e)), (.int IntKind.i64 ((1 : Int))), (.int IntKind.i64 ((↑n : Int))), (.int IntKind.i64 ((0 : Int))), (.int IntKind.i64 (p))], [⟨(n), (n)⟩, ⟨(n), (c)⟩]⟩, [(mvs n f), (ints n (planG k bs))]⟩ (.exit ((0 : Nat))) (T6o) ⟨⟨[(.bool false), (.int IntKind.i64 (a)), (.int IntKind.i64 (b)), (.int IntKind.i64 (e)), (.int IntKind.i64 ((1 : Int))), (.int IntKind.i64 ((↑n : Int))), (.int IntKind.i64 ((↑n : Int))), (.int IntKind.i64 (p))], [⟨(n), (n)⟩, ⟨(n), (c)⟩]⟩, [(mvs n f), (ints n (planG k bs))]⟩) ∧ 
(((e == (4 : Int)) = true → (((a == (0 : Int)) = true → (((b == (0 : Int)) = true → ((ConOK Try.prog ((12 : Nat)) (C12)) ∧ (Con.pre (C12) ⟨⟨[], []⟩, []⟩) ∧ 
R (.ret (.bool true)))) ∧
((b == (0 : Int)) = false → R (.ret (.bool false))))) ∧
((a == (0 : Int)) = false → R (.ret (.bool false))))) ∧
((e == (4 : Int)) = false → R (.ret (.bool false))))))))) ∧
((sure) = false → ((ConOK Try.prog ((16 : Nat)) ((C16 sure p n c n n f (planG k bs)).when (ARes.ret (Value.tuple { toList := [I a, I b, I e] })))) ∧ (Con.pre ((C16 sure p n c n n f (planG k bs)).when (ARes.ret (Value.tuple { toList := [I a, I b, I e] }))) ⟨⟨[(.int IntKind.i64 (p)), (.bool false)], [⟨(n), (c)⟩, ⟨(n), (n)⟩]⟩, [(mvs n f), (ints n (planG k bs))]⟩) ∧ 
(((sure) = true → ((Atoms [(mvs n f), (ints n (planG k bs))]) ∧ (LoopOK Try.prog .none p6o (T6o) ⟨⟨[(.bool false), (.int IntKind.i64 (a)), (.int IntKind.i64 (b)), (.int IntKind.i64 (e)), (.int IntKind.i64 ((2 : Int))), (.int IntKind.i64 ((↑n : Int))), (.int IntKind.i64 ((0 : Int))), (.int IntKind.i64 (p))], [⟨(n), (n)⟩, ⟨(n), (c)⟩]⟩, [(mvs n f), (ints n (planG k bs))]⟩ (.exit ((0 : Nat))) (T6o) ⟨⟨[(.bool false), (.int IntKind.i64 (a)), (.int IntKind.i64 (b)), (.int IntKind.i64 (e)), (.int IntKind.i64 ((2 : Int))), (.int IntKind.i64 ((↑n : Int))), (.int IntKind.i64 ((↑n : Int))), (.int IntKind.i64 (p))], [⟨(n), (n)⟩, ⟨(n), (c)⟩]⟩, [(mvs n f), (ints n (planG k bs))]⟩) ∧ 
(((e == (4 : Int)) = true → (((a == (0 : Int)) = true → (((b == (0 : Int)) = true → ((ConOK Try.prog ((12 : Nat)) (C12)) ∧ (Con.pre (C12) ⟨⟨[], []⟩, []⟩) ∧ 
R (.ret (.bool true)))) ∧
((b == (0 : Int)) = false → R (.ret (.bool false))))) ∧
((a == (0 : Int)) = false → R (.ret (.bool false))))) ∧
((e == (4 : Int)) = false → R (.ret (.bool false)))))) ∧
((sure) = false → ((Atoms [(mvs n f), (ints n (planG k bs))]) ∧ (LoopOK Try.prog .none p6o (T6o) ⟨⟨[(.bool false), (.int IntKind.i64 (a)), (.int IntKind.i64 (b)), (.int IntKind.i64 (e)), (.int IntKind.i64 ((1 : Int))), (.int IntKind.i64 ((↑n : Int))), (.int IntKind.i64 ((0 : Int))), (.int IntKind.i64 (p))], [⟨(n), (n)⟩, ⟨(n), (c)⟩]⟩, [(mvs n f), (ints n (planG k bs))]⟩ (.exit ((0 : Nat))) (T6o) ⟨⟨[(.bool false), (.int IntKind.i64 (a)), (.int IntKind.i64 (b)), (.int IntKind.i64 (e)), (.int IntKind.i64 ((1 : Int))), (.int IntKind.i64 ((↑n : Int))), (.int IntKind.i64 ((↑n : Int))), (.int IntKind.i64 (p))], [⟨(n), (n)⟩, ⟨(n), (c)⟩]⟩, [(mvs n f), (ints n (planG k bs))]⟩) ∧ 
(((e == (4 : Int)) = true → (((a == (0 : Int)) = true → (((b == (0 : Int)) = true → ((ConOK Try.prog ((12 : Nat)) (C12)) ∧ (Con.pre (C12) ⟨⟨[], []⟩, []⟩) ∧ 
R (.ret (.bool true)))) ∧
((b == (0 : Int)) = false → R (.ret (.bool false))))) ∧
((a == (0 : Int)) = false → R (.ret (.bool false))))) ∧
((e == (4 : Int)) = false → R (.ret (.bool false))))))))))))))) := by kernel_rfl

theorem f6r (p a b e : Int) (sure : Bool) (i n c k d : Nat) (f : Nat → Mv) (bs : Nat → Int) (R : ARes → Prop)  : (vx.call 6 [hV p n c, .bool sure, slV 1 k d] (retK R) (m2b (mvs n f) (u8s k bs)) ([(17, .split ((7, Hint.con C12) :: []) ((4, Hint.con ((C21 p n c f).when (ARes.ret (Value.bool true)))) :: (6, Hint.conN (C13 p n c k d f bs)) :: [(3, .split ((0, Hint.con ((C16 sure p n c n n f (planG k bs)).when (ARes.ret (Value.tuple { toList := [I a, I b, I e] })))) :: [(8, .split ((5, Hint.loopT T6o AExit.ret T6o fun x =>   {     hs :=       { vs := [Value.bool true, I a, I b, I e, x.hs.vs[(4 : Nat)]?.getD undef, I (↑n : Int), I (↑i : Int), I p],         ns := [(n, n), (n, c)] },     ls := [mvs n f, ints n (planG k bs)] }) :: []) ((4, Hint.loopT T6o AExit.ret T6o fun x =>   {     hs :=       { vs := [Value.bool true, I a, I b, I e, x.hs.vs[(4 : Nat)]?.getD undef, I (↑n : Int), I (↑i : Int), I p],         ns := [(n, n), (n, c)] },     ls := [mvs n f, ints n (planG k bs)] }) :: []))]) ((0, Hint.con ((C16 sure p n c n n f (planG k bs)).when (ARes.ret (Value.tuple { toList := [I a, I b, I e] })))) :: [(8, .split ((5, Hint.loopT T6o AExit.ret T6o fun x =>   {     hs :=       { vs := [Value.bool true, I a, I b, I e, x.hs.vs[(4 : Nat)]?.getD undef, I (↑n : Int), I (↑i : Int), I p],         ns := [(n, n), (n, c)] },     ls := [mvs n f, ints n (planG k bs)] }) :: []) ((4, Hint.loopT T6o AExit.ret T6o fun x =>   {     hs :=       { vs := [Value.bool true, I a, I b, I e, x.hs.vs[(4 : Nat)]?.getD undef, I (↑n : Int), I (↑i : Int), I p],         ns := [(n, n), (n, c)] },     ls := [mvs n f, ints n (planG k bs)] }) :: []))]))]))])) =
((((decide ((if (↑(0 : Nat) : Int) > (↑n : Int) then (↑(0 : Nat) : Int) else (↑n : Int)) > (40 : Int))) = true → ((ConOK Try.prog ((12 : Nat)) (C12)) ∧ (Con.pre (C12) ⟨⟨[], []⟩, []⟩) ∧ 
R (.ret (.bool true)))) ∧
((decide ((if (↑(0 : Nat) : Int) > (↑n : Int) then (↑(0 : Nat) : Int) else (↑n : Int)) > (40 : Int))) = false → ((ConOK Try.prog ((21 : Nat)) ((C21 p n c f).when (ARes.ret (Value.bool true)))) ∧ (Con.pre ((C21 p n c f).when (ARes.ret (Value.bool true))) ⟨⟨[(.int IntKind.i64 (p))], [⟨(n), (c)⟩]⟩, [(mvs n f)]⟩) ∧ 
((ConNOK Try.prog ((13 : Nat)) (C13 p n c k d f bs)) ∧ (ConN.pre (C13 p n c k d f bs) ⟨⟨[(.int IntKind.i64 (p))], [⟨(n), (c)⟩, ⟨(k), (d)⟩]⟩, [(mvs n f), (u8s k bs)]⟩) ∧ 
(((sure) = true → ((ConOK Try.prog ((16 : Nat)) ((C16 sure p n c n n f (planG k bs)).when (ARes.ret (Value.tuple { toList := [I a, I b, I e] })))) ∧ (Con.pre ((C16 sure p n c n n f (planG k bs)).when (ARes.ret (Value.tuple { toList := [I a, I b, I e] }))) ⟨⟨[(.int IntKind.i64 (p)), (.bool true)], [⟨(n), (c)⟩, ⟨(n), (n)⟩]⟩, [(mvs n f), (ints n (planG k bs))]⟩) ∧ 
(((sure) = true → ((Atoms [(mvs n f), (ints n (planG k bs))]) ∧ (LoopOK Try.prog .none p6o (T6o) ⟨⟨[(.bool false), (.int IntKind.i64 (a)), (.int IntKind.i64 (b)), (.int IntKind.i64 (e)), (.int IntKind.i64 ((2 : Int))), (.int IntKind.i64 ((↑n : Int))), (.int IntKind.i64 ((0 : Int))), (.int IntKind.i64 (p))], [⟨(n), (n)⟩, ⟨(n), (c)⟩]⟩, [(mvs n f), (ints n (planG k bs))]⟩ .ret (T6o) ⟨⟨[(.bool true), (.int IntKind.i64 (a)), (.int IntKind.i64 (b)), (.int IntKind.i64 (e)), (.int IntKind.i64 ((2 : Int))), (.int IntKind.i64 ((↑n : Int))), (.int IntKind.i64 ((↑i : Int))), (.int IntKind.i64 (p))], [⟨(n), (n)⟩, ⟨(n), (c)⟩]⟩, [(mvs n f), (ints n (planG k bs))]⟩) ∧ 
R (.ret (.bool true)))) ∧
((sure) = false → ((Atoms [(mvs n f), (ints n (planG k bs))]) ∧ (LoopOK Try.prog .none p6o (T6o) ⟨⟨[(.bool false), (.int IntKind.i64 (a)), (.int IntKind.i64 (b)), (.int IntKind.i64 (e)), (.int IntKind.i64 ((1 : Int))), (.int IntKind.i64 ((↑n : Int))), (.int IntKind.i64 ((0 : Int))), (.int IntKind.i64 (p))], [⟨(n), (n)⟩, ⟨(n), (c)⟩]⟩, [(mvs n f), (ints n (planG k bs))]⟩ .ret (T6o) ⟨⟨[(.bool true), (.int IntKind.i64 (a)), (.int IntKind.i64 (b)), (.int IntKind.i64 (e)), (.int IntKind.i64 ((1 : Int))), (.int IntKind.i64 ((↑n : Int))), (.int IntKind.i64 ((↑i : Int))), (.int IntKind.i64 (p))], [⟨(n), (n)⟩, ⟨(n), (c)⟩]⟩, [(mvs n f), (ints n (planG k bs))]⟩) ∧ 
R (.ret (.bool true))))))) ∧
((sure) = false → ((ConOK Try.prog ((16 : Nat)) ((C16 sure p n c n n f (planG k bs)).when (ARes.ret (Value.tuple { toList := [I a, I b, I e] })))) ∧ (Con.pre ((C16 sure p n c n n f (planG k bs)).when (ARes.ret (Value.tuple { toList := [I a, I b, I e] }))) ⟨⟨[(.int IntKind.i64 (p)), (.bool false)], [⟨(n), (c)⟩, ⟨(n), (n)⟩]⟩, [(mvs n f), (ints n (planG k bs))]⟩) ∧ 
(((sure) = true → ((Atoms [(mvs n f), (ints n (planG k bs))]) ∧ (LoopOK Try.prog .none p6o (T6o) ⟨⟨[(.bool false), (.int IntKind.i64 (a)), (.int IntKind.i64 (b)), (.int IntKind.i64 (e)), (.int IntKind.i64 ((2 : Int))), (.int IntKind.i64 ((↑n : Int))), (.int IntKind.i64 ((0 : Int))), (.int IntKind.i64 (p))], [⟨(n), (n)⟩, ⟨(n), (c)⟩]⟩, [(mvs n f), (ints n (planG k bs))]⟩ .ret (T6o) ⟨⟨[(.bool true), (.int IntKind.i64 (a)), (.int IntKind.i64 (b)), (.int IntKind.i64 (e)), (.int IntKind.i64 ((2 : Int))), (.int IntKind.i64 ((↑n : Int))), (.int IntKind.i64 ((↑i : Int))), (.int IntKind.i64 (p))], [⟨(n), (n)⟩, ⟨(n), (c)⟩]⟩, [(mvs n f), (ints n (planG k bs))]⟩) ∧ 
R (.ret (.bool true)))) ∧
((sure) = false → ((Atoms [(mvs n f), (ints n (planG k bs))]) ∧ (LoopOK Try.prog .none p6o (T6o) ⟨⟨[(.bool false), (.int IntKind.i64 (a)), (.int IntKind.i64 (b)), (.int IntKind.i64 (e)), (.int IntKind.i64 ((1 : Int))), (.int IntKind.i64 ((↑n : Int))), (.int IntKind.i64 ((0 : Int))), (.int IntKind.i64 (p))], [⟨(n), (n)⟩, ⟨(n), (c)⟩]⟩, [(mvs n f), (ints n (planG k bs))]⟩ .ret (T6o) ⟨⟨[(.bool true), (.int IntKind.i64 (a)), (.int IntKind.i64 (b)), (.int IntKind.i64 (e)), (.int IntKind.i64 ((1 : Int))), (.int IntKind.i64 ((↑n : Int))), (.int IntKind.i64 ((↑i : Int))), (.int IntKind.i64 (p))], [⟨(n), (n)⟩, ⟨(n), (c)⟩]⟩, [(mvs n f), (ints n (planG k bs))]⟩) ∧ 
R (.ret (.bool true))))))))))))) := by kernel_rfl

theorem f6x (p : Int) (sure : Bool) (n c k d : Nat) (f : Nat → Mv) (bs : Nat → Int) (R : ARes → Prop)  : (vx.call 6 [hV p n c, .bool sure, slV 1 k d] (retK R) (m2b (mvs n f) (u8s k bs)) ([(17, .split ((7, Hint.con C12) :: []) ((4, Hint.con ((C21 p n c f).when (ARes.ret (Value.bool false)))) :: (4, Hint.con C12) :: []))])) =
((((decide ((if (↑(0 : Nat) : Int) > (↑n : Int) then (↑(0 : Nat) : Int) else (↑n : Int)) > (40 : Int))) = true → ((ConOK Try.prog ((12 : Nat)) (C12)) ∧ (Con.pre (C12) ⟨⟨[], []⟩, []⟩) ∧ 
R (.ret (.bool true)))) ∧
((decide ((if (↑(0 : Nat) : Int) > (↑n : Int) then (↑(0 : Nat) : Int) else (↑n : Int)) > (40 : Int))) = false → ((ConOK Try.prog ((21 : Nat)) ((C21 p n c f).when (ARes.ret (Value.bool false)))) ∧ (Con.pre ((C21 p n c f).when (ARes.ret (Value.bool false))) ⟨⟨[(.int IntKind.i64 (p))], [⟨(n), (c)⟩]⟩, [(mvs n f)]⟩) ∧ 
((ConOK Try.prog ((12 : Nat)) (C12)) ∧ (Con.pre (C12) ⟨⟨[], []⟩, []⟩) ∧ 
R (.ret (.bool true))))))) := by kernel_rfl

section
variable {p : Int} {n c : Nat} {f : Nat → Mv} {g : Nat → Int}
theorem loop6i (hok : okH p n f = true) (sure : Bool) {r : Bool} {a b e : Int} {i : Nat} (hi : i < n) (fact : ∀ j, rowS g (ordF sure p n f n) n i = some j → e = 0 ∧ a = i ∧ b = j) :
    match rowS g (ordF sure p n f n) n i with
    | some m => LoopOK Try.prog none p6i T6i (h6i p n c f g r a b e (cond sure 2 1) i (i + 1)) .ret T6i (h6i p n c f g true a b e (cond sure 2 1) i m)
    | none => LoopOK Try.prog none p6i T6i (h6i p n c f g r a b e (cond sure 2 1) i (i + 1)) (.exit 2) T6i (h6i p n c f g r a b e (cond sure 2 1) i n) := by
  let out : Nat → AExit × Nat × Hx := fun j => match search (badB g (ordF sure p n f n) i) (n - j) j with
    | some m => (.ret, 0, h6i p n c f g true a b e (cond sure 2 1) i m)
    | none => (.exit 2, 0, h6i p n c f g r a b e (cond sure 2 1) i n)
  have hT : ∀ x, [T6i][(out x).2.1]? = some T6i := fun x => by simp only [out]; split <;> rfl
  have h := loop_vc (P := Try.prog) (ro := none) (p := p6i) (Ts := [T6i]) (k := 6) (X := Nat) (inv := fun j => j ≤ n ∧ search (badB g (ordF sure p n f n) i) (n - j) j = rowS g (ordF sure p n f n) n i) (μ := fun j => n - j) (st := fun j => (0, h6i p n c f g r a b e (cond sure 2 1) i j)) (out := out) rfl vx_sound
    (by intro T hT; simp only [List.mem_singleton] at hT; subst hT; rfl) (by rw [nglob]; omega) (fun j hj => by
      have step : j < n → out j = if badB g (ordF sure p n f n) i j then (.ret, 0, h6i p n c f g true a b e (cond sure 2 1) i j) else out (j + 1) := fun h => by
        have e : n - j = (n - (j + 1)) + 1 := by omega
        simp only [out, e, search]
        cases badB g (ordF sure p n f n) i j <;> simp
      have snext : j < n → badB g (ordF sure p n f n) i j = false → search (badB g (ordF sure p n f n) i) (n - (j + 1)) (j + 1) = rowS g (ordF sure p n f n) n i := fun h hb => by
        have e : n - j = (n - (j + 1)) + 1 := by omega
        have h2 := hj.2
        rw [e] at h2
        simp only [search, hb, Bool.false_eq_true, if_false] at h2
        exact h2
      have sbad : j < n → badB g (ordF sure p n f n) i j = true → rowS g (ordF sure p n f n) n i = some j := fun h hb => by
        have e : n - j = (n - (j + 1)) + 1 := by omega
        have h2 := hj.2
        rw [e] at h2
        simp only [search, hb, if_true] at h2
        exact h2.symm
      obtain ⟨hs, hr⟩ := round6i (c := c) (g := g) hok sure (r := r) (a := a) (b := b) (e := e) (j := j) hi (R := RoundR (fun j => j ≤ n ∧ search (badB g (ordF sure p n f n) i) (n - j) j = rowS g (ordF sure p n f n) n i) (fun j => n - j) (fun j => (0, h6i p n c f g r a b e (cond sure 2 1) i j)) out j)
        (fun h hb => fact j (sbad h hb))
        (fun h hb => ⟨⟨atoms6 n f g, trivial⟩, .inl ⟨rfl, j + 1, ⟨by omega, snext h hb⟩, by show n - (j + 1) < n - j; omega, rfl, by rw [step h, hb]; rfl⟩⟩)
        (fun h hb => ⟨⟨atoms6 n f g, trivial⟩, .inr ⟨by simp, by rw [step h, hb]; rfl⟩⟩)
        (fun h => ⟨⟨atoms6 n f g, trivial⟩, .inr ⟨by simp, by
          have e : j = n := by have := hj.1; omega
          subst e
          simp [out, search]⟩⟩)
      exact ⟨T6i, hs, rfl, hr⟩) (x := i + 1) ⟨by omega, rfl⟩ (T0 := T6i) (T1 := T6i) rfl (Nat.le_of_ble_eq_true rfl) (by decide) (hT _)
  simp only [out] at h
  rw [show search (badB g (ordF sure p n f n) i) (n - (i + 1)) (i + 1) = rowS g (ordF sure p n f n) n i from rfl] at h
  revert h
  cases rowS g (ordF sure p n f n) n i <;> exact id
noncomputable def h6o (p : Int) (n c : Nat) (f : Nat → Mv) (g : Nat → Int) (r : Bool) (a b e can : Int) (i : Nat) : Hx := ⟨⟨[.bool r, I a, I b, I e, I can, I n, I i, I p], [(n, n), (n, c)]⟩, [mvs n f, ints n g]⟩
theorem round6o (hok : okH p n f = true) (sure : Bool) {r : Bool} {a b e : Int} {i : Nat} {R : Nat → AExit → Hx → Prop} (fact : i < n → ∀ j, rowS g (ordF sure p n f n) n i = some j → e = 0 ∧ a = i ∧ b = j)
    (h1 : i < n → rowS g (ordF sure p n f n) n i = none → R 0 .normal (h6o p n c f g r a b e (cond sure 2 1) (i + 1)))
    (h2 : i < n → ∀ j, rowS g (ordF sure p n f n) n i = some j → R 0 .ret (h6o p n c f g true a b e (cond sure 2 1) i))
    (h3 : ¬ i < n → R 0 (.exit 0) (h6o p n c f g r a b e (cond sure 2 1) i)) : ∃ hs, vx.code none (.l p6o) (leafK [T6o] R) (T6o.inst (h6o p n c f g r a b e (cond sure 2 1) i)) hs := by
  have h7 := (okH_iff hok).n7
  by_cases hi : i < n
  · have hw : IntKind.i64.wrap ((i : Int) + 1) = ((i + 1 : Nat) : Int) := wrapI (by omega) (by omega)
    have hl := loop6i (c := c) (g := g) hok sure (r := r) hi (fact hi)
    cases hs : rowS g (ordF sure p n f n) n i with
    | none =>
      simp only [hs] at hl
      refine ⟨_, (b6on p a b e (cond sure 2 1) r i n c (mvs n f) (ints n g) R).mpr ⟨fun _ => ?_, fun h => h3 (by simpa using h)⟩⟩
      rw [hw]
      exact ⟨atoms6 n f g, hl, h1 hi hs⟩
    | some j =>
      simp only [hs] at hl
      refine ⟨_, (b6or p a b e (cond sure 2 1) r i j n c (mvs n f) (ints n g) R).mpr ⟨fun _ => ?_, fun h => h3 (by simpa using h)⟩⟩
      rw [hw]
      exact ⟨atoms6 n f g, hl, h2 hi j hs⟩
  · exact ⟨_, (b6on p a b e (cond sure 2 1) r i n c (mvs n f) (ints n g) R).mpr ⟨fun h => absurd (by simpa using h) hi, fun _ => h3 hi⟩⟩
theorem loop6o (hok : okH p n f = true) (sure : Bool) {r : Bool} {a b e : Int} (fact : ∀ m, pairS g (ordF sure p n f n) n n 0 = some m → e = 0 ∧ a = m.1 ∧ b = m.2) :
    match pairS g (ordF sure p n f n) n n 0 with
    | some m => LoopOK Try.prog none p6o T6o (h6o p n c f g r a b e (cond sure 2 1) 0) .ret T6o (h6o p n c f g true a b e (cond sure 2 1) m.1)
    | none => LoopOK Try.prog none p6o T6o (h6o p n c f g r a b e (cond sure 2 1) 0) (.exit 0) T6o (h6o p n c f g r a b e (cond sure 2 1) n) := by
  let out : Nat → AExit × Nat × Hx := fun j => match pairS g (ordF sure p n f n) n (n - j) j with
    | some m => (.ret, 0, h6o p n c f g true a b e (cond sure 2 1) m.1)
    | none => (.exit 0, 0, h6o p n c f g r a b e (cond sure 2 1) n)
  have hT : ∀ x, [T6o][(out x).2.1]? = some T6o := fun x => by simp only [out]; split <;> rfl
  have h := loop_vc (P := Try.prog) (ro := none) (p := p6o) (Ts := [T6o]) (k := 6) (X := Nat) (inv := fun j => j ≤ n ∧ pairS g (ordF sure p n f n) n (n - j) j = pairS g (ordF sure p n f n) n n 0) (μ := fun j => n - j) (st := fun j => (0, h6o p n c f g r a b e (cond sure 2 1) j)) (out := out) rfl vx_sound
    (by intro T hT; simp only [List.mem_singleton] at hT; subst hT; rfl) (by rw [nglob]; omega) (fun j hj => by
      have step : j < n → out j = match rowS g (ordF sure p n f n) n j with | some _ => (.ret, 0, h6o p n c f g true a b e (cond sure 2 1) j) | none => out (j + 1) := fun h => by
        have e : n - j = (n - (j + 1)) + 1 := by omega
        simp only [out, e, pairS]
        cases rowS g (ordF sure p n f n) n j <;> rfl
      have snext : j < n → rowS g (ordF sure p n f n) n j = none → pairS g (ordF sure p n f n) n (n - (j + 1)) (j + 1) = pairS g (ordF sure p n f n) n n 0 := fun h hb => by
        have e : n - j = (n - (j + 1)) + 1 := by omega
        have h2 := hj.2
        rw [e] at h2
        simp only [pairS, hb] at h2
        exact h2
      have sbad : j < n → ∀ m, rowS g (ordF sure p n f n) n j = some m → pairS g (ordF sure p n f n) n n 0 = some (j, m) := fun h m hb => by
        have e : n - j = (n - (j + 1)) + 1 := by omega
        have h2 := hj.2
        rw [e] at h2
        simp only [pairS, hb] at h2
        exact h2.symm
      obtain ⟨hs, hr⟩ := round6o (c := c) (g := g) hok sure (r := r) (a := a) (b := b) (e := e) (i := j) (R := RoundR (fun j => j ≤ n ∧ pairS g (ordF sure p n f n) n (n - j) j = pairS g (ordF sure p n f n) n n 0) (fun j => n - j) (fun j => (0, h6o p n c f g r a b e (cond sure 2 1) j)) out j)
        (fun h m hb => fact _ (sbad h m hb))
        (fun h hb => ⟨⟨atoms6 n f g, trivial⟩, .inl ⟨rfl, j + 1, ⟨by omega, snext h hb⟩, by show n - (j + 1) < n - j; omega, rfl, by rw [step h, hb]⟩⟩)
        (fun h m hb => ⟨⟨atoms6 n f g, trivial⟩, .inr ⟨by simp, by rw [step h, hb]⟩⟩)
        (fun h => ⟨⟨atoms6 n f g, trivial⟩, .inr ⟨by simp, by
          have e : j = n := by have := hj.1; omega
          subst e
          simp [out, pairS]⟩⟩)
      exact ⟨T6o, hs, rfl, hr⟩) (x := 0) ⟨by omega, rfl⟩ (T0 := T6o) (T1 := T6o) rfl (Nat.le_of_ble_eq_true rfl) (by decide) (hT _)
  simp only [out, Nat.sub_zero] at h
  revert h
  cases pairS g (ordF sure p n f n) n n 0 <;> exact id
end
end Go.Ab

/- the law HorseCheck: some moves, some numbers: it returns true. -/
set_option maxRecDepth 100000
namespace Go.Ab
open Go Go.RowKit Go.Proofs
theorem planG_ok {k : Nat} {b : Nat → Int} (hb : ∀ i, i < k → 0 ≤ b i ∧ b i < 256) (i : Nat) : okN (planG k b i) = true := by
  simp only [planG]
  by_cases hk : 0 < k
  · rw [if_pos hk]
    have e : (i : Int).tmod (k : Int) = ((i % k : Nat) : Int) := rfl
    have hlt := Nat.mod_lt i hk
    rw [e, Int.toNat_natCast]
    obtain ⟨h0, h1⟩ := hb _ hlt
    generalize b (i % k) = z at h0 h1
    rw [wrapI (by omega) (by omega)]
    obtain ⟨m, rfl⟩ := Int.eq_ofNat_of_zero_le h0
    have e2 : ((m : Nat) : Int).tmod 7 = ((m % 7 : Nat) : Int) := rfl
    have hm := Nat.mod_lt m (show 0 < 7 by omega)
    simp only [okN, Bool.and_eq_true, decide_eq_true_eq]
    rw [e2]
    omega
  · rw [if_neg hk]; rfl
theorem allFrom_true (q : Nat → Bool) (h : ∀ i, q i = true) : ∀ r m, allFrom q r m = true := by
  intro r
  induction r with
  | zero => intro m; rfl
  | succ r ih => intro m; simp only [allFrom, h, ih, Bool.and_self]
theorem plan_ok {n k : Nat} {b : Nat → Int} (hb : ∀ i, i < k → 0 ≤ b i ∧ b i < 256) : okP n n (planG k b) = true := by
  simp only [okP, bne_self_eq_false, Bool.not_false, Bool.true_and]
  exact allFrom_true _ (planG_ok hb) _ _
theorem law6 (p : Int) (sure : Bool) (n c k d : Nat) (f : Nat → Mv) (bs : Nat → Int) (h0 : 0 < n) (hn : n ≤ 1000000) (hb : ∀ i, i < k → 0 ≤ bs i ∧ bs i < 256) :
    ∃ hs, vx.call 6 [hV p n c, .bool sure, slV 1 k d] (retK fun r => r = .ret (.bool true)) (m2b (mvs n f) (u8s k bs)) hs := by
  have hwhen : ∀ r, ConOK Try.prog 21 ((C21 p n c f).when r) := fun r => con_when (C21_ok p n c f hn) r
  cases hok : okH p n f with
  | false =>
    have hr : (C21 p n c f).res ⟨⟨[I p], [(n, c)]⟩, [mvs n f]⟩ = .ret (.bool false) := by show ARes.ret (.bool (okH p n f)) = _; rw [hok]
    exact ⟨_, (f6x p sure n c k d f bs _).mpr ⟨fun _ => ⟨C12_ok, rfl, rfl⟩, fun _ => ⟨hwhen _, ⟨rfl, hr⟩, C12_ok, rfl, rfl⟩⟩⟩
  | true =>
    have hr : (C21 p n c f).res ⟨⟨[I p], [(n, c)]⟩, [mvs n f]⟩ = .ret (.bool true) := by show ARes.ret (.bool (okH p n f)) = _; rw [hok]
    have h7 := (okH_iff hok).n7
    have hpl := plan_ok (n := n) hb
    have h16 : ∀ r, ConOK Try.prog 16 ((C16 sure p n c n n f (planG k bs)).when r) := fun r => con_when (C16_ok sure p n c n n f (planG k bs) hok hpl h7 h7) r
    have h13 := C13_ok p n c k d f bs h0 hn
    cases hs : pairS (planG k bs) (ordF sure p n f n) n n 0 with
    | none =>
      have hv : (C16 sure p n c n n f (planG k bs)).res ⟨⟨[I p, .bool sure], [(n, c), (n, n)]⟩, [mvs n f, ints n (planG k bs)]⟩ = .ret (.tuple ⟨[I 0, I 0, I 4]⟩) := by simp only [C16, checkV, hs]
      have hl := loop6o (c := c) (g := planG k bs) hok sure (r := false) (a := 0) (b := 0) (e := 4) (fun m hm => by rw [hs] at hm; cases hm)
      simp only [hs] at hl
      have key : ∀ R : ARes → Prop, R (.ret (.bool true)) → ∃ hs, vx.call 6 [hV p n c, .bool sure, slV 1 k d] (retK R) (m2b (mvs n f) (u8s k bs)) hs := by
        intro R hR
        refine ⟨_, (f6n p 0 0 4 sure n c k d f bs R).mpr ?_⟩
        cases sure
        · refine ⟨fun _ => ⟨C12_ok, rfl, hR⟩, fun _ => ⟨hwhen _, ⟨rfl, hr⟩, h13, rfl, fun h => (by cases h), fun _ => ⟨h16 _, ⟨rfl, hv⟩, fun h => (by cases h), fun _ => ⟨atoms6 n f _, hl, fun _ => ⟨fun _ => ⟨fun _ => ⟨C12_ok, rfl, hR⟩, fun h => (by simp at h)⟩, fun h => (by simp at h)⟩, fun h => (by simp at h)⟩⟩⟩⟩
        · refine ⟨fun _ => ⟨C12_ok, rfl, hR⟩, fun _ => ⟨hwhen _, ⟨rfl, hr⟩, h13, rfl, fun _ => ⟨h16 _, ⟨rfl, hv⟩, fun _ => ⟨atoms6 n f _, hl, fun _ => ⟨fun _ => ⟨fun _ => ⟨C12_ok, rfl, hR⟩, fun h => (by simp at h)⟩, fun h => (by simp at h)⟩, fun h => (by simp at h)⟩, fun h => (by cases h)⟩, fun h => (by cases h)⟩⟩
      exact key _ rfl
    | some m =>
      have hv : (C16 sure p n c n n f (planG k bs)).res ⟨⟨[I p, .bool sure], [(n, c), (n, n)]⟩, [mvs n f, ints n (planG k bs)]⟩ = .ret (.tuple ⟨[I m.1, I m.2, I 0]⟩) := by simp only [C16, checkV, hs]
      have hl := loop6o (c := c) (g := planG k bs) hok sure (r := false) (a := m.1) (b := m.2) (e := 0) (fun m' hm => by rw [hs] at hm; cases hm; exact ⟨rfl, rfl, rfl⟩)
      simp only [hs] at hl
      have key : ∀ R : ARes → Prop, R (.ret (.bool true)) → ∃ hs, vx.call 6 [hV p n c, .bool sure, slV 1 k d] (retK R) (m2b (mvs n f) (u8s k bs)) hs := by
        intro R hR
        refine ⟨_, (f6r p m.1 m.2 0 sure m.1 n c k d f bs R).mpr ?_⟩
        cases sure
        · refine ⟨fun _ => ⟨C12_ok, rfl, hR⟩, fun _ => ⟨hwhen _, ⟨rfl, hr⟩, h13, rfl, fun h => (by cases h), fun _ => ⟨h16 _, ⟨rfl, hv⟩, fun h => (by cases h), fun _ => ⟨atoms6 n f _, hl, hR⟩⟩⟩⟩
        · refine ⟨fun _ => ⟨C12_ok, rfl, hR⟩, fun _ => ⟨hwhen _, ⟨rfl, hr⟩, h13, rfl, fun _ => ⟨h16 _, ⟨rfl, hv⟩, fun _ => ⟨atoms6 n f _, hl, hR⟩, fun h => (by cases h)⟩, fun h => (by cases h)⟩⟩
      exact key _ rfl
end Go.Ab

/- FORMS OF STATES AT LOOPS' HEADS: the law HorseEnds. -/
set_option maxRecDepth 100000
namespace Go.Ab
open Go Go.RowKit Go.Proofs
def p4a : Loc := .l (.r (.l (.r (.r (.r (.r (.r (.r (.r (.top 4))))))))))
noncomputable def T4a : Tw := ⟨320, mkS 320 [(3, .ptr 2 0 .nil), (11, .slice 4 0 .nil), (12, .val nilS .nil), (13, .val nilS .nil), (14, .hole .nil), (15, .ptr 5 0 .nil), (79, .slice 0 0 .nil), (80, .hole .nil), (81, .hole .nil)], 6, [.list 1 .ro, .dead, .cells (.hole (.slice 0 0 .nil)) 24 .var, .dead, .list 3 .row, .cells (.hole (.hole .nil)) 31 .var]⟩
noncomputable def T4b : Tw := ⟨320, mkS 320 [(3, .ptr 2 0 .nil), (11, .slice 4 0 .nil), (12, .slice 6 0 .nil), (13, .slice 7 0 .nil), (14, .hole .nil), (15, .ptr 5 0 .nil), (79, .slice 0 0 .nil), (80, .hole .nil), (81, .hole .nil)], 6, [.list 1 .ro, .dead, .cells (.hole (.slice 0 0 .nil)) 24 .var, .dead, .list 3 .row, .cells (.hole (.hole .nil)) 31 .var, .list 3 .row, .list 3 .row]⟩
end Go.Ab

/- FORMS OF STATES AT LOOPS' HEADS: the law HorseEnds, its last loops. -/
set_option maxRecDepth 100000
namespace Go.Ab
open Go Go.RowKit Go.Proofs
def p4c : Loc := .l (.r (.l (.r (.r (.r (.r (.r (.r (.r (.r (.r (.r (.r (.r (.top 4)))))))))))))))
noncomputable def T4c : Tw := ⟨320, mkS 320 [(3, .ptr 2 0 .nil), (11, .slice 4 0 .nil), (18, .slice 8 0 .nil), (19, .slice 9 0 .nil), (20, .slice 10 0 .nil), (173, .slice 0 0 .nil), (174, .hole .nil), (175, .hole .nil)], 12, [.list 1 .ro, .dead, .cells (.hole (.slice 0 0 .nil)) 24 .var, .dead, .list 3 .row, .dead, .dead, .dead, .list 3 .row, .list 3 .row, .list 31 .row, .dead]⟩
def p4d : Loc := .l (.r (.r (.r (.l (.l (.r (.r (.l (.l (.r (.l (.r (.r (.r (.r (.r (.r (.r (.r (.r (.r (.r (.r (.top 4))))))))))))))))))))))))
noncomputable def T4d : Tw := ⟨320, mkS 320 [(3, .ptr 2 0 .nil), (11, .slice 4 0 .nil), (18, .slice 8 0 .nil), (19, .slice 9 0 .nil), (20, .slice 10 0 .nil), (24, .hole .nil), (25, .ptr 12 0 .nil), (173, .slice 0 0 .nil), (174, .hole .nil), (175, .hole .nil), (201, .slice 0 0 .nil), (202, .hole .nil), (203, .hole .nil)], 14, [.list 1 .ro, .dead, .cells (.hole (.slice 0 0 .nil)) 24 .var, .dead, .list 3 .row, .dead, .dead, .dead, .list 3 .row, .list 3 .row, .list 31 .row, .dead, .list 33 .var, .dead]⟩
end Go.Ab

/- the law's walk. -/
set_option maxRecDepth 100000
namespace Go.Ab
open Go Go.RowKit Go.Proofs
theorem f17 (p : Int) (i j n c : Nat) (f : Nat → Mv) (R : ARes → Prop)  : (vx.call 17 [hV p n c, I i, I j] (retK R) (m1 (mvs n f)) ((6, .val (.pointer (.some ⟨((0 : Nat)), ((0 : Nat) + i * (4 : Nat)), .none⟩))) :: (1, .val (.int IntKind.i64 ((f i).place))) :: (3, .val (.pointer (.some ⟨((0 : Nat)), ((0 : Nat) + j * (4 : Nat)), .none⟩))) :: (1, .val (.int IntKind.i64 ((f j).place))) :: [(3, .split ([]) ([]))])) =
(((((((0 : Int) ≤ (↑i : Int))) ∧ (((↑i : Int) < (↑n : Int)))) ∧ (((.pointer (.some ⟨((0 : Nat)), ((0 : Nat) + i * (4 : Nat)), .none⟩)) : Value) = (.pointer (.some ⟨((0 : Nat)), ((0 : Nat) + i * (4 : Nat)), .none⟩)))) ∧
((((mvs n f)[(0 : Nat) + i * (4 : Nat) + (1 : Nat)]? = some (.int IntKind.i64 ((f i).place)))) ∧
((((((0 : Int) ≤ (↑j : Int))) ∧ (((↑j : Int) < (↑n : Int)))) ∧ (((.pointer (.some ⟨((0 : Nat)), ((0 : Nat) + j * (4 : Nat)), .none⟩)) : Value) = (.pointer (.some ⟨((0 : Nat)), ((0 : Nat) + j * (4 : Nat)), .none⟩)))) ∧
((((mvs n f)[(0 : Nat) + j * (4 : Nat) + (1 : Nat)]? = some (.int IntKind.i64 ((f j).place)))) ∧
(((decide (IntKind.i64.wrap ((f i).place - (f j).place) < (0 : Int))) = true → R (.ret (.int IntKind.i64 (IntKind.i64.wrap (p * IntKind.i64.wrap ((0 : Int) - IntKind.i64.wrap ((f i).place - (f j).place))))))) ∧
((decide (IntKind.i64.wrap ((f i).place - (f j).place) < (0 : Int))) = false → R (.ret (.int IntKind.i64 (IntKind.i64.wrap (p * IntKind.i64.wrap ((f i).place - (f j).place)))))))))))) := by kernel_rfl

/-- How long a horse walks, whichever moves are meant. -/
noncomputable def C17x (p : Int) (n c : Nat) (f : Nat → Mv) : Con where
  A := .agg (.hole (.slice 0 0 .nil)) (.hole (.hole .nil))
  bs := [.list 1 .ro]
  pre x := ∃ i j, i < n ∧ j < n ∧ x = ⟨⟨[I p, I (i : Nat), I (j : Nat)], [(n, c)]⟩, [mvs n f]⟩
  res x := .ret (I (wkI p (f (natAt x 1)) (f (natAt x 2))))
theorem C17x_ok (p : Int) (n c : Nat) (f : Nat → Mv) (h0 : 0 < n) (hok : okH p n f = true) : ConOK Try.prog 17 (C17x p n c f) := by
  have hH := okH_iff hok
  have h7 := hH.n7
  refine con_of vx_sound ⟨⟨[I p, I (0 : Nat), I (0 : Nat)], [(n, c)]⟩, [mvs n f]⟩ (fun x hx => ?_) ⟨0, 0, h0, h0, rfl⟩ (fun _ _ => rfl) (fun x hx => by obtain ⟨i, j, hi, hj, rfl⟩ := hx; exact mvs_atoms n f) rfl (Nat.le_of_ble_eq_true rfl) (by rw [nglob]; exact Nat.zero_le _)
  obtain ⟨i, j, hi, hj, rfl⟩ := hx
  have hx1 := hH.mv i hi
  have hx2 := hH.mv j hj
  have a1 := hx1.pl0; have a2 := hx1.pl1; have b1 := hx2.pl0; have b2 := hx2.pl1
  have hp : 0 ≤ p ∧ p ≤ 3 := ⟨hH.p0, hH.p3⟩
  have hwl := wkI_le hp ⟨a1, a2⟩ ⟨b1, b2⟩
  have w2 : IntKind.i64.wrap ((f i).place - (f j).place) = (f i).place - (f j).place := wrapI (by omega) (by omega)
  have w3 : IntKind.i64.wrap (0 - ((f i).place - (f j).place)) = (f j).place - (f i).place := by
    rw [wrapI (by omega) (by omega)]; omega
  have key : ∀ R : ARes → Prop, R (.ret (I (wkI p (f i) (f j)))) → ∃ hs, vx.call 17 [hV p n c, I i, I j] (retK R) (m1 (mvs n f)) hs := by
    intro R hR
    refine ⟨_, (f17 p i j n c f R).mpr ?_⟩
    rw [w2, w3]
    repeat' (first | with_reducible apply And.intro | with_reducible intro)
    all_goals first
      | omega
      | rfl
      | exact mvs_cell f hi (show 1 < 4 by omega)
      | exact mvs_cell f hj (show 1 < 4 by omega)
      | (rename_i hlt; have hlt := of_decide_eq_true hlt; unfold wkI at hR hwl; rw [if_pos hlt] at hR hwl; rw [wrapI (by omega) (by omega)]; exact hR)
      | (rename_i hlt; have hlt := of_decide_eq_false hlt; unfold wkI at hR hwl; rw [if_neg hlt] at hR hwl; rw [wrapI (by omega) (by omega)]; exact hR)
  obtain ⟨hs, h⟩ := key (fun r => r = (C17x p n c f).res ⟨⟨[I p, I (i : Nat), I (j : Nat)], [(n, c)]⟩, [mvs n f]⟩) rfl
  exact ⟨hs, h⟩
end Go.Ab

/- the law HorseEnds: its loops. -/
set_option maxRecDepth 100000
namespace Go.Ab
open Go Go.RowKit Go.Proofs
theorem b4a (p a lo hi : Int) (n c i : Nat) (f : Nat → Mv) (ms ps : List Value) (R : Nat → AExit → Hw → Prop)  : (vx.code none (.l p4a) (leafW [T4a, T4b] R) (T4a.inst ⟨⟨[I a, I n, I i, I p, I lo, I hi], [(n, n), (n, c), (n, c)]⟩, [ms, ps], []⟩) ([(0, .split ((1, .val (.pointer (.some ⟨((0 : Nat)), ((0 : Nat) + i * (4 : Nat)), .none⟩))) :: (0, .val (.agg ⟨[(.int IntKind.i64 ((f i).at_)), (.int IntKind.i64 ((f i).place)), (.int IntKind.i64 ((f i).lo)), (.int IntKind.i64 ((f i).hi))]⟩)) :: (11, Hint.again) :: [(6, .split ([(8, .split ([(10, .split ([(8, .split ([(9, Hint.tm (1 : Nat) [((6 : Nat), (9 : Nat)), ((7 : Nat), (10 : Nat))])]) ([(4, Hint.tm (1 : Nat) [((6 : Nat), (9 : Nat)), ((7 : Nat), (10 : Nat))])]))]) ([(5, Hint.tm (1 : Nat) [((6 : Nat), (9 : Nat)), ((7 : Nat), (10 : Nat))])]))]) ([(5, .split ([(8, .split ([(9, Hint.tm (1 : Nat) [((6 : Nat), (9 : Nat)), ((7 : Nat), (10 : Nat))])]) ([(4, Hint.tm (1 : Nat) [((6 : Nat), (9 : Nat)), ((7 : Nat), (10 : Nat))])]))]) ([(5, Hint.tm (1 : Nat) [((6 : Nat), (9 : Nat)), ((7 : Nat), (10 : Nat))])]))]))]) ([(6, .split ([(8, .split ([(9, Hint.tm (1 : Nat) [((6 : Nat), (9 : Nat)), ((7 : Nat), (10 : Nat))])]) ([(4, Hint.tm (1 : Nat) [((6 : Nat), (9 : Nat)), ((7 : Nat), (10 : Nat))])]))]) ([(5, Hint.tm (1 : Nat) [((6 : Nat), (9 : Nat)), ((7 : Nat), (10 : Nat))])]))]))]) ([(1, Hint.tm (0 : Nat) [])]))])) =
((((decide ((↑i : Int) < (↑n : Int))) = true → ((((((0 : Int) ≤ (↑i : Int))) ∧ (((↑i : Int) < (↑n : Int)))) ∧ (((.pointer (.some ⟨((0 : Nat)), ((0 : Nat) + i * (4 : Nat)), .none⟩)) : Value) = (.pointer (.some ⟨((0 : Nat)), ((0 : Nat) + i * (4 : Nat)), .none⟩)))) ∧
(((((0 : Nat) + i * (4 : Nat) + (4 : Nat) ≤ ms.length)) ∧ (((.agg ⟨[(.int IntKind.i64 ((f i).at_)), (.int IntKind.i64 ((f i).place)), (.int IntKind.i64 ((f i).lo)), (.int IntKind.i64 ((f i).hi))]⟩) : Value) = (.agg ⟨(List.take ((4 : Nat)) (List.drop ((0 : Nat) + i * (4 : Nat)) (ms)))⟩))) ∧
((((((.slice (.some ⟨((8 : Nat)), ((0 : Nat)), .none⟩) ((1 : Nat)) ((1 : Nat))) : Value) = (.slice (.some ⟨((8 : Nat)), ((0 : Nat)), .none⟩) ((1 : Nat)) ((1 : Nat)))) ∧ (((some (.cells [(.int IntKind.i64 ((f i).hi))] ((3 : Nat)) .row) : Option ABlk) = some (.cells [(.int IntKind.i64 ((f i).hi))] ((3 : Nat)) .row)))) ∧ ((((some (.int IntKind.i64 ((f i).hi)) : Option Value) = some (.int IntKind.i64 ((f i).hi)))) ∧ (True))) ∧ 
(((decide ((f i).at_ ≤ a)) = true → (((decide (a < IntKind.i64.wrap ((f i).at_ + (f i).lo))) = true → (((decide ((f i).at_ ≤ a)) = true → (((decide (a < IntKind.i64.wrap ((f i).at_ + (f i).hi))) = true → R ((1 : Nat)) .normal ⟨⟨[(.int IntKind.i64 (a)), (.int IntKind.i64 ((↑n : Int))), (.int IntKind.i64 (IntKind.i64.wrap ((↑i : Int) + (1 : Int)))), (.int IntKind.i64 (p)), (.int IntKind.i64 (IntKind.i64.wrap (lo + (1 : Int)))), (.int IntKind.i64 (IntKind.i64.wrap (hi + (1 : Int))))], [⟨(n), (n)⟩, ⟨((1 : Nat)), ((1 : Nat))⟩, ⟨((1 : Nat)), ((1 : Nat))⟩, ⟨(n), (c)⟩, ⟨(n), (c)⟩]⟩, [(ms), (ps), [(.int IntKind.i64 ((f i).lo))], [(.int IntKind.i64 ((f i).hi))]], []⟩) ∧
((decide (a < IntKind.i64.wrap ((f i).at_ + (f i).hi))) = false → R ((1 : Nat)) .normal ⟨⟨[(.int IntKind.i64 (a)), (.int IntKind.i64 ((↑n : Int))), (.int IntKind.i64 (IntKind.i64.wrap ((↑i : Int) + (1 : Int)))), (.int IntKind.i64 (p)), (.int IntKind.i64 (IntKind.i64.wrap (lo + (1 : Int)))), (.int IntKind.i64 (hi))], [⟨(n), (n)⟩, ⟨((1 : Nat)), ((1 : Nat))⟩, ⟨((1 : Nat)), ((1 : Nat))⟩, ⟨(n), (c)⟩, ⟨(n), (c)⟩]⟩, [(ms), (ps), [(.int IntKind.i64 ((f i).lo))], [(.int IntKind.i64 ((f i).hi))]], []⟩))) ∧
((decide ((f i).at_ ≤ a)) = false → R ((1 : Nat)) .normal ⟨⟨[(.int IntKind.i64 (a)), (.int IntKind.i64 ((↑n : Int))), (.int IntKind.i64 (IntKind.i64.wrap ((↑i : Int) + (1 : Int)))), (.int IntKind.i64 (p)), (.int IntKind.i64 (IntKind.i64.wrap (lo + (1 : Int)))), (.int IntKind.i64 (hi))], [⟨(n), (n)⟩, ⟨((1 : Nat)), ((1 : Nat))⟩, ⟨((1 : Nat)), ((1 : Nat))⟩, ⟨(n), (c)⟩, ⟨(n), (c)⟩]⟩, [(ms), (ps), [(.int IntKind.i64 ((f i).lo))], [(.int IntKind.i64 ((f i).hi))]], []⟩))) ∧
((decide (a < IntKind.i64.wrap ((f i).at_ + (f i).lo))) = false → (((decide ((f i).at_ ≤ a)) = true → (((decide (a < IntKind.i64.wrap ((f i).at_ + (f i).hi))) = true → R ((1 : Nat)) .normal ⟨⟨[(.int IntKind.i64 (a)), (.int IntKind.i64 ((↑n : Int))), (.int IntKind.i64 (IntKind.i64.wrap ((↑i : Int) + (1 : Int)))), (.int IntKind.i64 (p)), (.int IntKind.i64 (lo)), (.int IntKind.i64 (IntKind.i64.wrap (hi + (1 : Int))))], [⟨(n), (n)⟩, ⟨((1 : Nat)), ((1 : Nat))⟩, ⟨((1 : Nat)), ((1 : Nat))⟩, ⟨(n), (c)⟩, ⟨(n), (c)⟩]⟩, [(ms), (ps), [(.int IntKind.i64 ((f i).lo))], [(.int IntKind.i64 ((f i).hi))]], []⟩) ∧
((decide (a < IntKind.i64.wrap ((f i).at_ + (f i).hi))) = false → R ((1 : Nat)) .normal ⟨⟨[(.int IntKind.i64 (a)), (.int IntKind.i64 ((↑n : Int))), (.int IntKind.i64 (IntKind.i64.wrap ((↑i : Int) + (1 : Int)))), (.int IntKind.i64 (p)), (.int IntKind.i64 (lo)), (.int IntKind.i64 (hi))], [⟨(n), (n)⟩, ⟨((1 : Nat)), ((1 : Nat))⟩, ⟨((1 : Nat)), ((1 : Nat))⟩, ⟨(n), (c)⟩, ⟨(n), (c)⟩]⟩, [(ms), (ps), [(.int IntKind.i64 ((f i).lo))], [(.int IntKind.i64 ((f i).hi))]], []⟩))) ∧
((decide ((f i).at_ ≤ a)) = false → R ((1 : Nat)) .normal ⟨⟨[(.int IntKind.i64 (a)), (.int IntKind.i64 ((↑n : Int))), (.int IntKind.i64 (IntKind.i64.wrap ((↑i : Int) + (1 : Int)))), (.int IntKind.i64 (p)), (.int IntKind.i64 (lo)), (.int IntKind.i64 (hi))], [⟨(n), (n)⟩, ⟨((1 : Nat)), ((1 : Nat))⟩, ⟨((1 : Nat)), ((1 : Nat))⟩, ⟨(n), (c)⟩, ⟨(n), (c)⟩]⟩, [(ms), (ps), [(.int IntKind.i64 ((f i).lo))], [(.int IntKind.i64 ((f i).hi))]], []⟩))))) ∧
((decide ((f i).at_ ≤ a)) = false → (((decide ((f i).at_ ≤ a)) = true → (((decide (a < IntKind.i64.wrap ((f i).at_ + (f i).hi))) = true → R ((1 : Nat)) .normal ⟨⟨[(.int IntKind.i64 (a)), (.int IntKind.i64 ((↑n : Int))), (.int IntKind.i64 (IntKind.i64.wrap ((↑i : Int) + (1 : Int)))), (.int IntKind.i64 (p)), (.int IntKind.i64 (lo)), (.int IntKind.i64 (IntKind.i64.wrap (hi + (1 : Int))))], [⟨(n), (n)⟩, ⟨((1 : Nat)), ((1 : Nat))⟩, ⟨((1 : Nat)), ((1 : Nat))⟩, ⟨(n), (c)⟩, ⟨(n), (c)⟩]⟩, [(ms), (ps), [(.int IntKind.i64 ((f i).lo))], [(.int IntKind.i64 ((f i).hi))]], []⟩) ∧
((decide (a < IntKind.i64.wrap ((f i).at_ + (f i).hi))) = false → R ((1 : Nat)) .normal ⟨⟨[(.int IntKind.i64 (a)), (.int IntKind.i64 ((↑n : Int))), (.int IntKind.i64 (IntKind.i64.wrap ((↑i : Int) + (1 : Int)))), (.int IntKind.i64 (p)), (.int IntKind.i64 (lo)), (.int IntKind.i64 (hi))], [⟨(n), (n)⟩, ⟨((1 : Nat)), ((1 : Nat))⟩, ⟨((1 : Nat)), ((1 : Nat))⟩, ⟨(n), (c)⟩, ⟨(n), (c)⟩]⟩, [(ms), (ps), [(.int IntKind.i64 ((f i).lo))], [(.int IntKind.i64 ((f i).hi))]], []⟩))) ∧
((decide ((f i).at_ ≤ a)) = false → R ((1 : Nat)) .normal ⟨⟨[(.int IntKind.i64 (a)), (.int IntKind.i64 ((↑n : Int))), (.int IntKind.i64 (IntKind.i64.wrap ((↑i : Int) + (1 : Int)))), (.int IntKind.i64 (p)), (.int IntKind.i64 (lo)), (.int IntKind.i64 (hi))], [⟨(n), (n)⟩, ⟨((1 : Nat)), ((1 : Nat))⟩, ⟨((1 : Nat)), ((1 : Nat))⟩, ⟨(n), (c)⟩, ⟨(n), (c)⟩]⟩, [(ms), (ps), [(.int IntKind.i64 ((f i).lo))], [(.int IntKind.i64 ((f i).hi))]], []⟩)))))))) ∧
((decide ((↑i : Int) < (↑n : Int))) = false → R ((0 : Nat)) (.exit ((0 : Nat))) ⟨⟨[(.int IntKind.i64 (a)), (.int IntKind.i64 ((↑n : Int))), (.int IntKind.i64 ((↑i : Int))), (.int IntKind.i64 (p)), (.int IntKind.i64 (lo)), (.int IntKind.i64 (hi))], [⟨(n), (n)⟩, ⟨(n), (c)⟩, ⟨(n), (c)⟩]⟩, [(ms), (ps)], []⟩))) := by kernel_rfl

theorem b4b (p a lo hi : Int) (n c i : Nat) (f : Nat → Mv) (ms ps xs bs : List Value) (R : Nat → AExit → Hw → Prop)  : (vx.code none (.l p4a) (leafW [T4a, T4b] R) (T4b.inst ⟨⟨[I a, I n, I i, I p, I lo, I hi], [(n, n), (i, i), (i, i), (n, c), (n, c)]⟩, [ms, ps, xs, bs], []⟩) ([(0, .split ((1, .val (.pointer (.some ⟨((0 : Nat)), ((0 : Nat) + i * (4 : Nat)), .none⟩))) :: (0, .val (.agg ⟨[(.int IntKind.i64 ((f i).at_)), (.int IntKind.i64 ((f i).place)), (.int IntKind.i64 ((f i).lo)), (.int IntKind.i64 ((f i).hi))]⟩)) :: (10, Hint.grow) :: (0, Hint.again) :: (0, Hint.grow) :: [(5, .split ([(8, .split ([(10, .split ([(8, .split ([(9, Hint.tm (1 : Nat) [((6 : Nat), (11 : Nat)), ((7 : Nat), (12 : Nat))])]) ([(4, Hint.tm (1 : Nat) [((6 : Nat), (11 : Nat)), ((7 : Nat), (12 : Nat))])]))]) ([(5, Hint.tm (1 : Nat) [((6 : Nat), (11 : Nat)), ((7 : Nat), (12 : Nat))])]))]) ([(5, .split ([(8, .split ([(9, Hint.tm (1 : Nat) [((6 : Nat), (11 : Nat)), ((7 : Nat), (12 : Nat))])]) ([(4, Hint.tm (1 : Nat) [((6 : Nat), (11 : Nat)), ((7 : Nat), (12 : Nat))])]))]) ([(5, Hint.tm (1 : Nat) [((6 : Nat), (11 : Nat)), ((7 : Nat), (12 : Nat))])]))]))]) ([(6, .split ([(8, .split ([(9, Hint.tm (1 : Nat) [((6 : Nat), (11 : Nat)), ((7 : Nat), (12 : Nat))])]) ([(4, Hint.tm (1 : Nat) [((6 : Nat), (11 : Nat)), ((7 : Nat), (12 : Nat))])]))]) ([(5, Hint.tm (1 : Nat) [((6 : Nat), (11 : Nat)), ((7 : Nat), (12 : Nat))])]))]))]) ([(1, Hint.tm (1 : Nat) [((6 : Nat), (6 : Nat)), ((7 : Nat), (7 : Nat))])]))])) =
((((decide ((↑i : Int) < (↑n : Int))) = true → ((((((0 : Int) ≤ (↑i : Int))) ∧ (((↑i : Int) < (↑n : Int)))) ∧ (((.pointer (.some ⟨((0 : Nat)), ((0 : Nat) + i * (4 : Nat)), .none⟩)) : Value) = (.pointer (.some ⟨((0 : Nat)), ((0 : Nat) + i * (4 : Nat)), .none⟩)))) ∧
(((((0 : Nat) + i * (4 : Nat) + (4 : Nat) ≤ ms.length)) ∧ (((.agg ⟨[(.int IntKind.i64 ((f i).at_)), (.int IntKind.i64 ((f i).place)), (.int IntKind.i64 ((f i).lo)), (.int IntKind.i64 ((f i).hi))]⟩) : Value) = (.agg ⟨(List.take ((4 : Nat)) (List.drop ((0 : Nat) + i * (4 : Nat)) (ms)))⟩))) ∧
((((¬i + (1 : Nat) ≤ i)) ∧ (((i * (1 : Nat) = xs.length)) ∧ ((((i + (1 : Nat)) * (8 : Nat) ≤ (140737488355328 : Nat))) ∧ ((i + (1 : Nat) ≤ (4611686018427387904 : Nat)))))) ∧ 
((((((.slice (.some ⟨((10 : Nat)), ((0 : Nat)), .none⟩) ((1 : Nat)) ((1 : Nat))) : Value) = (.slice (.some ⟨((10 : Nat)), ((0 : Nat)), .none⟩) ((1 : Nat)) ((1 : Nat)))) ∧ (((some (.cells [(.int IntKind.i64 ((f i).hi))] ((3 : Nat)) .row) : Option ABlk) = some (.cells [(.int IntKind.i64 ((f i).hi))] ((3 : Nat)) .row)))) ∧ ((((some (.int IntKind.i64 ((f i).hi)) : Option Value) = some (.int IntKind.i64 ((f i).hi)))) ∧ (True))) ∧ 
((((¬i + (1 : Nat) ≤ i)) ∧ (((i * (1 : Nat) = bs.length)) ∧ ((((i + (1 : Nat)) * (8 : Nat) ≤ (140737488355328 : Nat))) ∧ ((i + (1 : Nat) ≤ (4611686018427387904 : Nat)))))) ∧ 
(((decide ((f i).at_ ≤ a)) = true → (((decide (a < IntKind.i64.wrap ((f i).at_ + (f i).lo))) = true → (((decide ((f i).at_ ≤ a)) = true → (((decide (a < IntKind.i64.wrap ((f i).at_ + (f i).hi))) = true → R ((1 : Nat)) .normal ⟨⟨[(.int IntKind.i64 (a)), (.int IntKind.i64 ((↑n : Int))), (.int IntKind.i64 (IntKind.i64.wrap ((↑i : Int) + (1 : Int)))), (.int IntKind.i64 (p)), (.int IntKind.i64 (IntKind.i64.wrap (lo + (1 : Int)))), (.int IntKind.i64 (IntKind.i64.wrap (hi + (1 : Int))))], [⟨(n), (n)⟩, ⟨(i + (1 : Nat)), (i + (1 : Nat))⟩, ⟨(i + (1 : Nat)), (i + (1 : Nat))⟩, ⟨(n), (c)⟩, ⟨(n), (c)⟩]⟩, [(ms), (ps), ((List.take (i * (1 : Nat)) (xs)) ++ [(.int IntKind.i64 ((f i).lo))]), ((List.take (i * (1 : Nat)) (bs)) ++ [(.int IntKind.i64 ((f i).hi))])], []⟩) ∧
((decide (a < IntKind.i64.wrap ((f i).at_ + (f i).hi))) = false → R ((1 : Nat)) .normal ⟨⟨[(.int IntKind.i64 (a)), (.int IntKind.i64 ((↑n : Int))), (.int IntKind.i64 (IntKind.i64.wrap ((↑i : Int) + (1 : Int)))), (.int IntKind.i64 (p)), (.int IntKind.i64 (IntKind.i64.wrap (lo + (1 : Int)))), (.int IntKind.i64 (hi))], [⟨(n), (n)⟩, ⟨(i + (1 : Nat)), (i + (1 : Nat))⟩, ⟨(i + (1 : Nat)), (i + (1 : Nat))⟩, ⟨(n), (c)⟩, ⟨(n), (c)⟩]⟩, [(ms), (ps), ((List.take (i * (1 : Nat)) (xs)) ++ [(.int IntKind.i64 ((f i).lo))]), ((List.take (i * (1 : Nat)) (bs)) ++ [(.int IntKind.i64 ((f i).hi))])], []⟩))) ∧
((decide ((f i).at_ ≤ a)) = false → R ((1 : Nat)) .normal ⟨⟨[(.int IntKind.i64 (a)), (.int IntKind.i64 ((↑n : Int))), (.int IntKind.i64 (IntKind.i64.wrap ((↑i : Int) + (1 : Int)))), (.int IntKind.i64 (p)), (.int IntKind.i64 (IntKind.i64.wrap (lo + (1 : Int)))), (.int IntKind.i64 (hi))], [⟨(n), (n)⟩, ⟨(i + (1 : Nat)), (i + (1 : Nat))⟩, ⟨(i + (1 : Nat)), (i + (1 : Nat))⟩, ⟨(n), (c)⟩, ⟨(n), (c)⟩]⟩, [(ms), (ps), ((List.take (i * (1 : Nat)) (xs)) ++ [(.int IntKind.i64 ((f i).lo))]), ((List.take (i * (1 : Nat)) (bs)) ++ [(.int IntKind.i64 ((f i).hi))])], []⟩))) ∧
((decide (a < IntKind.i64.wrap ((f i).at_ + (f i).lo))) = false → (((decide ((f i).at_ ≤ a)) = true → (((decide (a < IntKind.i64.wrap ((f i).at_ + (f i).hi))) = true → R ((1 : Nat)) .normal ⟨⟨[(.int IntKind.i64 (a)), (.int IntKind.i64 ((↑n : Int))), (.int IntKind.i64 (IntKind.i64.wrap ((↑i : Int) + (1 : Int)))), (.int IntKind.i64 (p)), (.int IntKind.i64 (lo)), (.int IntKind.i64 (IntKind.i64.wrap (hi + (1 : Int))))], [⟨(n), (n)⟩, ⟨(i + (1 : Nat)), (i + (1 : Nat))⟩, ⟨(i + (1 : Nat)), (i + (1 : Nat))⟩, ⟨(n), (c)⟩, ⟨(n), (c)⟩]⟩, [(ms), (ps), ((List.take (i * (1 : Nat)) (xs)) ++ [(.int IntKind.i64 ((f i).lo))]), ((List.take (i * (1 : Nat)) (bs)) ++ [(.int IntKind.i64 ((f i).hi))])], []⟩) ∧
((decide (a < IntKind.i64.wrap ((f i).at_ + (f i).hi))) = false → R ((1 : Nat)) .normal ⟨⟨[(.int IntKind.i64 (a)), (.int IntKind.i64 ((↑n : Int))), (.int IntKind.i64 (IntKind.i64.wrap ((↑i : Int) + (1 : Int)))), (.int IntKind.i64 (p)), (.int IntKind.i64 (lo)), (.int IntKind.i64 (hi))], [⟨(n), (n)⟩, ⟨(i + (1 : Nat)), (i + (1 : Nat))⟩, ⟨(i + (1 : Nat)), (i + (1 : Nat))⟩, ⟨(n), (c)⟩, ⟨(n), (c)⟩]⟩, [(ms), (ps), ((List.take (i * (1 : Nat)) (xs)) ++ [(.int IntKind.i64 ((f i).lo))]), ((List.take (i * (1 : Nat)) (bs)) ++ [(.int IntKind.i64 ((f i).hi))])], []⟩))) ∧
((decide ((f i).at_ ≤ a)) = false → R ((1 : Nat)) .normal ⟨⟨[(.int IntKind.i64 (a)), (.int IntKind.i64 ((↑n : Int))), (.int IntKind.i64 (IntKind.i64.wrap ((↑i : Int) + (1 : Int)))), (.int IntKind.i64 (p)), (.int IntKind.i64 (lo)), (.int IntKind.i64 (hi))], [⟨(n), (n)⟩, ⟨(i + (1 : Nat)), (i + (1 : Nat))⟩, ⟨(i + (1 : Nat)), (i + (1 : Nat))⟩, ⟨(n), (c)⟩, ⟨(n), (c)⟩]⟩, [(ms), (ps), ((List.take (i * (1 : Nat)) (xs)) ++ [(.int IntKind.i64 ((f i).lo))]), ((List.take (i * (1 : Nat)) (bs)) ++ [(.int IntKind.i64 ((f i).hi))])], []⟩))))) ∧
((decide ((f i).at_ ≤ a)) = false → (((decide ((f i).at_ ≤ a)) = true → (((decide (a < IntKind.i64.wrap ((f i).at_ + (f i).hi))) = true → R ((1 : Nat)) .normal ⟨⟨[(.int IntKind.i64 (a)), (.int IntKind.i64 ((↑n : Int))), (.int IntKind.i64 (IntKind.i64.wrap ((↑i : Int) + (1 : Int)))), (.int IntKind.i64 (p)), (.int IntKind.i64 (lo)), (.int IntKind.i64 (IntKind.i64.wrap (hi + (1 : Int))))], [⟨(n), (n)⟩, ⟨(i + (1 : Nat)), (i + (1 : Nat))⟩, ⟨(i + (1 : Nat)), (i + (1 : Nat))⟩, ⟨(n), (c)⟩, ⟨(n), (c)⟩]⟩, [(ms), (ps), ((List.take (i * (1 : Nat)) (xs)) ++ [(.int IntKind.i64 ((f i).lo))]), ((List.take (i * (1 : Nat)) (bs)) ++ [(.int IntKind.i64 ((f i).hi))])], []⟩) ∧
((decide (a < IntKind.i64.wrap ((f i).at_ + (f i).hi))) = false → R ((1 : Nat)) .normal ⟨⟨[(.int IntKind.i64 (a)), (.int IntKind.i64 ((↑n : Int))), (.int IntKind.i64 (IntKind.i64.wrap ((↑i : Int) + (1 : Int)))), (.int IntKind.i64 (p)), (.int IntKind.i64 (lo)), (.int IntKind.i64 (hi))], [⟨(n), (n)⟩, ⟨(i + (1 : Nat)), (i + (1 : Nat))⟩, ⟨(i + (1 : Nat)), (i + (1 : Nat))⟩, ⟨(n), (c)⟩, ⟨(n), (c)⟩]⟩, [(ms), (ps), ((List.take (i * (1 : Nat)) (xs)) ++ [(.int IntKind.i64 ((f i).lo))]), ((List.take (i * (1 : Nat)) (bs)) ++ [(.int IntKind.i64 ((f i).hi))])], []⟩))) ∧
((decide ((f i).at_ ≤ a)) = false → R ((1 : Nat)) .normal ⟨⟨[(.int IntKind.i64 (a)), (.int IntKind.i64 ((↑n : Int))), (.int IntKind.i64 (IntKind.i64.wrap ((↑i : Int) + (1 : Int)))), (.int IntKind.i64 (p)), (.int IntKind.i64 (lo)), (.int IntKind.i64 (hi))], [⟨(n), (n)⟩, ⟨(i + (1 : Nat)), (i + (1 : Nat))⟩, ⟨(i + (1 : Nat)), (i + (1 : Nat))⟩, ⟨(n), (c)⟩, ⟨(n), (c)⟩]⟩, [(ms), (ps), ((List.take (i * (1 : Nat)) (xs)) ++ [(.int IntKind.i64 ((f i).lo))]), ((List.take (i * (1 : Nat)) (bs)) ++ [(.int IntKind.i64 ((f i).hi))])], []⟩)))))))))) ∧
((decide ((↑i : Int) < (↑n : Int))) = false → R ((1 : Nat)) (.exit ((0 : Nat))) ⟨⟨[(.int IntKind.i64 (a)), (.int IntKind.i64 ((↑n : Int))), (.int IntKind.i64 ((↑i : Int))), (.int IntKind.i64 (p)), (.int IntKind.i64 (lo)), (.int IntKind.i64 (hi))], [⟨(n), (n)⟩, ⟨(i), (i)⟩, ⟨(i), (i)⟩, ⟨(n), (c)⟩, ⟨(n), (c)⟩]⟩, [(ms), (ps), (xs), (bs)], []⟩))) := by kernel_rfl

/-! ### What is known of each move -/
noncomputable def st4a (p a : Int) (n c : Nat) (f : Nat → Mv) (ps : List Value) (i : Nat) : Nat × Hw :=
  if i = 0 then (0, ⟨⟨[I a, I n, I (0 : Nat), I p, I (0 : Nat), I (0 : Nat)], [(n, n), (n, c), (n, c)]⟩, [mvs n f, ps], []⟩)
  else (1, ⟨⟨[I a, I n, I i, I p, I (cntN (undB a f (lgS false f)) i : Nat), I (cntN (undB a f (lgS true f)) i : Nat)], [(n, n), (i, i), (i, i), (n, c), (n, c)]⟩, [mvs n f, ps, ints i (lgS false f), ints i (lgS true f)], []⟩)
theorem st4a_cl (p a : Int) (n c : Nat) (f : Nat → Mv) {ps : List Value} (hps : ∀ v ∈ ps, atomic v = true) (i : Nat) : ClW (st4a p a n c f ps i).2 := by
  simp only [st4a]
  split
  · refine clL fun cs hcs => ?_
    simp only [List.mem_cons, List.not_mem_nil, or_false] at hcs
    rcases hcs with rfl | rfl
    · exact mvs_atom n f
    · exact hps
  · refine clL fun cs hcs => ?_
    simp only [List.mem_cons, List.not_mem_nil, or_false] at hcs
    rcases hcs with rfl | rfl | rfl | rfl
    · exact mvs_atom n f
    · exact hps
    · exact ints_atom i _
    · exact ints_atom i _
theorem loop4a {p a : Int} {n c : Nat} {f : Nat → Mv} {ps : List Value} (h0 : 0 < n) (hok : okH p n f = true) (hps : ∀ v ∈ ps, atomic v = true) :
    LoopOW Try.prog none p4a T4a (st4a p a n c f ps 0).2 (.exit 0) T4b (st4a p a n c f ps n).2 := by
  have hH := okH_iff hok
  have h7 := hH.n7
  have hst : ∀ i, 0 < i → st4a p a n c f ps i = (1, ⟨⟨[I a, I n, I i, I p, I (cntN (undB a f (lgS false f)) i : Nat), I (cntN (undB a f (lgS true f)) i : Nat)], [(n, n), (i, i), (i, i), (n, c), (n, c)]⟩, [mvs n f, ps, ints i (lgS false f), ints i (lgS true f)], []⟩) := fun i hi => by simp only [st4a, if_neg (show ¬ i = 0 by omega)]
  refine loop_forW (P := Try.prog) (ro := none) (p := p4a) (Ts := [T4a, T4b]) (k := 6) (n := n) (st := st4a p a n c f ps) (e := .exit 0) rfl vx_sound (by simp [T4a, T4b]) (by rw [nglob]; omega) ⟨by simp, trivial⟩ (fun i _ => st4a_cl p a n c f hps i)
    (fun i hi R hR => ?_) (fun R hR => ?_) (T0 := T4a) (T1 := T4b) rfl (Nat.le_of_ble_eq_true rfl) (by decide) (by rw [hst n h0]; rfl)
  · have hw : IntKind.i64.wrap ((i : Int) + 1) = ((i + 1 : Nat) : Int) := wrapI (by omega) (by omega)
    have hm := hH.mv i hi
    have a1 := hm.at0; have a2 := hm.at1; have a3 := hm.lo1; have a4 := hm.lohi; have a5 := hm.hi1
    have w1 : IntKind.i64.wrap ((f i).at_ + (f i).lo) = (f i).at_ + (f i).lo := wrapI (by omega) (by omega)
    have w2 : IntKind.i64.wrap ((f i).at_ + (f i).hi) = (f i).at_ + (f i).hi := wrapI (by omega) (by omega)
    have l1 := flatC_bound (k := 4) hi
    have c1 := cntN_le (undB a f (lgS false f)) i
    have c2 := cntN_le (undB a f (lgS true f)) i
    have hu1 : undB a f (lgS false f) i = (decide ((f i).at_ ≤ a) && decide (a < (f i).at_ + (f i).lo)) := rfl
    have hu2 : undB a f (lgS true f) i = (decide ((f i).at_ ≤ a) && decide (a < (f i).at_ + (f i).hi)) := rfl
    have w3 : IntKind.i64.wrap (((cntN (undB a f (lgS false f)) i : Nat) : Int) + 1) = ((cntN (undB a f (lgS false f)) i + 1 : Nat) : Int) := wrapI (by omega) (by omega)
    have w4 : IntKind.i64.wrap (((cntN (undB a f (lgS true f)) i : Nat) : Int) + 1) = ((cntN (undB a f (lgS true f)) i + 1 : Nat) : Int) := wrapI (by omega) (by omega)
    rw [hst (i + 1) (by omega)] at hR
    simp only [cntN, hu1, hu2] at hR
    by_cases hz : i = 0
    · subst hz
      refine ⟨T4a, _, rfl, (b4a p a (0 : Nat) (0 : Nat) n c 0 f (mvs n f) ps R).mpr ⟨fun _ => ?_, fun h => absurd hi (by simpa using h)⟩⟩
      have w5 : IntKind.i64.wrap (((0 : Nat) : Int) + 1) = ((0 + 1 : Nat) : Int) := wrapI (by omega) (by omega)
      rw [w1, w2, w5]
      simp only [cntN] at hR
      have e1 : ints 1 (lgS false f) = [I (f 0).lo] := rfl
      have e2 : ints 1 (lgS true f) = [I (f 0).hi] := rfl
      simp only [Nat.zero_add, e1, e2] at hR
      repeat' (first | with_reducible apply And.intro | with_reducible intro)
      all_goals first
        | trivial
        | omega
        | rfl
        | (rw [mvs_len]; omega)
        | (rw [mvs_part f hi]; rfl)
        | (simp only [*, Bool.and_true, Bool.and_false, Bool.false_and, Bool.and_self, if_true, if_false, Bool.false_eq_true] at hR; exact hR)
        | (exfalso; simp_all; done)
    · rw [hst i (by omega)]
      generalize hk1 : cntN (undB a f (lgS false f)) i = k1 at hR w3
      generalize hk2 : cntN (undB a f (lgS true f)) i = k2 at hR w4
      refine ⟨T4b, _, rfl, (b4b p a k1 k2 n c i f (mvs n f) ps (ints i (lgS false f)) (ints i (lgS true f)) R).mpr ⟨fun _ => ?_, fun h => absurd hi (by simpa using h)⟩⟩
      have e1 : ints (i + 1) (lgS false f) = ints i (lgS false f) ++ [I (f i).lo] := ints_succ i _
      have e2 : ints (i + 1) (lgS true f) = ints i (lgS true f) ++ [I (f i).hi] := ints_succ i _
      have hl1 := ints_len i (lgS false f)
      have hl2 := ints_len i (lgS true f)
      have t1 : List.take (i * 1) (ints i (lgS false f)) = ints i (lgS false f) := List.take_of_length_le (by omega)
      have t2 : List.take (i * 1) (ints i (lgS true f)) = ints i (lgS true f) := List.take_of_length_le (by omega)
      rw [w1, w2, hw, w3, w4, t1, t2]
      simp only [e1, e2] at hR
      clear hk1 hk2 hu1 hu2
      repeat' (first | with_reducible apply And.intro | with_reducible intro)
      all_goals first
        | trivial
        | omega
        | rfl
        | (rw [mvs_len]; omega)
        | (rw [mvs_part f hi]; rfl)
        | (simp only [*, Bool.and_true, Bool.and_false, Bool.false_and, Bool.and_self, if_true, if_false, Bool.false_eq_true] at hR; exact hR)
        | (exfalso; simp_all; done)
  · rw [hst n h0] at hR ⊢
    exact ⟨T4b, _, rfl, (b4b p a _ _ n c n f (mvs n f) ps _ _ R).mpr ⟨fun h => absurd (of_decide_eq_true h) (by omega), fun _ => hR⟩⟩
end Go.Ab

/- the law HorseEnds: what is told of each move, and of any two. -/
set_option maxRecDepth 100000
namespace Go.Ab
open Go Go.RowKit Go.Proofs
theorem b4c (p : Int) (n c i : Nat) (f : Nat → Mv) (xa xb xl xh : Nat → Int) (ms ps xs bs ls : List Value) (R : Nat → AExit → Hw → Prop)  : (vx.code none (.l p4c) (leafW [T4c] R) (T4c.inst ⟨⟨[I n, I i, I p], [(n, n), (n, n), (n, n), (n, n), (n, c), (n, c)]⟩, [ms, ps, xs, bs, ls], []⟩) ([(0, .split ((2, .val (.pointer (.some ⟨((0 : Nat)), ((0 : Nat) + i * (4 : Nat)), .none⟩))) :: (0, .val (.agg ⟨[(.int IntKind.i64 ((f i).at_)), (.int IntKind.i64 ((f i).place)), (.int IntKind.i64 ((f i).lo)), (.int IntKind.i64 ((f i).hi))]⟩)) :: (5, .val (.pointer (.some ⟨((10 : Nat)), ((0 : Nat) + i * (2 : Nat)), .none⟩))) :: (0, .val (.agg ⟨[(.int IntKind.i64 (xl i)), (.int IntKind.i64 (xh i))]⟩)) :: (2, .val (.pointer (.some ⟨((8 : Nat)), ((0 : Nat) + i * (1 : Nat)), .none⟩))) :: (0, .val (.int IntKind.i64 (xa i))) :: (5, .val (.pointer (.some ⟨((9 : Nat)), ((0 : Nat) + i * (1 : Nat)), .none⟩))) :: (0, .val (.int IntKind.i64 (xb i))) :: (9, Hint.again) :: [(0, .split ([(2, Hint.tm (0 : Nat) [])]) ((5, Hint.loopW T4d (AExit.exit (4 : Nat)) T4d fun _ =>   {     hs :=       { vs := [I (↑i : Int), I (↑n : Int), I (↑i : Int), I (↑n : Int), I (↑n : Int), I p],         ns := [(n, n), (n, n), (n, n), (n, n), (n, c), (n, c), (n, c)] },     ls := [ms, ps, xs, bs, ls, mvV (f i)], es := [] }) :: [(2, Hint.tm (0 : Nat) [])]))]) ([(1, Hint.tm (0 : Nat) [])]))])) =
((((decide ((↑i : Int) < (↑n : Int))) = true → ((((((0 : Int) ≤ (↑i : Int))) ∧ (((↑i : Int) < (↑n : Int)))) ∧ (((.pointer (.some ⟨((0 : Nat)), ((0 : Nat) + i * (4 : Nat)), .none⟩)) : Value) = (.pointer (.some ⟨((0 : Nat)), ((0 : Nat) + i * (4 : Nat)), .none⟩)))) ∧
(((((0 : Nat) + i * (4 : Nat) + (4 : Nat) ≤ ms.length)) ∧ (((.agg ⟨[(.int IntKind.i64 ((f i).at_)), (.int IntKind.i64 ((f i).place)), (.int IntKind.i64 ((f i).lo)), (.int IntKind.i64 ((f i).hi))]⟩) : Value) = (.agg ⟨(List.take ((4 : Nat)) (List.drop ((0 : Nat) + i * (4 : Nat)) (ms)))⟩))) ∧
((((((0 : Int) ≤ (↑i : Int))) ∧ (((↑i : Int) < (↑n : Int)))) ∧ (((.pointer (.some ⟨((10 : Nat)), ((0 : Nat) + i * (2 : Nat)), .none⟩)) : Value) = (.pointer (.some ⟨((10 : Nat)), ((0 : Nat) + i * (2 : Nat)), .none⟩)))) ∧
(((((0 : Nat) + i * (2 : Nat) + (2 : Nat) ≤ ls.length)) ∧ (((.agg ⟨[(.int IntKind.i64 (xl i)), (.int IntKind.i64 (xh i))]⟩) : Value) = (.agg ⟨(List.take ((2 : Nat)) (List.drop ((0 : Nat) + i * (2 : Nat)) (ls)))⟩))) ∧
((((((0 : Int) ≤ (↑i : Int))) ∧ (((↑i : Int) < (↑n : Int)))) ∧ (((.pointer (.some ⟨((8 : Nat)), ((0 : Nat) + i * (1 : Nat)), .none⟩)) : Value) = (.pointer (.some ⟨((8 : Nat)), ((0 : Nat) + i * (1 : Nat)), .none⟩)))) ∧
(((xs[(0 : Nat) + i * (1 : Nat)]? = some (.int IntKind.i64 (xa i)))) ∧
((((((0 : Int) ≤ (↑i : Int))) ∧ (((↑i : Int) < (↑n : Int)))) ∧ (((.pointer (.some ⟨((9 : Nat)), ((0 : Nat) + i * (1 : Nat)), .none⟩)) : Value) = (.pointer (.some ⟨((9 : Nat)), ((0 : Nat) + i * (1 : Nat)), .none⟩)))) ∧
(((bs[(0 : Nat) + i * (1 : Nat)]? = some (.int IntKind.i64 (xb i)))) ∧
((((((0 : Nat) + i * (2 : Nat) + (2 : Nat) ≤ ls.length)) ∧ (((.agg ⟨[(.int IntKind.i64 (xl i)), (.int IntKind.i64 (xh i))]⟩) : Value) = (.agg ⟨(List.take ((2 : Nat)) (List.drop ((0 : Nat) + i * (2 : Nat)) (ls)))⟩))) ∧ (True)) ∧ 
(((!(xl i == IntKind.i64.wrap (xa i - (f i).at_) && (fun c => xh i == IntKind.i64.wrap (xb i - (f i).at_) && c) true)) = true → R ((0 : Nat)) .ret ⟨⟨[(.int IntKind.i64 ((↑n : Int))), (.int IntKind.i64 ((↑i : Int))), (.int IntKind.i64 (p))], [⟨(n), (n)⟩, ⟨(n), (n)⟩, ⟨(n), (n)⟩, ⟨(n), (n)⟩, ⟨(n), (c)⟩, ⟨(n), (c)⟩]⟩, [(ms), (ps), (xs), (bs), (ls)], []⟩) ∧
((!(xl i == IntKind.i64.wrap (xa i - (f i).at_) && (fun c => xh i == IntKind.i64.wrap (xb i - (f i).at_) && c) true)) = false → ((ClW ⟨⟨[(.int IntKind.i64 ((↑i : Int))), (.int IntKind.i64 ((↑n : Int))), (.int IntKind.i64 ((↑i : Int))), (.int IntKind.i64 ((↑n : Int))), (.int IntKind.i64 ((0 : Int))), (.int IntKind.i64 (p))], [⟨(n), (n)⟩, ⟨(n), (n)⟩, ⟨(n), (n)⟩, ⟨(n), (n)⟩, ⟨(n), (c)⟩, ⟨(n), (c)⟩, ⟨(n), (c)⟩]⟩, [(ms), (ps), (xs), (bs), (ls), [(.int IntKind.i64 ((f i).at_)), (.int IntKind.i64 ((f i).place)), (.int IntKind.i64 ((f i).lo)), (.int IntKind.i64 ((f i).hi))]], []⟩) ∧ (LoopOW Try.prog .none p4d (T4d) ⟨⟨[(.int IntKind.i64 ((↑i : Int))), (.int IntKind.i64 ((↑n : Int))), (.int IntKind.i64 ((↑i : Int))), (.int IntKind.i64 ((↑n : Int))), (.int IntKind.i64 ((0 : Int))), (.int IntKind.i64 (p))], [⟨(n), (n)⟩, ⟨(n), (n)⟩, ⟨(n), (n)⟩, ⟨(n), (n)⟩, ⟨(n), (c)⟩, ⟨(n), (c)⟩, ⟨(n), (c)⟩]⟩, [(ms), (ps), (xs), (bs), (ls), [(.int IntKind.i64 ((f i).at_)), (.int IntKind.i64 ((f i).place)), (.int IntKind.i64 ((f i).lo)), (.int IntKind.i64 ((f i).hi))]], []⟩ (.exit ((4 : Nat))) (T4d) ⟨⟨[(.int IntKind.i64 ((↑i : Int))), (.int IntKind.i64 ((↑n : Int))), (.int IntKind.i64 ((↑i : Int))), (.int IntKind.i64 ((↑n : Int))), (.int IntKind.i64 ((↑n : Int))), (.int IntKind.i64 (p))], [⟨(n), (n)⟩, ⟨(n), (n)⟩, ⟨(n), (n)⟩, ⟨(n), (n)⟩, ⟨(n), (c)⟩, ⟨(n), (c)⟩, ⟨(n), (c)⟩]⟩, [(ms), (ps), (xs), (bs), (ls), [(.int IntKind.i64 ((f i).at_)), (.int IntKind.i64 ((f i).place)), (.int IntKind.i64 ((f i).lo)), (.int IntKind.i64 ((f i).hi))]], []⟩) ∧ 
R ((0 : Nat)) .normal ⟨⟨[(.int IntKind.i64 ((↑n : Int))), (.int IntKind.i64 (IntKind.i64.wrap ((↑i : Int) + (1 : Int)))), (.int IntKind.i64 (p))], [⟨(n), (n)⟩, ⟨(n), (n)⟩, ⟨(n), (n)⟩, ⟨(n), (n)⟩, ⟨(n), (c)⟩, ⟨(n), (c)⟩]⟩, [(ms), (ps), (xs), (bs), (ls)], []⟩))))))))))))) ∧
((decide ((↑i : Int) < (↑n : Int))) = false → R ((0 : Nat)) (.exit ((2 : Nat))) ⟨⟨[(.int IntKind.i64 ((↑n : Int))), (.int IntKind.i64 ((↑i : Int))), (.int IntKind.i64 (p))], [⟨(n), (n)⟩, ⟨(n), (n)⟩, ⟨(n), (n)⟩, ⟨(n), (n)⟩, ⟨(n), (c)⟩, ⟨(n), (c)⟩]⟩, [(ms), (ps), (xs), (bs), (ls)], []⟩))) := by kernel_rfl

theorem b4d (p : Int) (n c i j : Nat) (f : Nat → Mv) (ms ps xs bs ls : List Value) (R : Nat → AExit → Hw → Prop)  : (vx.code none (.l p4d) (leafW [T4d] R) (T4d.inst ⟨⟨[I i, I n, I i, I n, I j, I p], [(n, n), (n, n), (n, n), (n, n), (n, c), (n, c), (n, c)]⟩, [ms, ps, xs, bs, ls, mvV (f i)], []⟩) ([(0, .split ((2, .val (.pointer (.some ⟨((0 : Nat)), ((0 : Nat) + j * (4 : Nat)), .none⟩))) :: (0, .val (.agg ⟨[(.int IntKind.i64 ((f j).at_)), (.int IntKind.i64 ((f j).place)), (.int IntKind.i64 ((f j).lo)), (.int IntKind.i64 ((f j).hi))]⟩)) :: (6, Hint.con (C18x p n c f)) :: [(9, .split ((11, Hint.con (C17x p n c f)) :: (0, Hint.again) :: [(1, .split ([(4, .split ((11, Hint.con (C17x p n c f)) :: (0, Hint.again) :: [(1, .split ([(5, Hint.tm (0 : Nat) [])]) ([(4, Hint.tm (0 : Nat) [])]))]) ((11, Hint.con (C17x p n c f)) :: (0, Hint.again) :: [(1, .split ([(4, Hint.tm (0 : Nat) [])]) ([(5, Hint.tm (0 : Nat) [])]))]))]) ([(6, Hint.tm (0 : Nat) [])]))]) ((11, Hint.con (C17x p n c f)) :: (0, Hint.again) :: [(1, .split ([(6, Hint.tm (0 : Nat) [])]) ([(4, .split ((11, Hint.con (C17x p n c f)) :: (0, Hint.again) :: [(1, .split ([(5, Hint.tm (0 : Nat) [])]) ([(4, Hint.tm (0 : Nat) [])]))]) ((11, Hint.con (C17x p n c f)) :: (0, Hint.again) :: [(1, .split ([(4, Hint.tm (0 : Nat) [])]) ([(5, Hint.tm (0 : Nat) [])]))]))]))]))]) ([(1, Hint.tm (0 : Nat) [])]))])) =
((((decide ((↑j : Int) < (↑n : Int))) = true → ((((((0 : Int) ≤ (↑j : Int))) ∧ (((↑j : Int) < (↑n : Int)))) ∧ (((.pointer (.some ⟨((0 : Nat)), ((0 : Nat) + j * (4 : Nat)), .none⟩)) : Value) = (.pointer (.some ⟨((0 : Nat)), ((0 : Nat) + j * (4 : Nat)), .none⟩)))) ∧
(((((0 : Nat) + j * (4 : Nat) + (4 : Nat) ≤ ms.length)) ∧ (((.agg ⟨[(.int IntKind.i64 ((f j).at_)), (.int IntKind.i64 ((f j).place)), (.int IntKind.i64 ((f j).lo)), (.int IntKind.i64 ((f j).hi))]⟩) : Value) = (.agg ⟨(List.take ((4 : Nat)) (List.drop ((0 : Nat) + j * (4 : Nat)) (ms)))⟩))) ∧
((ConOK Try.prog ((18 : Nat)) (C18x p n c f)) ∧ (Con.pre (C18x p n c f) ⟨⟨[(.int IntKind.i64 (p)), (.int IntKind.i64 ((↑i : Int))), (.int IntKind.i64 ((↑j : Int)))], [⟨(n), (c)⟩]⟩, [(ms)]⟩) ∧ 
(((folV p n f i j == (2 : Int)) = true → ((ConOK Try.prog ((17 : Nat)) (C17x p n c f)) ∧ (Con.pre (C17x p n c f) ⟨⟨[(.int IntKind.i64 (p)), (.int IntKind.i64 ((↑i : Int))), (.int IntKind.i64 ((↑j : Int)))], [⟨(n), (c)⟩]⟩, [(ms)]⟩) ∧ 
(((((some (.int IntKind.i64 ((f j).at_)) : Option Value) = some (.int IntKind.i64 ((f j).at_)))) ∧ ((((some (.int IntKind.i64 ((f i).hi)) : Option Value) = some (.int IntKind.i64 ((f i).hi)))) ∧ ((((some (.int IntKind.i64 ((f i).at_)) : Option Value) = some (.int IntKind.i64 ((f i).at_)))) ∧ (True)))) ∧ 
(((decide (IntKind.i64.wrap (IntKind.i64.wrap ((f i).at_ + (f i).hi) + wkI p (f i) (f j)) ≤ (f j).at_)) = true → (((folV p n f i j == (0 : Int)) = true → ((ConOK Try.prog ((17 : Nat)) (C17x p n c f)) ∧ (Con.pre (C17x p n c f) ⟨⟨[(.int IntKind.i64 (p)), (.int IntKind.i64 ((↑i : Int))), (.int IntKind.i64 ((↑j : Int)))], [⟨(n), (c)⟩]⟩, [(ms)]⟩) ∧ 
(((((some (.int IntKind.i64 ((f j).at_)) : Option Value) = some (.int IntKind.i64 ((f j).at_)))) ∧ ((((some (.int IntKind.i64 ((f i).lo)) : Option Value) = some (.int IntKind.i64 ((f i).lo)))) ∧ ((((some (.int IntKind.i64 ((f i).at_)) : Option Value) = some (.int IntKind.i64 ((f i).at_)))) ∧ (True)))) ∧ 
(((decide (IntKind.i64.wrap (IntKind.i64.wrap ((f i).at_ + (f i).lo) + wkI p (f i) (f j)) > (f j).at_)) = true → R ((0 : Nat)) .normal ⟨⟨[(.int IntKind.i64 ((↑i : Int))), (.int IntKind.i64 ((↑n : Int))), (.int IntKind.i64 ((↑i : Int))), (.int IntKind.i64 ((↑n : Int))), (.int IntKind.i64 (IntKind.i64.wrap ((↑j : Int) + (1 : Int)))), (.int IntKind.i64 (p))], [⟨(n), (n)⟩, ⟨(n), (n)⟩, ⟨(n), (n)⟩, ⟨(n), (n)⟩, ⟨(n), (c)⟩, ⟨(n), (c)⟩, ⟨(n), (c)⟩]⟩, [(ms), (ps), (xs), (bs), (ls), [(.int IntKind.i64 ((f i).at_)), (.int IntKind.i64 ((f i).place)), (.int IntKind.i64 ((f i).lo)), (.int IntKind.i64 ((f i).hi))]], []⟩) ∧
((decide (IntKind.i64.wrap (IntKind.i64.wrap ((f i).at_ + (f i).lo) + wkI p (f i) (f j)) > (f j).at_)) = false → R ((0 : Nat)) .ret ⟨⟨[(.int IntKind.i64 ((↑i : Int))), (.int IntKind.i64 ((↑n : Int))), (.int IntKind.i64 ((↑i : Int))), (.int IntKind.i64 ((↑n : Int))), (.int IntKind.i64 ((↑j : Int))), (.int IntKind.i64 (p))], [⟨(n), (n)⟩, ⟨(n), (n)⟩, ⟨(n), (n)⟩, ⟨(n), (n)⟩, ⟨(n), (c)⟩, ⟨(n), (c)⟩, ⟨(n), (c)⟩]⟩, [(ms), (ps), (xs), (bs), (ls), [(.int IntKind.i64 ((f i).at_)), (.int IntKind.i64 ((f i).place)), (.int IntKind.i64 ((f i).lo)), (.int IntKind.i64 ((f i).hi))]], []⟩))))) ∧
((folV p n f i j == (0 : Int)) = false → ((ConOK Try.prog ((17 : Nat)) (C17x p n c f)) ∧ (Con.pre (C17x p n c f) ⟨⟨[(.int IntKind.i64 (p)), (.int IntKind.i64 ((↑i : Int))), (.int IntKind.i64 ((↑j : Int)))], [⟨(n), (c)⟩]⟩, [(ms)]⟩) ∧ 
(((((some (.int IntKind.i64 ((f j).at_)) : Option Value) = some (.int IntKind.i64 ((f j).at_)))) ∧ ((((some (.int IntKind.i64 ((f i).lo)) : Option Value) = some (.int IntKind.i64 ((f i).lo)))) ∧ ((((some (.int IntKind.i64 ((f i).at_)) : Option Value) = some (.int IntKind.i64 ((f i).at_)))) ∧ (True)))) ∧ 
(((decide (IntKind.i64.wrap (IntKind.i64.wrap ((f i).at_ + (f i).lo) + wkI p (f i) (f j)) > (f j).at_)) = true → R ((0 : Nat)) .ret ⟨⟨[(.int IntKind.i64 ((↑i : Int))), (.int IntKind.i64 ((↑n : Int))), (.int IntKind.i64 ((↑i : Int))), (.int IntKind.i64 ((↑n : Int))), (.int IntKind.i64 ((↑j : Int))), (.int IntKind.i64 (p))], [⟨(n), (n)⟩, ⟨(n), (n)⟩, ⟨(n), (n)⟩, ⟨(n), (n)⟩, ⟨(n), (c)⟩, ⟨(n), (c)⟩, ⟨(n), (c)⟩]⟩, [(ms), (ps), (xs), (bs), (ls), [(.int IntKind.i64 ((f i).at_)), (.int IntKind.i64 ((f i).place)), (.int IntKind.i64 ((f i).lo)), (.int IntKind.i64 ((f i).hi))]], []⟩) ∧
((decide (IntKind.i64.wrap (IntKind.i64.wrap ((f i).at_ + (f i).lo) + wkI p (f i) (f j)) > (f j).at_)) = false → R ((0 : Nat)) .normal ⟨⟨[(.int IntKind.i64 ((↑i : Int))), (.int IntKind.i64 ((↑n : Int))), (.int IntKind.i64 ((↑i : Int))), (.int IntKind.i64 ((↑n : Int))), (.int IntKind.i64 (IntKind.i64.wrap ((↑j : Int) + (1 : Int)))), (.int IntKind.i64 (p))], [⟨(n), (n)⟩, ⟨(n), (n)⟩, ⟨(n), (n)⟩, ⟨(n), (n)⟩, ⟨(n), (c)⟩, ⟨(n), (c)⟩, ⟨(n), (c)⟩]⟩, [(ms), (ps), (xs), (bs), (ls), [(.int IntKind.i64 ((f i).at_)), (.int IntKind.i64 ((f i).place)), (.int IntKind.i64 ((f i).lo)), (.int IntKind.i64 ((f i).hi))]], []⟩))))))) ∧
((decide (IntKind.i64.wrap (IntKind.i64.wrap ((f i).at_ + (f i).hi) + wkI p (f i) (f j)) ≤ (f j).at_)) = false → R ((0 : Nat)) .ret ⟨⟨[(.int IntKind.i64 ((↑i : Int))), (.int IntKind.i64 ((↑n : Int))), (.int IntKind.i64 ((↑i : Int))), (.int IntKind.i64 ((↑n : Int))), (.int IntKind.i64 ((↑j : Int))), (.int IntKind.i64 (p))], [⟨(n), (n)⟩, ⟨(n), (n)⟩, ⟨(n), (n)⟩, ⟨(n), (n)⟩, ⟨(n), (c)⟩, ⟨(n), (c)⟩, ⟨(n), (c)⟩]⟩, [(ms), (ps), (xs), (bs), (ls), [(.int IntKind.i64 ((f i).at_)), (.int IntKind.i64 ((f i).place)), (.int IntKind.i64 ((f i).lo)), (.int IntKind.i64 ((f i).hi))]], []⟩))))) ∧
((folV p n f i j == (2 : Int)) = false → ((ConOK Try.prog ((17 : Nat)) (C17x p n c f)) ∧ (Con.pre (C17x p n c f) ⟨⟨[(.int IntKind.i64 (p)), (.int IntKind.i64 ((↑i : Int))), (.int IntKind.i64 ((↑j : Int)))], [⟨(n), (c)⟩]⟩, [(ms)]⟩) ∧ 
(((((some (.int IntKind.i64 ((f j).at_)) : Option Value) = some (.int IntKind.i64 ((f j).at_)))) ∧ ((((some (.int IntKind.i64 ((f i).hi)) : Option Value) = some (.int IntKind.i64 ((f i).hi)))) ∧ ((((some (.int IntKind.i64 ((f i).at_)) : Option Value) = some (.int IntKind.i64 ((f i).at_)))) ∧ (True)))) ∧ 
(((decide (IntKind.i64.wrap (IntKind.i64.wrap ((f i).at_ + (f i).hi) + wkI p (f i) (f j)) ≤ (f j).at_)) = true → R ((0 : Nat)) .ret ⟨⟨[(.int IntKind.i64 ((↑i : Int))), (.int IntKind.i64 ((↑n : Int))), (.int IntKind.i64 ((↑i : Int))), (.int IntKind.i64 ((↑n : Int))), (.int IntKind.i64 ((↑j : Int))), (.int IntKind.i64 (p))], [⟨(n), (n)⟩, ⟨(n), (n)⟩, ⟨(n), (n)⟩, ⟨(n), (n)⟩, ⟨(n), (c)⟩, ⟨(n), (c)⟩, ⟨(n), (c)⟩]⟩, [(ms), (ps), (xs), (bs), (ls), [(.int IntKind.i64 ((f i).at_)), (.int IntKind.i64 ((f i).place)), (.int IntKind.i64 ((f i).lo)), (.int IntKind.i64 ((f i).hi))]], []⟩) ∧
((decide (IntKind.i64.wrap (IntKind.i64.wrap ((f i).at_ + (f i).hi) + wkI p (f i) (f j)) ≤ (f j).at_)) = false → (((folV p n f i j == (0 : Int)) = true → ((ConOK Try.prog ((17 : Nat)) (C17x p n c f)) ∧ (Con.pre (C17x p n c f) ⟨⟨[(.int IntKind.i64 (p)), (.int IntKind.i64 ((↑i : Int))), (.int IntKind.i64 ((↑j : Int)))], [⟨(n), (c)⟩]⟩, [(ms)]⟩) ∧ 
(((((some (.int IntKind.i64 ((f j).at_)) : Option Value) = some (.int IntKind.i64 ((f j).at_)))) ∧ ((((some (.int IntKind.i64 ((f i).lo)) : Option Value) = some (.int IntKind.i64 ((f i).lo)))) ∧ ((((some (.int IntKind.i64 ((f i).at_)) : Option Value) = some (.int IntKind.i64 ((f i).at_)))) ∧ (True)))) ∧ 
(((decide (IntKind.i64.wrap (IntKind.i64.wrap ((f i).at_ + (f i).lo) + wkI p (f i) (f j)) > (f j).at_)) = true → R ((0 : Nat)) .normal ⟨⟨[(.int IntKind.i64 ((↑i : Int))), (.int IntKind.i64 ((↑n : Int))), (.int IntKind.i64 ((↑i : Int))), (.int IntKind.i64 ((↑n : Int))), (.int IntKind.i64 (IntKind.i64.wrap ((↑j : Int) + (1 : Int)))), (.int IntKind.i64 (p))], [⟨(n), (n)⟩, ⟨(n), (n)⟩, ⟨(n), (n)⟩, ⟨(n), (n)⟩, ⟨(n), (c)⟩, ⟨(n), (c)⟩, ⟨(n), (c)⟩]⟩, [(ms), (ps), (xs), (bs), (ls), [(.int IntKind.i64 ((f i).at_)), (.int IntKind.i64 ((f i).place)), (.int IntKind.i64 ((f i).lo)), (.int IntKind.i64 ((f i).hi))]], []⟩) ∧
((decide (IntKind.i64.wrap (IntKind.i64.wrap ((f i).at_ + (f i).lo) + wkI p (f i) (f j)) > (f j).at_)) = false → R ((0 : Nat)) .ret ⟨⟨[(.int IntKind.i64 ((↑i : Int))), (.int IntKind.i64 ((↑n : Int))), (.int IntKind.i64 ((↑i : Int))), (.int IntKind.i64 ((↑n : Int))), (.int IntKind.i64 ((↑j : Int))), (.int IntKind.i64 (p))], [⟨(n), (n)⟩, ⟨(n), (n)⟩, ⟨(n), (n)⟩, ⟨(n), (n)⟩, ⟨(n), (c)⟩, ⟨(n), (c)⟩, ⟨(n), (c)⟩]⟩, [(ms), (ps), (xs), (bs), (ls), [(.int IntKind.i64 ((f i).at_)), (.int IntKind.i64 ((f i).place)), (.int IntKind.i64 ((f i).lo)), (.int IntKind.i64 ((f i).hi))]], []⟩))))) ∧
((folV p n f i j == (0 : Int)) = false → ((ConOK Try.prog ((17 : Nat)) (C17x p n c f)) ∧ (Con.pre (C17x p n c f) ⟨⟨[(.int IntKind.i64 (p)), (.int IntKind.i64 ((↑i : Int))), (.int IntKind.i64 ((↑j : Int)))], [⟨(n), (c)⟩]⟩, [(ms)]⟩) ∧ 
(((((some (.int IntKind.i64 ((f j).at_)) : Option Value) = some (.int IntKind.i64 ((f j).at_)))) ∧ ((((some (.int IntKind.i64 ((f i).lo)) : Option Value) = some (.int IntKind.i64 ((f i).lo)))) ∧ ((((some (.int IntKind.i64 ((f i).at_)) : Option Value) = some (.int IntKind.i64 ((f i).at_)))) ∧ (True)))) ∧ 
(((decide (IntKind.i64.wrap (IntKind.i64.wrap ((f i).at_ + (f i).lo) + wkI p (f i) (f j)) > (f j).at_)) = true → R ((0 : Nat)) .ret ⟨⟨[(.int IntKind.i64 ((↑i : Int))), (.int IntKind.i64 ((↑n : Int))), (.int IntKind.i64 ((↑i : Int))), (.int IntKind.i64 ((↑n : Int))), (.int IntKind.i64 ((↑j : Int))), (.int IntKind.i64 (p))], [⟨(n), (n)⟩, ⟨(n), (n)⟩, ⟨(n), (n)⟩, ⟨(n), (n)⟩, ⟨(n), (c)⟩, ⟨(n), (c)⟩, ⟨(n), (c)⟩]⟩, [(ms), (ps), (xs), (bs), (ls), [(.int IntKind.i64 ((f i).at_)), (.int IntKind.i64 ((f i).place)), (.int IntKind.i64 ((f i).lo)), (.int IntKind.i64 ((f i).hi))]], []⟩) ∧
((decide (IntKind.i64.wrap (IntKind.i64.wrap ((f i).at_ + (f i).lo) + wkI p (f i) (f j)) > (f j).at_)) = false → R ((0 : Nat)) .normal ⟨⟨[(.int IntKind.i64 ((↑i : Int))), (.int IntKind.i64 ((↑n : Int))), (.int IntKind.i64 ((↑i : Int))), (.int IntKind.i64 ((↑n : Int))), (.int IntKind.i64 (IntKind.i64.wrap ((↑j : Int) + (1 : Int)))), (.int IntKind.i64 (p))], [⟨(n), (n)⟩, ⟨(n), (n)⟩, ⟨(n), (n)⟩, ⟨(n), (n)⟩, ⟨(n), (c)⟩, ⟨(n), (c)⟩, ⟨(n), (c)⟩]⟩, [(ms), (ps), (xs), (bs), (ls), [(.int IntKind.i64 ((f i).at_)), (.int IntKind.i64 ((f i).place)), (.int IntKind.i64 ((f i).lo)), (.int IntKind.i64 ((f i).hi))]], []⟩)))))))))))))))) ∧
((decide ((↑j : Int) < (↑n : Int))) = false → R ((0 : Nat)) (.exit ((4 : Nat))) ⟨⟨[(.int IntKind.i64 ((↑i : Int))), (.int IntKind.i64 ((↑n : Int))), (.int IntKind.i64 ((↑i : Int))), (.int IntKind.i64 ((↑n : Int))), (.int IntKind.i64 ((↑j : Int))), (.int IntKind.i64 (p))], [⟨(n), (n)⟩, ⟨(n), (n)⟩, ⟨(n), (n)⟩, ⟨(n), (n)⟩, ⟨(n), (c)⟩, ⟨(n), (c)⟩, ⟨(n), (c)⟩]⟩, [(ms), (ps), (xs), (bs), (ls), [(.int IntKind.i64 ((f i).at_)), (.int IntKind.i64 ((f i).place)), (.int IntKind.i64 ((f i).lo)), (.int IntKind.i64 ((f i).hi))]], []⟩))) := by kernel_rfl

theorem wk_dist (p : Int) (a b : Mv) : wkI p a b = p * distI a b := by
  simp only [wkI, distI]
  congr 1
  split <;> split <;> omega
section
variable {p : Int} {n : Nat} {f : Nat → Mv}
theorem fol_two (h : HOK p n f) {i j : Nat} (hi : i < n) (hj : j < n) : (folV p n f i j == (2 : Int)) = decide ((f i).at_ + (f i).hi + wkI p (f i) (f j) ≤ (f j).at_) := by
  have e := canB_eq h true hi hj
  simp only [cond_true, ← wk_dist] at e
  rw [folV_eq h hi hj, ← e]
  cases canB true p f i j <;> cases canB false p f i j <;> rfl
theorem fol_no (h : HOK p n f) {i j : Nat} (hi : i < n) (hj : j < n) : (folV p n f i j == (0 : Int)) = decide ((f i).at_ + (f i).lo + wkI p (f i) (f j) > (f j).at_) := by
  have e := canB_eq h false hi hj
  have m := sure_some h hi hj
  simp only [cond_false, ← wk_dist] at e
  have e2 : decide ((f i).at_ + (f i).lo + wkI p (f i) (f j) > (f j).at_) = !canB false p f i j := by
    rw [e, ← decide_not]
    exact decide_eq_decide.2 (by omega)
  rw [folV_eq h hi hj, e2]
  revert m
  cases canB true p f i j <;> cases canB false p f i j <;> simp
noncomputable def h4d (p : Int) (n c i : Nat) (f : Nat → Mv) (ps xs bs ls : List Value) (j : Nat) : Hw :=
  ⟨⟨[I i, I n, I i, I n, I j, I p], [(n, n), (n, n), (n, n), (n, n), (n, c), (n, c), (n, c)]⟩, [mvs n f, ps, xs, bs, ls, mvV (f i)], []⟩
theorem mvV_atom (m : Mv) : ∀ v ∈ mvV m, atomic v = true := by
  intro v hv
  simp only [mvV, List.mem_cons, List.not_mem_nil, or_false] at hv
  rcases hv with rfl | rfl | rfl | rfl <;> rfl
theorem h4d_cl {c i j : Nat} {ps xs bs ls : List Value} (h1 : ∀ v ∈ ps, atomic v = true) (h2 : ∀ v ∈ xs, atomic v = true) (h3 : ∀ v ∈ bs, atomic v = true) (h4 : ∀ v ∈ ls, atomic v = true) : ClW (h4d p n c i f ps xs bs ls j) := by
  refine clL fun cs hcs => ?_
  simp only [List.mem_cons, List.not_mem_nil, or_false] at hcs
  rcases hcs with rfl | rfl | rfl | rfl | rfl | rfl
  · exact mvs_atom n f
  · exact h1
  · exact h2
  · exact h3
  · exact h4
  · exact mvV_atom _
theorem loop4d {c i : Nat} {ps xs bs ls : List Value} (hok : okH p n f = true) (hi : i < n) (h1 : ∀ v ∈ ps, atomic v = true) (h2 : ∀ v ∈ xs, atomic v = true) (h3 : ∀ v ∈ bs, atomic v = true) (h4 : ∀ v ∈ ls, atomic v = true) :
    LoopOW Try.prog none p4d T4d (h4d p n c i f ps xs bs ls 0) (.exit 4) T4d (h4d p n c i f ps xs bs ls n) := by
  have hH := okH_iff hok
  have h7 := hH.n7
  refine loop_forW (Ts := [T4d]) (k := 14) (n := n) (st := fun j => (0, h4d p n c i f ps xs bs ls j)) (e := .exit 4) rfl vx_sound (by simp [T4d]) (by rw [nglob]; omega) ⟨by simp, trivial⟩ (fun j _ => h4d_cl h1 h2 h3 h4)
    (fun j hj R hR => ?_) (fun R hR => ?_) (T0 := T4d) (T1 := T4d) rfl (Nat.le_of_ble_eq_true rfl) (by decide) rfl
  · have hw : IntKind.i64.wrap ((j : Int) + 1) = ((j + 1 : Nat) : Int) := wrapI (by omega) (by omega)
    have hmi := hH.mv i hi
    have hmj := hH.mv j hj
    have a1 := hmi.at0; have a2 := hmi.at1; have a3 := hmi.lo1; have a4 := hmi.lohi; have a5 := hmi.hi1
    have hwl := wkI_le ⟨hH.p0, hH.p3⟩ ⟨hmi.pl0, hmi.pl1⟩ ⟨hmj.pl0, hmj.pl1⟩
    have w1 : IntKind.i64.wrap ((f i).at_ + (f i).lo) = (f i).at_ + (f i).lo := wrapI (by omega) (by omega)
    have w2 : IntKind.i64.wrap ((f i).at_ + (f i).hi) = (f i).at_ + (f i).hi := wrapI (by omega) (by omega)
    have w3 : IntKind.i64.wrap ((f i).at_ + (f i).lo + wkI p (f i) (f j)) = (f i).at_ + (f i).lo + wkI p (f i) (f j) := wrapI (by omega) (by omega)
    have w4 : IntKind.i64.wrap ((f i).at_ + (f i).hi + wkI p (f i) (f j)) = (f i).at_ + (f i).hi + wkI p (f i) (f j) := wrapI (by omega) (by omega)
    have l1 := flatC_bound (k := 4) hj
    have q2 := fol_two hH hi hj
    have q0 := fol_no hH hi hj
    refine ⟨T4d, _, rfl, (b4d p n c i j f (mvs n f) ps xs bs ls R).mpr ⟨fun _ => ?_, fun h => absurd hj (by simpa using h)⟩⟩
    rw [hw, w1, w2, w3, w4, q2, q0]
    repeat' (first | with_reducible apply And.intro | with_reducible intro)
    all_goals first
      | trivial
      | exact C18x_ok p n c f (by omega) hok h7
      | exact C17x_ok p n c f (by omega) hok
      | exact ⟨i, j, hi, hj, rfl⟩
      | omega
      | rfl
      | (rw [mvs_len]; omega)
      | (rw [mvs_part f hj]; rfl)
      | exact hR
      | (exfalso; simp_all; done)
  · exact ⟨T4d, _, rfl, (b4d p n c i n f (mvs n f) ps xs bs ls R).mpr ⟨fun h => absurd (of_decide_eq_true h) (by omega), fun _ => hR⟩⟩
theorem prc_o {g lg : Nat → Int} {A : Nat → Int} {σ : Nat → Nat} (hσ : Srt A n σ) (hp : 0 ≤ p ∧ p ≤ 3) (hf : ∀ i, i < n → okMv (f i) = true) (hl : ∀ i, i < n → 0 ≤ lg i ∧ lg i ≤ 20) (k : Nat) (hk : k ≤ n) : ∀ x, doneB σ k x = true → (f x).at_ ≤ (prc p f g lg σ k).o x ∧ (prc p f g lg σ k).o x ≤ 200 + 110 * k := by
  induction k with
  | zero => intro x hx; cases hx
  | succ k ih =>
    intro x hx
    have hP := prc_ok (g := g) hσ hp hf hl k (by omega)
    have hb := begI_le hP hp hf hl (hσ.lt k (by omega)) (g (σ k))
    simp only [prc, updF]
    by_cases h : x = σ k
    · subst h
      rw [if_pos rfl]
      exact ⟨hb.1, by omega⟩
    · rw [if_neg h]
      simp only [doneB, h, decide_false, Bool.false_or] at hx
      have := ih (by omega) x hx
      exact ⟨this.1, by omega⟩
/-- How late a move begins. -/
theorem lat_beg {g : Nat → Int} (hok : okH p n f = true) (sure : Bool) {i : Nat} (hi : i < n) : IntKind.i64.wrap (begS p n f g (lgS sure f) i - (f i).at_) = latS sure p n f g i := by
  have hH := okH_iff hok
  have h7 := hH.n7
  have hs := srt_ok (atF f) n
  have hm := (hH.mv i hi).at0
  have e := lateF_end (p := p) (f := f) (g := g) (lg := lgS sure f) hs hi
  obtain ⟨j, h1, h2⟩ := hs.all i hi
  have hb := prc_o (g := g) hs ⟨hH.p0, hH.p3⟩ (okH_mv hok) (lgS_le hok sure) n (Nat.le_refl n) i (doneB_iff.2 ⟨j, h1, h2⟩)
  simp only [latS, begS]
  rw [e]
  exact wrapI (by omega) (by omega)
noncomputable def h4c (p : Int) (n c : Nat) (f : Nat → Mv) (g : Nat → Int) (i : Nat) : Hw :=
  ⟨⟨[I n, I i, I p], [(n, n), (n, n), (n, n), (n, n), (n, c), (n, c)]⟩, [mvs n f, ints n g, ints n (begS p n f g (lgS false f)), ints n (begS p n f g (lgS true f)), spansC n (latS false p n f g) (latS true p n f g)], []⟩
theorem h4c_cl {c i : Nat} {g : Nat → Int} : ClW (h4c p n c f g i) := by
  refine clL fun cs hcs => ?_
  simp only [List.mem_cons, List.not_mem_nil, or_false] at hcs
  rcases hcs with rfl | rfl | rfl | rfl | rfl
  · exact mvs_atom n f
  · exact ints_atom n _
  · exact ints_atom n _
  · exact ints_atom n _
  · exact spansC_atoms n _ _
theorem spans_part {n i : Nat} (a b : Nat → Int) (h : i < n) : ((spansC n a b).drop (0 + i * 2)).take 2 = [I (a i), I (b i)] := by
  rw [Nat.zero_add]; exact flatC_part (k := 2) (fun i _ => rfl) h
theorem loop4c {c : Nat} {g : Nat → Int} (hok : okH p n f = true) : LoopOW Try.prog none p4c T4c (h4c p n c f g 0) (.exit 2) T4c (h4c p n c f g n) := by
  have hH := okH_iff hok
  have h7 := hH.n7
  refine loop_forW (Ts := [T4c]) (k := 12) (n := n) (st := fun i => (0, h4c p n c f g i)) (e := .exit 2) rfl vx_sound (by simp [T4c]) (by rw [nglob]; omega) ⟨by simp, trivial⟩ (fun i _ => h4c_cl)
    (fun i hi R hR => ?_) (fun R hR => ?_) (T0 := T4c) (T1 := T4c) rfl (Nat.le_of_ble_eq_true rfl) (by decide) rfl
  · have hw : IntKind.i64.wrap ((i : Int) + 1) = ((i + 1 : Nat) : Int) := wrapI (by omega) (by omega)
    have l1 := flatC_bound (k := 4) hi
    have l2 := flatC_bound (k := 2) hi
    have la := lat_beg (g := g) hok false hi
    have lb := lat_beg (g := g) hok true hi
    have hl := loop4d (c := c) (ps := ints n g) (xs := ints n (begS p n f g (lgS false f))) (bs := ints n (begS p n f g (lgS true f))) (ls := spansC n (latS false p n f g) (latS true p n f g)) hok hi (ints_atom n _) (ints_atom n _) (ints_atom n _) (spansC_atoms n _ _)
    have hc := h4d_cl (p := p) (n := n) (f := f) (c := c) (i := i) (j := 0) (ints_atom n g) (ints_atom n (begS p n f g (lgS false f))) (ints_atom n (begS p n f g (lgS true f))) (spansC_atoms n (latS false p n f g) (latS true p n f g))
    refine ⟨T4c, _, rfl, (b4c p n c i f (begS p n f g (lgS false f)) (begS p n f g (lgS true f)) (latS false p n f g) (latS true p n f g) (mvs n f) (ints n g) (ints n (begS p n f g (lgS false f))) (ints n (begS p n f g (lgS true f))) (spansC n (latS false p n f g) (latS true p n f g)) R).mpr ⟨fun _ => ?_, fun h => absurd hi (by simpa using h)⟩⟩
    rw [hw, la, lb]
    repeat' (first | with_reducible apply And.intro | with_reducible intro)
    all_goals first
      | trivial
      | exact hc
      | exact hl
      | omega
      | rfl
      | (rw [mvs_len]; omega)
      | (rw [mvs_part f hi]; rfl)
      | (rw [spansC_len]; omega)
      | (rw [spans_part _ _ hi]; rfl)
      | exact ints_get _ hi
      | exact hR
      | (exfalso; simp_all; done)
  · exact ⟨T4c, _, rfl, (b4c p n c n f (fun _ => 0) (fun _ => 0) (fun _ => 0) (fun _ => 0) (mvs n f) (ints n g) _ _ _ R).mpr ⟨fun h => absurd (of_decide_eq_true h) (by omega), fun _ => hR⟩⟩
end
end Go.Ab

/- the law HorseEnds: plans that are none. -/
set_option maxRecDepth 100000
namespace Go.Ab
open Go Go.RowKit Go.Proofs
/-- The least of 1 and a number. -/
noncomputable def mn (n : Nat) : Nat := (if (n : Int) < (1 : Int) then (n : Int) else (1 : Int)).toNat
noncomputable def bad0 (n : Nat) (g : Nat → Int) : List Value := List.take (1 * 1) [I 0] ++ List.take (n * 1) (List.drop 0 (ints n g))
noncomputable def bad1 (v : Int) (n : Nat) (g : Nat → Int) : List Value := List.take (1 * 1) [I v] ++ List.take ((n - mn n) * 1) (List.drop (0 + mn n * 1) (ints n g))
def consF (v : Int) (g : Nat → Int) (i : Nat) : Int := if i = 0 then v else g (i - 1)
theorem ints_consF (v : Int) (g : Nat → Int) (n : Nat) : [I v] ++ ints n g = ints (1 + n) (consF v g) := by
  induction n with
  | zero => rfl
  | succ n ih =>
    have e : 1 + (n + 1) = 1 + n + 1 := by omega
    rw [e, ints_succ, ints_succ, ← List.append_assoc, ih]
    simp only [consF, if_neg (show ¬ 1 + n = 0 by omega), show 1 + n - 1 = n by omega]
theorem bad0_eq (n : Nat) (g : Nat → Int) : bad0 n g = ints (1 + n) (consF 0 g) := by
  have hl := ints_len n g
  rw [← ints_consF]
  simp only [bad0, List.drop_zero]
  rw [List.take_of_length_le (l := ints n g) (by omega)]
  rfl
theorem mn_one {n : Nat} (h : 0 < n) : mn n = 1 := by
  unfold mn
  rw [if_neg (by omega)]
  rfl
theorem ints_drop (g : Nat → Int) (n : Nat) (h : 0 < n) : List.drop 1 (ints n g) = ints (n - 1) (fun i => g (i + 1)) := by
  obtain ⟨m, rfl⟩ : ∃ m, n = m + 1 := ⟨n - 1, by omega⟩
  rw [show m + 1 - 1 = m by omega]
  clear h
  induction m with
  | zero => rfl
  | succ m ih =>
    rw [ints_succ, List.drop_append_of_le_length (by rw [ints_len]; omega), ih, ints_succ]
theorem bad1_eq (v : Int) {n : Nat} (g : Nat → Int) (h : 0 < n) : bad1 v n g = ints (1 + (n - mn n)) (consF v fun i => g (i + 1)) := by
  have e := ints_drop g n h
  simp only [bad1, mn_one h, Nat.one_mul, Nat.zero_add]
  rw [e]
  have hl := ints_len (n - 1) (fun i => g (i + 1))
  rw [List.take_of_length_le (l := ints (n - 1) _) (by omega), ← ints_consF]
  rfl
theorem okP_bad0 (n : Nat) (g : Nat → Int) : okP n (1 + n) (consF 0 g) = false := by
  have h : (((1 + n : Nat) : Int) != (n : Int)) = true := by
    rw [bne_iff_ne]; omega
  simp only [okP, h, Bool.not_true, Bool.false_and]
theorem okP_first {n k : Nat} {v : Int} (g : Nat → Int) (hv : okN v = false) : okP n (1 + k) (consF v g) = false := by
  have h : allFrom (fun i => okN (consF v g i)) (1 + k) 0 = false := by
    rw [show 1 + k = k + 1 by omega]
    simp only [allFrom, consF, if_true, hv, Bool.false_and]
  simp only [okP, h, Bool.and_false]
theorem C15b0_ok (p : Int) (n c d : Nat) (f : Nat → Mv) (g : Nat → Int) (hok : okH p n f = true) : ConOK Try.prog 15 (C15e p n c (1 + n) d f (consF 0 g) (bad0 n g)) := by
  have h7 := (okH_iff hok).n7
  exact C15e_ok p n c (1 + n) d f _ _ (bad0_eq n g) (by omega) hok (okP_bad0 n g)
theorem C15b1_ok (v p : Int) (n c d : Nat) (f : Nat → Mv) (g : Nat → Int) (h0 : 0 < n) (hv : okN v = false) (hok : okH p n f = true) : ConOK Try.prog 15 (C15e p n c (1 + (n - mn n)) d f (consF v fun i => g (i + 1)) (bad1 v n g)) := by
  have h7 := (okH_iff hok).n7
  exact C15e_ok p n c _ d f _ _ (bad1_eq v g h0) (by omega) hok (okP_first _ hv)
theorem ints_one (n : Nat) (g : Nat → Int) (i j : Nat) : (List.take i (List.drop j (ints n g))).all one = true := by
  rw [List.all_eq_true]
  intro v hv
  have h1 := List.mem_of_mem_drop (List.mem_of_mem_take hv)
  have h2 : v ∈ flatC n fun i => [I (g i)] := h1
  simp only [flatC, List.mem_flatMap, List.mem_cons, List.not_mem_nil, or_false] at h2
  obtain ⟨_, _, rfl⟩ := h2
  rfl
end Go.Ab

/- the law's plans, without numbers. -/
set_option maxRecDepth 100000
namespace Go.Ab
open Go Go.RowKit Go.Proofs
noncomputable def st13n (n : Nat) (i : Nat) : Nat × Hx := if i = 0 then (0, ⟨⟨[I n, I (0 : Nat)], []⟩, []⟩) else (1, ⟨⟨[I n, I i], [(i, i)]⟩, [ints i (planG 0 fun _ => 0)]⟩)
theorem loop13n (n : Nat) (h0 : 0 < n) (hn : n ≤ 1000000) : LoopOK Try.prog none p13 N13a ⟨⟨[I n, I (0 : Nat)], []⟩, []⟩ (.exit 0) N13b ⟨⟨[I n, I n], [(n, n)]⟩, [ints n (planG 0 fun _ => 0)]⟩ := by
  have hat : ∀ i, Atoms [ints i (planG 0 fun _ => 0)] := fun i cs hcs => by
    simp only [List.mem_singleton] at hcs
    subst hcs
    exact ints_atom i _
  refine loop_vc (Ts := [N13a, N13b]) (k := 3) (X := Nat) (inv := fun i => i ≤ n) (μ := fun i => n - i) (st := st13n n) (out := fun _ => (.exit 0, 1, ⟨⟨[I n, I n], [(n, n)]⟩, [ints n (planG 0 fun _ => 0)]⟩)) rfl vx_sound (by simp [N13a, N13b]) (by rw [nglob]; omega) (fun i hi => ?_) (Nat.zero_le n) (x := 0) rfl (Nat.le_of_ble_eq_true rfl) (by decide) rfl
  have hw : i < n → IntKind.i64.wrap ((i : Int) + 1) = ((i + 1 : Nat) : Int) := fun _ => wrapI (by omega) (by omega)
  by_cases hz : i = 0
  · subst hz
    refine ⟨N13a, _, rfl, (n13a n 0 _).mpr ⟨fun h => ?_, fun h => ?_⟩⟩
    · refine ⟨⟨?_, trivial⟩, .inl ⟨rfl, 1, by omega, by show n - 1 < n - 0; omega, ?_, rfl⟩⟩
      · have h2 := hat 1
        exact h2
      · rw [hw h0]
        rfl
    · have : ¬ (0 : Nat) < n := by simpa using h
      omega
  · have hst : st13n n i = (1, ⟨⟨[I n, I i], [(i, i)]⟩, [ints i (planG 0 fun _ => 0)]⟩) := by simp only [st13n, if_neg hz]
    rw [hst]
    have hlen := ints_len i (planG 0 fun _ => 0)
    refine ⟨N13b, _, rfl, (n13b n i i (ints i (planG 0 fun _ => 0)) _).mpr ⟨fun h => ?_, fun h => ?_⟩⟩
    · have hi' : i < n := by simpa using h
      have e : ints (i + 1) (planG 0 fun _ => 0) = ints i (planG 0 fun _ => 0) ++ [I (Int.tmod 0 7)] := ints_succ i _
      have ht : List.take (i * 1) (ints i (planG 0 fun _ => 0)) = ints i (planG 0 fun _ => 0) := List.take_of_length_le (by rw [hlen]; omega)
      rw [hw hi', ht]
      have hnext : st13n n (i + 1) = (1, ⟨⟨[I n, I (i + 1 : Nat)], [(i + 1, i + 1)]⟩, [ints (i + 1) (planG 0 fun _ => 0)]⟩) := by simp only [st13n, if_neg (show ¬ i + 1 = 0 by omega)]
      have h2 := hat (i + 1)
      rw [e] at h2 hnext
      exact ⟨⟨by omega, by omega, by omega, by omega⟩, ⟨⟨h2, trivial⟩, .inl ⟨rfl, i + 1, by omega, by show n - (i + 1) < n - i; omega, hnext.trans rfl, rfl⟩⟩⟩
    · have e : i = n := by have : ¬ i < n := by simpa using h
                           omega
      subst e
      exact ⟨⟨hat i, trivial⟩, .inr ⟨by simp, rfl⟩⟩
noncomputable def C13n (p : Int) (n c : Nat) (f : Nat → Mv) : ConN where
  A := .agg (.hole (.slice 0 0 .nil)) (.val nilS .nil)
  bs := [.list 1 .ro]
  pre x := x = ⟨⟨[I p], [(n, c)]⟩, [mvs n f]⟩
  news _ := [(ints n (planG 0 fun _ => 0), 3)]
  one := true
  res _ := [.sl 0 n]
theorem C13n_ok (p : Int) (n c : Nat) (f : Nat → Mv) (h0 : 0 < n) (hn : n ≤ 1000000) : ConNOK Try.prog 13 (C13n p n c f) :=
  conRow_of rfl vx_sound (C := C13n p n c f) (n := n) (cells := ints n (planG 0 fun _ => 0)) (e := 3) ⟨⟨[I p], [(n, c)]⟩, [mvs n f]⟩ (fun x => Iff.rfl) rfl rfl rfl ⟨_, (n13 p n c (mvs n f) (ints n (planG 0 fun _ => 0)) _).mpr ⟨fun _ h => (by cases h), loop13n n h0 hn, rfl⟩⟩ (mvs_atoms n f) (ints_atom n _) rfl (Nat.le_of_ble_eq_true rfl) (by rw [nglob]; exact Nat.zero_le _)
noncomputable def m2n (ms : List Value) : Mem := ⟨fillX [.cells ms 1 .ro, .dead] 0 .nil, 2⟩
noncomputable def m2z (bs : List Value) : Mem := ⟨fillX [.dead, .cells bs 2 .ro] 0 .nil, 2⟩
noncomputable def m2d : Mem := ⟨fillX [.dead, .dead] 0 .nil, 2⟩
noncomputable def hN (p : Int) : Value := .agg ⟨[I p, nilS]⟩
end Go.Ab

/- the law HorseEnds: some moves, some numbers: it returns true. -/
set_option maxRecDepth 100000
namespace Go.Ab
open Go Go.RowKit Go.Proofs
theorem f4s (p : Int) (n c k d : Nat) (m8 : Int) (f : Nat → Mv) (bs : Nat → Int) (R : ARes → Prop)  : (vx.call 4 [hV p n c, slV 1 k d, U8 m8] (retK R) (m2b (mvs n f) (u8s k bs)) ((13, .val (.bool false)) :: (3, Hint.con ((C21 p n c f).when (ARes.ret (Value.bool true)))) :: (4, Hint.conN (C13 p n c k d f bs)) :: (14, Hint.loopW T4a (AExit.exit (0 : Nat)) T4b fun _ =>   {     hs :=       {         vs :=           [I ((IntKind.i64.wrap m8).tmod (221 : Int)), I (↑n : Int), I (↑n : Int), I p,             I (↑(cntN (undB ((IntKind.i64.wrap m8).tmod (221 : Int)) f (lgS false f)) n) : Int),             I (↑(cntN (undB ((IntKind.i64.wrap m8).tmod (221 : Int)) f (lgS true f)) n) : Int)],         ns := [(n, n), (n, n), (n, n), (n, c), (n, c)] },     ls := [mvs n f, ints n (planG k bs), ints n (lgS false f), ints n (lgS true f)], es := [] }) :: (6, Hint.conN (C14 p n c n n f (planG k bs) (lgS false f))) :: (0, Hint.again) :: (0, Hint.conN (C14 p n c n n f (planG k bs) (lgS true f))) :: (4, Hint.conN (C15 p n c n f (planG k bs))) :: (7, Hint.con (C19 p ((IntKind.i64.wrap m8).tmod (221 : Int)) n c f (busyV ((IntKind.i64.wrap m8).tmod (221 : Int)) n f))) :: (13, .val (.bool false)) :: [(8, .split ([]) ((6, Hint.loopW T4c (AExit.exit (2 : Nat)) T4c fun _ =>   { hs := { vs := [I (↑n : Int), I (↑n : Int), I p], ns := [(n, n), (n, n), (n, n), (n, n), (n, c), (n, c)] },     ls :=       [mvs n f, ints n (planG k bs), ints n (begS p n f (planG k bs) (lgS false f)),         ints n (begS p n f (planG k bs) (lgS true f)),         spansC n (latS false p n f (planG k bs)) (latS true p n f (planG k bs))],     es := [] }) :: (5, .val (.slice (.some ⟨((4 : Nat)), ((0 : Nat) + (if (↑n : Int) < (1 : Int) then (↑n : Int) else (1 : Int)).toNat * (1 : Nat)), .none⟩) (n - (if (↑n : Int) < (1 : Int) then (↑n : Int) else (1 : Int)).toNat) (n - (if (↑n : Int) < (1 : Int) then (↑n : Int) else (1 : Int)).toNat))) :: (4, .val (.slice (.some ⟨((4 : Nat)), ((0 : Nat) + (if (↑n : Int) < (1 : Int) then (↑n : Int) else (1 : Int)).toNat * (1 : Nat)), .none⟩) (n - (if (↑n : Int) < (1 : Int) then (↑n : Int) else (1 : Int)).toNat) (n - (if (↑n : Int) < (1 : Int) then (↑n : Int) else (1 : Int)).toNat))) :: (1, Hint.growN) :: (0, Hint.again) :: (0, Hint.growN) :: (0, Hint.again) :: (0, Hint.growN) :: (9, Hint.con (C15e p n c ((1 : Nat) + n) ((1 : Nat) + n) f (consF (0 : Int) (planG k bs)) (bad0 n (planG k bs)))) :: (17, Hint.con   (C15e p n c ((1 : Nat) + (n - mn n)) ((1 : Nat) + (n - mn n)) f (consF (-1 : Int) fun i => planG k bs (i + (1 : Nat)))     (bad1 (-1 : Int) n (planG k bs)))) :: (17, Hint.con   (C15e p n c ((1 : Nat) + (n - mn n)) ((1 : Nat) + (n - mn n)) f (consF (7 : Int) fun i => planG k bs (i + (1 : Nat)))     (bad1 (7 : Int) n (planG k bs)))) :: (16, Hint.con (C18e p n c f)) :: (6, Hint.con   (C19 p (221 : Int) n c f     (Value.tuple { toList := [Value.agg { toList := [I (0 : Int), I (0 : Int)] }, I (2 : Int)] }))) :: (7, Hint.con (C23e p n c f)) :: (16, Hint.con C12) :: []))])) =
(((((some (.bool (decide ((if (↑(0 : Nat) : Int) > (↑n : Int) then (↑(0 : Nat) : Int) else (↑n : Int)) > (40 : Int)))) : Option Value) = some (.bool false))) ∧
((ConOK Try.prog ((21 : Nat)) ((C21 p n c f).when (ARes.ret (Value.bool true)))) ∧ (Con.pre ((C21 p n c f).when (ARes.ret (Value.bool true))) ⟨⟨[(.int IntKind.i64 (p))], [⟨(n), (c)⟩]⟩, [(mvs n f)]⟩) ∧ 
((ConNOK Try.prog ((13 : Nat)) (C13 p n c k d f bs)) ∧ (ConN.pre (C13 p n c k d f bs) ⟨⟨[(.int IntKind.i64 (p))], [⟨(n), (c)⟩, ⟨(k), (d)⟩]⟩, [(mvs n f), (u8s k bs)]⟩) ∧ 
((ClW ⟨⟨[(.int IntKind.i64 ((IntKind.i64.wrap m8).tmod (221 : Int))), (.int IntKind.i64 ((↑n : Int))), (.int IntKind.i64 ((0 : Int))), (.int IntKind.i64 (p)), (.int IntKind.i64 ((0 : Int))), (.int IntKind.i64 ((0 : Int)))], [⟨(n), (n)⟩, ⟨(n), (c)⟩, ⟨(n), (c)⟩]⟩, [(mvs n f), (ints n (planG k bs))], []⟩) ∧ (LoopOW Try.prog .none p4a (T4a) ⟨⟨[(.int IntKind.i64 ((IntKind.i64.wrap m8).tmod (221 : Int))), (.int IntKind.i64 ((↑n : Int))), (.int IntKind.i64 ((0 : Int))), (.int IntKind.i64 (p)), (.int IntKind.i64 ((0 : Int))), (.int IntKind.i64 ((0 : Int)))], [⟨(n), (n)⟩, ⟨(n), (c)⟩, ⟨(n), (c)⟩]⟩, [(mvs n f), (ints n (planG k bs))], []⟩ (.exit ((0 : Nat))) (T4b) ⟨⟨[(.int IntKind.i64 ((IntKind.i64.wrap m8).tmod (OfNat.ofNat (221 : Nat)))), (.int IntKind.i64 ((↑n : Int))), (.int IntKind.i64 ((↑n : Int))), (.int IntKind.i64 (p)), (.int IntKind.i64 ((↑(cntN (undB ((IntKind.i64.wrap m8).tmod (OfNat.ofNat (221 : Nat))) f (lgS false f)) n) : Int))), (.int IntKind.i64 ((↑(cntN (undB ((IntKind.i64.wrap m8).tmod (OfNat.ofNat (221 : Nat))) f (lgS true f)) n) : Int)))], [⟨(n), (n)⟩, ⟨(n), (n)⟩, ⟨(n), (n)⟩, ⟨(n), (c)⟩, ⟨(n), (c)⟩]⟩, [(mvs n f), (ints n (planG k bs)), (ints n (lgS false f)), (ints n (lgS true f))], []⟩) ∧ 
((ConNOK Try.prog ((14 : Nat)) (C14 p n c n n f (planG k bs) (lgS false f))) ∧ (ConN.pre (C14 p n c n n f (planG k bs) (lgS false f)) ⟨⟨[(.int IntKind.i64 (p))], [⟨(n), (c)⟩, ⟨(n), (n)⟩, ⟨(n), (n)⟩]⟩, [(mvs n f), (ints n (planG k bs)), (ints n (lgS false f))]⟩) ∧ 
((((((2 : Nat) ≤ (2 : Nat))) ∧ (((.agg ⟨[(.int IntKind.i64 (p)), (.slice (.some ⟨((0 : Nat)), ((0 : Nat)), .none⟩) (n) (c))]⟩) : Value) = (.agg ⟨[(.int IntKind.i64 (p)), (.slice (.some ⟨((0 : Nat)), ((0 : Nat)), .none⟩) (n) (c))]⟩))) ∧ (True)) ∧ 
((ConNOK Try.prog ((14 : Nat)) (C14 p n c n n f (planG k bs) (lgS true f))) ∧ (ConN.pre (C14 p n c n n f (planG k bs) (lgS true f)) ⟨⟨[(.int IntKind.i64 (p))], [⟨(n), (c)⟩, ⟨(n), (n)⟩, ⟨(n), (n)⟩]⟩, [(mvs n f), (ints n (planG k bs)), (ints n (lgS true f))]⟩) ∧ 
((ConNOK Try.prog ((15 : Nat)) (C15 p n c n f (planG k bs))) ∧ (ConN.pre (C15 p n c n f (planG k bs)) ⟨⟨[(.int IntKind.i64 (p))], [⟨(n), (c)⟩, ⟨(n), (n)⟩]⟩, [(mvs n f), (ints n (planG k bs))]⟩) ∧ 
((ConOK Try.prog ((19 : Nat)) (C19 p ((IntKind.i64.wrap m8).tmod (OfNat.ofNat (221 : Nat))) n c f   (busyV ((IntKind.i64.wrap m8).tmod (OfNat.ofNat (221 : Nat))) n f))) ∧ (Con.pre (C19 p ((IntKind.i64.wrap m8).tmod (OfNat.ofNat (221 : Nat))) n c f   (busyV ((IntKind.i64.wrap m8).tmod (OfNat.ofNat (221 : Nat))) n f)) ⟨⟨[(.int IntKind.i64 (p)), (.int IntKind.i64 ((IntKind.i64.wrap m8).tmod (OfNat.ofNat (221 : Nat))))], [⟨(n), (c)⟩]⟩, [(mvs n f)]⟩) ∧ 
((((some (.bool ((↑n : Int) != (↑n : Int))) : Option Value) = some (.bool false))) ∧
(((!((↑(cntN (undB ((IntKind.i64.wrap m8).tmod (OfNat.ofNat (221 : Nat))) f (lgS false f)) n) : Int) ==       (↑(cntN (undB ((IntKind.i64.wrap m8).tmod (OfNat.ofNat (221 : Nat))) f (lgS false f)) n) : Int) &&     (fun c =>         (↑(cntN (undB ((IntKind.i64.wrap m8).tmod (OfNat.ofNat (221 : Nat))) f (lgS true f)) n) : Int) ==             (↑(cntN (undB ((IntKind.i64.wrap m8).tmod (OfNat.ofNat (221 : Nat))) f (lgS true f)) n) : Int) &&           c)       true)) = true → R (.ret (.bool false))) ∧
((!((↑(cntN (undB ((IntKind.i64.wrap m8).tmod (OfNat.ofNat (221 : Nat))) f (lgS false f)) n) : Int) ==       (↑(cntN (undB ((IntKind.i64.wrap m8).tmod (OfNat.ofNat (221 : Nat))) f (lgS false f)) n) : Int) &&     (fun c =>         (↑(cntN (undB ((IntKind.i64.wrap m8).tmod (OfNat.ofNat (221 : Nat))) f (lgS true f)) n) : Int) ==             (↑(cntN (undB ((IntKind.i64.wrap m8).tmod (OfNat.ofNat (221 : Nat))) f (lgS true f)) n) : Int) &&           c)       true)) = false → ((ClW ⟨⟨[(.int IntKind.i64 ((↑n : Int))), (.int IntKind.i64 ((0 : Int))), (.int IntKind.i64 (p))], [⟨(n), (n)⟩, ⟨(n), (n)⟩, ⟨(n), (n)⟩, ⟨(n), (n)⟩, ⟨(n), (c)⟩, ⟨(n), (c)⟩]⟩, [(mvs n f), (ints n (planG k bs)), (ints n (begS p n f (planG k bs) (lgS false f))), (ints n (begS p n f (planG k bs) (lgS true f))), (spansC n (latS false p n f (planG k bs)) (latS true p n f (planG k bs)))], []⟩) ∧ (LoopOW Try.prog .none p4c (T4c) ⟨⟨[(.int IntKind.i64 ((↑n : Int))), (.int IntKind.i64 ((0 : Int))), (.int IntKind.i64 (p))], [⟨(n), (n)⟩, ⟨(n), (n)⟩, ⟨(n), (n)⟩, ⟨(n), (n)⟩, ⟨(n), (c)⟩, ⟨(n), (c)⟩]⟩, [(mvs n f), (ints n (planG k bs)), (ints n (begS p n f (planG k bs) (lgS false f))), (ints n (begS p n f (planG k bs) (lgS true f))), (spansC n (latS false p n f (planG k bs)) (latS true p n f (planG k bs)))], []⟩ (.exit ((2 : Nat))) (T4c) ⟨⟨[(.int IntKind.i64 ((↑n : Int))), (.int IntKind.i64 ((↑n : Int))), (.int IntKind.i64 (p))], [⟨(n), (n)⟩, ⟨(n), (n)⟩, ⟨(n), (n)⟩, ⟨(n), (n)⟩, ⟨(n), (c)⟩, ⟨(n), (c)⟩]⟩, [(mvs n f), (ints n (planG k bs)), (ints n (begS p n f (planG k bs) (lgS false f))), (ints n (begS p n f (planG k bs) (lgS true f))), (spansC n (latS false p n f (planG k bs)) (latS true p n f (planG k bs)))], []⟩) ∧ 
((((((0 : Int) ≤ if (↑n : Int) < (1 : Int) then (↑n : Int) else (1 : Int))) ∧ ((((if (↑n : Int) < (1 : Int) then (↑n : Int) else (1 : Int)) ≤ (↑n : Int))) ∧ (((↑n : Int) ≤ (↑n : Int))))) ∧ (((.slice (.some ⟨((4 : Nat)), ((0 : Nat) + (if (↑n : Int) < (1 : Int) then (↑n : Int) else (1 : Int)).toNat * (1 : Nat)), .none⟩) (n - (if (↑n : Int) < (1 : Int) then (↑n : Int) else (1 : Int)).toNat) (n - (if (↑n : Int) < (1 : Int) then (↑n : Int) else (1 : Int)).toNat)) : Value) = (.slice (.some ⟨((4 : Nat)), ((0 : Nat) + (if (↑n : Int) < (1 : Int) then (↑n : Int) else (1 : Int)).toNat * (1 : Nat)), .none⟩) (n - (if (↑n : Int) < (1 : Int) then (↑n : Int) else (1 : Int)).toNat) (n - (if (↑n : Int) < (1 : Int) then (↑n : Int) else (1 : Int)).toNat)))) ∧
((((((0 : Int) ≤ if (↑n : Int) < (1 : Int) then (↑n : Int) else (1 : Int))) ∧ ((((if (↑n : Int) < (1 : Int) then (↑n : Int) else (1 : Int)) ≤ (↑n : Int))) ∧ (((↑n : Int) ≤ (↑n : Int))))) ∧ (((.slice (.some ⟨((4 : Nat)), ((0 : Nat) + (if (↑n : Int) < (1 : Int) then (↑n : Int) else (1 : Int)).toNat * (1 : Nat)), .none⟩) (n - (if (↑n : Int) < (1 : Int) then (↑n : Int) else (1 : Int)).toNat) (n - (if (↑n : Int) < (1 : Int) then (↑n : Int) else (1 : Int)).toNat)) : Value) = (.slice (.some ⟨((4 : Nat)), ((0 : Nat) + (if (↑n : Int) < (1 : Int) then (↑n : Int) else (1 : Int)).toNat * (1 : Nat)), .none⟩) (n - (if (↑n : Int) < (1 : Int) then (↑n : Int) else (1 : Int)).toNat) (n - (if (↑n : Int) < (1 : Int) then (↑n : Int) else (1 : Int)).toNat)))) ∧
(((((((0 : Nat) < n)) ∧ (((0 : Nat) + n * (1 : Nat) ≤ (ints n (planG k bs)).length))) ∧ (((List.take (n * (1 : Nat)) (List.drop (0 : Nat) (ints n (planG k bs)))).all one = true))) ∧ (((¬(1 : Nat) + n ≤ (1 : Nat))) ∧ ((((1 : Nat) = (1 : Nat))) ∧ (((((1 : Nat) + n) * (8 : Nat) ≤ (140737488355328 : Nat))) ∧ (((1 : Nat) + n ≤ (4611686018427387904 : Nat))))))) ∧ 
((((((.slice (.some ⟨((14 : Nat)), ((0 : Nat)), .none⟩) ((1 : Nat)) ((1 : Nat))) : Value) = (.slice (.some ⟨((14 : Nat)), ((0 : Nat)), .none⟩) ((1 : Nat)) ((1 : Nat)))) ∧ (((some (.cells [(.int IntKind.i64 ((7 : Int)))] ((3 : Nat)) .row) : Option ABlk) = some (.cells [(.int IntKind.i64 ((7 : Int)))] ((3 : Nat)) .row)))) ∧ (((((.slice (.some ⟨((13 : Nat)), ((0 : Nat)), .none⟩) ((1 : Nat)) ((1 : Nat))) : Value) = (.slice (.some ⟨((13 : Nat)), ((0 : Nat)), .none⟩) ((1 : Nat)) ((1 : Nat)))) ∧ (((some (.cells [(.int IntKind.i64 ((-1 : Int)))] ((3 : Nat)) .row) : Option ABlk) = some (.cells [(.int IntKind.i64 ((-1 : Int)))] ((3 : Nat)) .row)))) ∧ ((((((0 : Int) ≤ if (↑n : Int) < (1 : Int) then (↑n : Int) else (1 : Int))) ∧ ((((if (↑n : Int) < (1 : Int) then (↑n : Int) else (1 : Int)) ≤ (↑n : Int))) ∧ (((↑n : Int) ≤ (↑n : Int))))) ∧ (((.slice (.some ⟨((4 : Nat)), ((0 : Nat) + (if (↑n : Int) < (1 : Int) then (↑n : Int) else (1 : Int)).toNat * (1 : Nat)), .none⟩) (n - (if (↑n : Int) < (1 : Int) then (↑n : Int) else (1 : Int)).toNat) (n - (if (↑n : Int) < (1 : Int) then (↑n : Int) else (1 : Int)).toNat)) : Value) = (.slice (.some ⟨((4 : Nat)), ((0 : Nat) + (if (↑n : Int) < (1 : Int) then (↑n : Int) else (1 : Int)).toNat * (1 : Nat)), .none⟩) (n - (if (↑n : Int) < (1 : Int) then (↑n : Int) else (1 : Int)).toNat) (n - (if (↑n : Int) < (1 : Int) then (↑n : Int) else (1 : Int)).toNat)))) ∧ ((((some (.int IntKind.i64 (if (↑n : Int) < (1 : Int) then (↑n : Int) else (1 : Int))) : Option Value) = some (.int IntKind.i64 (if (↑n : Int) < (1 : Int) then (↑n : Int) else (1 : Int))))) ∧ ((((some (.int IntKind.i64 ((↑n : Int))) : Option Value) = some (.int IntKind.i64 ((↑n : Int))))) ∧ ((((((0 : Int) ≤ if (↑n : Int) < (1 : Int) then (↑n : Int) else (1 : Int))) ∧ ((((if (↑n : Int) < (1 : Int) then (↑n : Int) else (1 : Int)) ≤ (↑n : Int))) ∧ (((↑n : Int) ≤ (↑n : Int))))) ∧ (((.slice (.some ⟨((4 : Nat)), ((0 : Nat) + (if (↑n : Int) < (1 : Int) then (↑n : Int) else (1 : Int)).toNat * (1 : Nat)), .none⟩) (n - (if (↑n : Int) < (1 : Int) then (↑n : Int) else (1 : Int)).toNat) (n - (if (↑n : Int) < (1 : Int) then (↑n : Int) else (1 : Int)).toNat)) : Value) = (.slice (.some ⟨((4 : Nat)), ((0 : Nat) + (if (↑n : Int) < (1 : Int) then (↑n : Int) else (1 : Int)).toNat * (1 : Nat)), .none⟩) (n - (if (↑n : Int) < (1 : Int) then (↑n : Int) else (1 : Int)).toNat) (n - (if (↑n : Int) < (1 : Int) then (↑n : Int) else (1 : Int)).toNat)))) ∧ ((((some (.int IntKind.i64 (if (↑n : Int) < (1 : Int) then (↑n : Int) else (1 : Int))) : Option Value) = some (.int IntKind.i64 (if (↑n : Int) < (1 : Int) then (↑n : Int) else (1 : Int))))) ∧ ((((some (.int IntKind.i64 ((↑n : Int))) : Option Value) = some (.int IntKind.i64 ((↑n : Int))))) ∧ (True))))))))) ∧ 
(((((((0 : Nat) < n - (if (↑n : Int) < (1 : Int) then (↑n : Int) else (1 : Int)).toNat)) ∧ (((0 : Nat) + (if (↑n : Int) < (1 : Int) then (↑n : Int) else (1 : Int)).toNat * (1 : Nat) +     (n - (if (↑n : Int) < (1 : Int) then (↑n : Int) else (1 : Int)).toNat) * (1 : Nat) ≤   (ints n (planG k bs)).length))) ∧ (((List.take ((n - (if (↑n : Int) < (1 : Int) then (↑n : Int) else (1 : Int)).toNat) * (1 : Nat))         (List.drop ((0 : Nat) + (if (↑n : Int) < (1 : Int) then (↑n : Int) else (1 : Int)).toNat * (1 : Nat))           (ints n (planG k bs)))).all     one =   true))) ∧ (((¬(1 : Nat) + (n - (if (↑n : Int) < (1 : Int) then (↑n : Int) else (1 : Int)).toNat) ≤ (1 : Nat))) ∧ ((((1 : Nat) = (1 : Nat))) ∧ (((((1 : Nat) + (n - (if (↑n : Int) < (1 : Int) then (↑n : Int) else (1 : Int)).toNat)) * (8 : Nat) ≤   (140737488355328 : Nat))) ∧ (((1 : Nat) + (n - (if (↑n : Int) < (1 : Int) then (↑n : Int) else (1 : Int)).toNat) ≤ (4611686018427387904 : Nat))))))) ∧ 
((((((.slice (.some ⟨((14 : Nat)), ((0 : Nat)), .none⟩) ((1 : Nat)) ((1 : Nat))) : Value) = (.slice (.some ⟨((14 : Nat)), ((0 : Nat)), .none⟩) ((1 : Nat)) ((1 : Nat)))) ∧ (((some (.cells [(.int IntKind.i64 ((7 : Int)))] ((3 : Nat)) .row) : Option ABlk) = some (.cells [(.int IntKind.i64 ((7 : Int)))] ((3 : Nat)) .row)))) ∧ ((((((0 : Int) ≤ if (↑n : Int) < (1 : Int) then (↑n : Int) else (1 : Int))) ∧ ((((if (↑n : Int) < (1 : Int) then (↑n : Int) else (1 : Int)) ≤ (↑n : Int))) ∧ (((↑n : Int) ≤ (↑n : Int))))) ∧ (((.slice (.some ⟨((4 : Nat)), ((0 : Nat) + (if (↑n : Int) < (1 : Int) then (↑n : Int) else (1 : Int)).toNat * (1 : Nat)), .none⟩) (n - (if (↑n : Int) < (1 : Int) then (↑n : Int) else (1 : Int)).toNat) (n - (if (↑n : Int) < (1 : Int) then (↑n : Int) else (1 : Int)).toNat)) : Value) = (.slice (.some ⟨((4 : Nat)), ((0 : Nat) + (if (↑n : Int) < (1 : Int) then (↑n : Int) else (1 : Int)).toNat * (1 : Nat)), .none⟩) (n - (if (↑n : Int) < (1 : Int) then (↑n : Int) else (1 : Int)).toNat) (n - (if (↑n : Int) < (1 : Int) then (↑n : Int) else (1 : Int)).toNat)))) ∧ ((((some (.int IntKind.i64 (if (↑n : Int) < (1 : Int) then (↑n : Int) else (1 : Int))) : Option Value) = some (.int IntKind.i64 (if (↑n : Int) < (1 : Int) then (↑n : Int) else (1 : Int))))) ∧ ((((some (.int IntKind.i64 ((↑n : Int))) : Option Value) = some (.int IntKind.i64 ((↑n : Int))))) ∧ (True))))) ∧ 
(((((((0 : Nat) < n - (if (↑n : Int) < (1 : Int) then (↑n : Int) else (1 : Int)).toNat)) ∧ (((0 : Nat) + (if (↑n : Int) < (1 : Int) then (↑n : Int) else (1 : Int)).toNat * (1 : Nat) +     (n - (if (↑n : Int) < (1 : Int) then (↑n : Int) else (1 : Int)).toNat) * (1 : Nat) ≤   (ints n (planG k bs)).length))) ∧ (((List.take ((n - (if (↑n : Int) < (1 : Int) then (↑n : Int) else (1 : Int)).toNat) * (1 : Nat))         (List.drop ((0 : Nat) + (if (↑n : Int) < (1 : Int) then (↑n : Int) else (1 : Int)).toNat * (1 : Nat))           (ints n (planG k bs)))).all     one =   true))) ∧ (((¬(1 : Nat) + (n - (if (↑n : Int) < (1 : Int) then (↑n : Int) else (1 : Int)).toNat) ≤ (1 : Nat))) ∧ ((((1 : Nat) = (1 : Nat))) ∧ (((((1 : Nat) + (n - (if (↑n : Int) < (1 : Int) then (↑n : Int) else (1 : Int)).toNat)) * (8 : Nat) ≤   (140737488355328 : Nat))) ∧ (((1 : Nat) + (n - (if (↑n : Int) < (1 : Int) then (↑n : Int) else (1 : Int)).toNat) ≤ (4611686018427387904 : Nat))))))) ∧ 
((ConOK Try.prog ((15 : Nat)) (C15e p n c ((1 : Nat) + n) ((1 : Nat) + n) f (consF (0 : Int) (planG k bs)) (bad0 n (planG k bs)))) ∧ (Con.pre (C15e p n c ((1 : Nat) + n) ((1 : Nat) + n) f (consF (0 : Int) (planG k bs)) (bad0 n (planG k bs))) ⟨⟨[(.int IntKind.i64 (p))], [⟨(n), (c)⟩, ⟨((1 : Nat) + n), ((1 : Nat) + n)⟩]⟩, [(mvs n f), ((.int IntKind.i64 ((0 : Int))) :: ((Nat.brecOn.go (motive := fun _ => List Value → List Value)       (((4 : Nat), (0 : Nat), n, n).snd.snd.fst * (fun x => x.size) Try.prog.types[(3 : Nat)]) List.take._f).1   (List.drop ((4 : Nat), (0 : Nat), n, n).snd.fst (ints n (planG k bs), OfNat.ofNat (3 : Nat), BKind.row).fst)))]⟩) ∧ 
((ConOK Try.prog ((15 : Nat)) (C15e p n c ((1 : Nat) + (n - mn n)) ((1 : Nat) + (n - mn n)) f (consF (-1 : Int) fun i => planG k bs (i + (1 : Nat)))   (bad1 (-1 : Int) n (planG k bs)))) ∧ (Con.pre (C15e p n c ((1 : Nat) + (n - mn n)) ((1 : Nat) + (n - mn n)) f (consF (-1 : Int) fun i => planG k bs (i + (1 : Nat)))   (bad1 (-1 : Int) n (planG k bs))) ⟨⟨[(.int IntKind.i64 (p))], [⟨(n), (c)⟩, ⟨((1 : Nat) + (n - (if (↑n : Int) < (1 : Int) then (↑n : Int) else (1 : Int)).toNat)), ((1 : Nat) + (n - (if (↑n : Int) < (1 : Int) then (↑n : Int) else (1 : Int)).toNat))⟩]⟩, [(mvs n f), ((.int IntKind.i64 ((-1 : Int))) :: ((Nat.brecOn.go (motive := fun _ => List Value → List Value)       (((4 : Nat), (0 : Nat) + (if (↑n : Int) < (1 : Int) then (↑n : Int) else (1 : Int)).toNat * (1 : Nat),                 n - (if (↑n : Int) < (1 : Int) then (↑n : Int) else (1 : Int)).toNat,                 n - (if (↑n : Int) < (1 : Int) then (↑n : Int) else (1 : Int)).toNat).snd.snd.fst *         (fun x => x.size) Try.prog.types[(3 : Nat)])       List.take._f).1   (List.drop     ((4 : Nat), (0 : Nat) + (if (↑n : Int) < (1 : Int) then (↑n : Int) else (1 : Int)).toNat * (1 : Nat),           n - (if (↑n : Int) < (1 : Int) then (↑n : Int) else (1 : Int)).toNat,           n - (if (↑n : Int) < (1 : Int) then (↑n : Int) else (1 : Int)).toNat).snd.fst     (ints n (planG k bs), OfNat.ofNat (3 : Nat), BKind.row).fst)))]⟩) ∧ 
((ConOK Try.prog ((15 : Nat)) (C15e p n c ((1 : Nat) + (n - mn n)) ((1 : Nat) + (n - mn n)) f (consF (7 : Int) fun i => planG k bs (i + (1 : Nat)))   (bad1 (7 : Int) n (planG k bs)))) ∧ (Con.pre (C15e p n c ((1 : Nat) + (n - mn n)) ((1 : Nat) + (n - mn n)) f (consF (7 : Int) fun i => planG k bs (i + (1 : Nat)))   (bad1 (7 : Int) n (planG k bs))) ⟨⟨[(.int IntKind.i64 (p))], [⟨(n), (c)⟩, ⟨((1 : Nat) + (n - (if (↑n : Int) < (1 : Int) then (↑n : Int) else (1 : Int)).toNat)), ((1 : Nat) + (n - (if (↑n : Int) < (1 : Int) then (↑n : Int) else (1 : Int)).toNat))⟩]⟩, [(mvs n f), ((.int IntKind.i64 ((7 : Int))) :: ((Nat.brecOn.go (motive := fun _ => List Value → List Value)       (((4 : Nat), (0 : Nat) + (if (↑n : Int) < (1 : Int) then (↑n : Int) else (1 : Int)).toNat * (1 : Nat),                 n - (if (↑n : Int) < (1 : Int) then (↑n : Int) else (1 : Int)).toNat,                 n - (if (↑n : Int) < (1 : Int) then (↑n : Int) else (1 : Int)).toNat).snd.snd.fst *         (fun x => x.size) Try.prog.types[(3 : Nat)])       List.take._f).1   (List.drop     ((4 : Nat), (0 : Nat) + (if (↑n : Int) < (1 : Int) then (↑n : Int) else (1 : Int)).toNat * (1 : Nat),           n - (if (↑n : Int) < (1 : Int) then (↑n : Int) else (1 : Int)).toNat,           n - (if (↑n : Int) < (1 : Int) then (↑n : Int) else (1 : Int)).toNat).snd.fst     (ints n (planG k bs), OfNat.ofNat (3 : Nat), BKind.row).fst)))]⟩) ∧ 
((ConOK Try.prog ((18 : Nat)) (C18e p n c f)) ∧ (Con.pre (C18e p n c f) ⟨⟨[(.int IntKind.i64 (p)), (.int IntKind.i64 ((↑n : Int)))], [⟨(n), (c)⟩]⟩, [(mvs n f)]⟩) ∧ 
((ConOK Try.prog ((19 : Nat)) (C19 p (221 : Int) n c f (Value.tuple { toList := [Value.agg { toList := [I (0 : Int), I (0 : Int)] }, I (2 : Int)] }))) ∧ (Con.pre (C19 p (221 : Int) n c f (Value.tuple { toList := [Value.agg { toList := [I (0 : Int), I (0 : Int)] }, I (2 : Int)] })) ⟨⟨[(.int IntKind.i64 (p)), (.int IntKind.i64 ((221 : Int)))], [⟨(n), (c)⟩]⟩, [(mvs n f)]⟩) ∧ 
((ConOK Try.prog ((23 : Nat)) (C23e p n c f)) ∧ (Con.pre (C23e p n c f) ⟨⟨[(.int IntKind.i64 (p))], [⟨(n), (c)⟩]⟩, [(mvs n f)]⟩) ∧ 
((ConOK Try.prog ((12 : Nat)) (C12)) ∧ (Con.pre (C12) ⟨⟨[], []⟩, []⟩) ∧ 
R (.ret (.bool true)))))))))))))))))))))))))))))) := by kernel_rfl

theorem f4s1 (p : Int) (c k d : Nat) (m8 : Int) (f : Nat → Mv) (bs : Nat → Int) (R : ARes → Prop)  : (vx.call 4 [hV p 1 c, slV 1 k d, U8 m8] (retK R) (m2b (mvs 1 f) (u8s k bs)) ((17, Hint.con ((C21 p (1 : Nat) c f).when (ARes.ret (Value.bool true)))) :: (4, Hint.conN (C13 p (1 : Nat) c k d f bs)) :: (14, Hint.loopW T4a (AExit.exit (0 : Nat)) T4b fun _ =>   {     hs :=       {         vs :=           [I ((IntKind.i64.wrap m8).tmod (221 : Int)), I (↑(1 : Nat) : Int), I (↑(1 : Nat) : Int), I p,             I (↑(cntN (undB ((IntKind.i64.wrap m8).tmod (221 : Int)) f (lgS false f)) (1 : Nat)) : Int),             I (↑(cntN (undB ((IntKind.i64.wrap m8).tmod (221 : Int)) f (lgS true f)) (1 : Nat)) : Int)],         ns :=           [((1 : Nat), (1 : Nat)), ((1 : Nat), (1 : Nat)), ((1 : Nat), (1 : Nat)), ((1 : Nat), c), ((1 : Nat), c)] },     ls := [mvs (1 : Nat) f, ints (1 : Nat) (planG k bs), ints (1 : Nat) (lgS false f), ints (1 : Nat) (lgS true f)],     es := [] }) :: (6, Hint.conN (C14 p (1 : Nat) c (1 : Nat) (1 : Nat) f (planG k bs) (lgS false f))) :: (0, Hint.again) :: (0, Hint.conN (C14 p (1 : Nat) c (1 : Nat) (1 : Nat) f (planG k bs) (lgS true f))) :: (4, Hint.conN (C15 p (1 : Nat) c (1 : Nat) f (planG k bs))) :: (7, Hint.con   (C19 p ((IntKind.i64.wrap m8).tmod (221 : Int)) (1 : Nat) c f     (busyV ((IntKind.i64.wrap m8).tmod (221 : Int)) (1 : Nat) f))) :: [(22, .split ([]) ((6, Hint.loopW T4c (AExit.exit (2 : Nat)) T4c fun _ =>   {     hs :=       { vs := [I (↑(1 : Nat) : Int), I (↑(1 : Nat) : Int), I p],         ns :=           [((1 : Nat), (1 : Nat)), ((1 : Nat), (1 : Nat)), ((1 : Nat), (1 : Nat)), ((1 : Nat), (1 : Nat)),             ((1 : Nat), c), ((1 : Nat), c)] },     ls :=       [mvs (1 : Nat) f, ints (1 : Nat) (planG k bs), ints (1 : Nat) (begS p (1 : Nat) f (planG k bs) (lgS false f)),         ints (1 : Nat) (begS p (1 : Nat) f (planG k bs) (lgS true f)),         spansC (1 : Nat) (latS false p (1 : Nat) f (planG k bs)) (latS true p (1 : Nat) f (planG k bs))],     es := [] }) :: (26, Hint.con   (C15e p (1 : Nat) c ((1 : Nat) + (1 : Nat)) ((1 : Nat) + (1 : Nat)) f (consF (0 : Int) (planG k bs))     (bad0 (1 : Nat) (planG k bs)))) :: (17, Hint.con   (C15e p (1 : Nat) c (1 : Nat) (1 : Nat) f (consF (-1 : Int) fun i => planG k bs (i + (1 : Nat))) [I (-1 : Int)])) :: (17, Hint.con (C15e p (1 : Nat) c (1 : Nat) (1 : Nat) f (consF (7 : Int) fun i => planG k bs (i + (1 : Nat))) [I (7 : Int)])) :: (16, Hint.con (C18e p (1 : Nat) c f)) :: (6, Hint.con   (C19 p (221 : Int) (1 : Nat) c f     (Value.tuple { toList := [Value.agg { toList := [I (0 : Int), I (0 : Int)] }, I (2 : Int)] }))) :: (7, Hint.con (C23e p (1 : Nat) c f)) :: (16, Hint.con C12) :: []))])) =
(((ConOK Try.prog ((21 : Nat)) ((C21 p (1 : Nat) c f).when (ARes.ret (Value.bool true)))) ∧ (Con.pre ((C21 p (1 : Nat) c f).when (ARes.ret (Value.bool true))) ⟨⟨[(.int IntKind.i64 (p))], [⟨((1 : Nat)), (c)⟩]⟩, [[(.int IntKind.i64 ((f (0 : Nat)).at_)), (.int IntKind.i64 ((f (0 : Nat)).place)), (.int IntKind.i64 ((f (0 : Nat)).lo)), (.int IntKind.i64 ((f (0 : Nat)).hi))]]⟩) ∧ 
((ConNOK Try.prog ((13 : Nat)) (C13 p (1 : Nat) c k d f bs)) ∧ (ConN.pre (C13 p (1 : Nat) c k d f bs) ⟨⟨[(.int IntKind.i64 (p))], [⟨((1 : Nat)), (c)⟩, ⟨(k), (d)⟩]⟩, [[(.int IntKind.i64 ((f (0 : Nat)).at_)), (.int IntKind.i64 ((f (0 : Nat)).place)), (.int IntKind.i64 ((f (0 : Nat)).lo)), (.int IntKind.i64 ((f (0 : Nat)).hi))], (u8s k bs)]⟩) ∧ 
((ClW ⟨⟨[(.int IntKind.i64 ((IntKind.i64.wrap m8).tmod (221 : Int))), (.int IntKind.i64 ((↑(1 : Nat) : Int))), (.int IntKind.i64 ((0 : Int))), (.int IntKind.i64 (p)), (.int IntKind.i64 ((0 : Int))), (.int IntKind.i64 ((0 : Int)))], [⟨((1 : Nat)), ((1 : Nat))⟩, ⟨((1 : Nat)), (c)⟩, ⟨((1 : Nat)), (c)⟩]⟩, [[(.int IntKind.i64 ((f (0 : Nat)).at_)), (.int IntKind.i64 ((f (0 : Nat)).place)), (.int IntKind.i64 ((f (0 : Nat)).lo)), (.int IntKind.i64 ((f (0 : Nat)).hi))], [(.int IntKind.i64 (planG k bs (0 : Nat)))]], []⟩) ∧ (LoopOW Try.prog .none p4a (T4a) ⟨⟨[(.int IntKind.i64 ((IntKind.i64.wrap m8).tmod (221 : Int))), (.int IntKind.i64 ((↑(1 : Nat) : Int))), (.int IntKind.i64 ((0 : Int))), (.int IntKind.i64 (p)), (.int IntKind.i64 ((0 : Int))), (.int IntKind.i64 ((0 : Int)))], [⟨((1 : Nat)), ((1 : Nat))⟩, ⟨((1 : Nat)), (c)⟩, ⟨((1 : Nat)), (c)⟩]⟩, [[(.int IntKind.i64 ((f (0 : Nat)).at_)), (.int IntKind.i64 ((f (0 : Nat)).place)), (.int IntKind.i64 ((f (0 : Nat)).lo)), (.int IntKind.i64 ((f (0 : Nat)).hi))], [(.int IntKind.i64 (planG k bs (0 : Nat)))]], []⟩ (.exit ((0 : Nat))) (T4b) ⟨⟨[(.int IntKind.i64 ((IntKind.i64.wrap m8).tmod (OfNat.ofNat (221 : Nat)))), (.int IntKind.i64 ((↑(1 : Nat) : Int))), (.int IntKind.i64 ((↑(1 : Nat) : Int))), (.int IntKind.i64 (p)), (.int IntKind.i64 ((↑(cntN (undB ((IntKind.i64.wrap m8).tmod (OfNat.ofNat (221 : Nat))) f (lgS false f)) (1 : Nat)) : Int))), (.int IntKind.i64 ((↑(cntN (undB ((IntKind.i64.wrap m8).tmod (OfNat.ofNat (221 : Nat))) f (lgS true f)) (1 : Nat)) : Int)))], [⟨((1 : Nat)), ((1 : Nat))⟩, ⟨((1 : Nat)), ((1 : Nat))⟩, ⟨((1 : Nat)), ((1 : Nat))⟩, ⟨((1 : Nat)), (c)⟩, ⟨((1 : Nat)), (c)⟩]⟩, [[(.int IntKind.i64 ((f (0 : Nat)).at_)), (.int IntKind.i64 ((f (0 : Nat)).place)), (.int IntKind.i64 ((f (0 : Nat)).lo)), (.int IntKind.i64 ((f (0 : Nat)).hi))], [(.int IntKind.i64 (planG k bs (0 : Nat)))], [(.int IntKind.i64 (lgS false f (0 : Nat)))], [(.int IntKind.i64 (lgS true f (0 : Nat)))]], []⟩) ∧ 
((ConNOK Try.prog ((14 : Nat)) (C14 p (1 : Nat) c (1 : Nat) (1 : Nat) f (planG k bs) (lgS false f))) ∧ (ConN.pre (C14 p (1 : Nat) c (1 : Nat) (1 : Nat) f (planG k bs) (lgS false f)) ⟨⟨[(.int IntKind.i64 (p))], [⟨((1 : Nat)), (c)⟩, ⟨((1 : Nat)), ((1 : Nat))⟩, ⟨((1 : Nat)), ((1 : Nat))⟩]⟩, [[(.int IntKind.i64 ((f (0 : Nat)).at_)), (.int IntKind.i64 ((f (0 : Nat)).place)), (.int IntKind.i64 ((f (0 : Nat)).lo)), (.int IntKind.i64 ((f (0 : Nat)).hi))], [(.int IntKind.i64 (planG k bs (0 : Nat)))], [(.int IntKind.i64 (lgS false f (0 : Nat)))]]⟩) ∧ 
((((((2 : Nat) ≤ (2 : Nat))) ∧ (((.agg ⟨[(.int IntKind.i64 (p)), (.slice (.some ⟨((0 : Nat)), ((0 : Nat)), .none⟩) ((1 : Nat)) (c))]⟩) : Value) = (.agg ⟨[(.int IntKind.i64 (p)), (.slice (.some ⟨((0 : Nat)), ((0 : Nat)), .none⟩) ((1 : Nat)) (c))]⟩))) ∧ (True)) ∧ 
((ConNOK Try.prog ((14 : Nat)) (C14 p (1 : Nat) c (1 : Nat) (1 : Nat) f (planG k bs) (lgS true f))) ∧ (ConN.pre (C14 p (1 : Nat) c (1 : Nat) (1 : Nat) f (planG k bs) (lgS true f)) ⟨⟨[(.int IntKind.i64 (p))], [⟨((1 : Nat)), (c)⟩, ⟨((1 : Nat)), ((1 : Nat))⟩, ⟨((1 : Nat)), ((1 : Nat))⟩]⟩, [[(.int IntKind.i64 ((f (0 : Nat)).at_)), (.int IntKind.i64 ((f (0 : Nat)).place)), (.int IntKind.i64 ((f (0 : Nat)).lo)), (.int IntKind.i64 ((f (0 : Nat)).hi))], [(.int IntKind.i64 (planG k bs (0 : Nat)))], [(.int IntKind.i64 (lgS true f (0 : Nat)))]]⟩) ∧ 
((ConNOK Try.prog ((15 : Nat)) (C15 p (1 : Nat) c (1 : Nat) f (planG k bs))) ∧ (ConN.pre (C15 p (1 : Nat) c (1 : Nat) f (planG k bs)) ⟨⟨[(.int IntKind.i64 (p))], [⟨((1 : Nat)), (c)⟩, ⟨((1 : Nat)), ((1 : Nat))⟩]⟩, [[(.int IntKind.i64 ((f (0 : Nat)).at_)), (.int IntKind.i64 ((f (0 : Nat)).place)), (.int IntKind.i64 ((f (0 : Nat)).lo)), (.int IntKind.i64 ((f (0 : Nat)).hi))], [(.int IntKind.i64 (planG k bs (0 : Nat)))]]⟩) ∧ 
((ConOK Try.prog ((19 : Nat)) (C19 p ((IntKind.i64.wrap m8).tmod (OfNat.ofNat (221 : Nat))) (1 : Nat) c f   (busyV ((IntKind.i64.wrap m8).tmod (OfNat.ofNat (221 : Nat))) (1 : Nat) f))) ∧ (Con.pre (C19 p ((IntKind.i64.wrap m8).tmod (OfNat.ofNat (221 : Nat))) (1 : Nat) c f   (busyV ((IntKind.i64.wrap m8).tmod (OfNat.ofNat (221 : Nat))) (1 : Nat) f)) ⟨⟨[(.int IntKind.i64 (p)), (.int IntKind.i64 ((IntKind.i64.wrap m8).tmod (OfNat.ofNat (221 : Nat))))], [⟨((1 : Nat)), (c)⟩]⟩, [[(.int IntKind.i64 ((f (0 : Nat)).at_)), (.int IntKind.i64 ((f (0 : Nat)).place)), (.int IntKind.i64 ((f (0 : Nat)).lo)), (.int IntKind.i64 ((f (0 : Nat)).hi))]]⟩) ∧ 
(((!((↑(cntN (undB ((IntKind.i64.wrap m8).tmod (OfNat.ofNat (221 : Nat))) f (lgS false f)) (1 : Nat)) : Int) ==       (↑(cntN (undB ((IntKind.i64.wrap m8).tmod (OfNat.ofNat (221 : Nat))) f (lgS false f)) (1 : Nat)) : Int) &&     (fun c =>         (↑(cntN (undB ((IntKind.i64.wrap m8).tmod (OfNat.ofNat (221 : Nat))) f (lgS true f)) (1 : Nat)) : Int) ==             (↑(cntN (undB ((IntKind.i64.wrap m8).tmod (OfNat.ofNat (221 : Nat))) f (lgS true f)) (1 : Nat)) : Int) &&           c)       true)) = true → R (.ret (.bool false))) ∧
((!((↑(cntN (undB ((IntKind.i64.wrap m8).tmod (OfNat.ofNat (221 : Nat))) f (lgS false f)) (1 : Nat)) : Int) ==       (↑(cntN (undB ((IntKind.i64.wrap m8).tmod (OfNat.ofNat (221 : Nat))) f (lgS false f)) (1 : Nat)) : Int) &&     (fun c =>         (↑(cntN (undB ((IntKind.i64.wrap m8).tmod (OfNat.ofNat (221 : Nat))) f (lgS true f)) (1 : Nat)) : Int) ==             (↑(cntN (undB ((IntKind.i64.wrap m8).tmod (OfNat.ofNat (221 : Nat))) f (lgS true f)) (1 : Nat)) : Int) &&           c)       true)) = false → ((ClW ⟨⟨[(.int IntKind.i64 ((↑(1 : Nat) : Int))), (.int IntKind.i64 ((0 : Int))), (.int IntKind.i64 (p))], [⟨((1 : Nat)), ((1 : Nat))⟩, ⟨((1 : Nat)), ((1 : Nat))⟩, ⟨((1 : Nat)), ((1 : Nat))⟩, ⟨((1 : Nat)), ((1 : Nat))⟩, ⟨((1 : Nat)), (c)⟩, ⟨((1 : Nat)), (c)⟩]⟩, [[(.int IntKind.i64 ((f (0 : Nat)).at_)), (.int IntKind.i64 ((f (0 : Nat)).place)), (.int IntKind.i64 ((f (0 : Nat)).lo)), (.int IntKind.i64 ((f (0 : Nat)).hi))], [(.int IntKind.i64 (planG k bs (0 : Nat)))], [(.int IntKind.i64 (begS p (1 : Nat) f (planG k bs) (lgS false f) (0 : Nat)))], [(.int IntKind.i64 (begS p (1 : Nat) f (planG k bs) (lgS true f) (0 : Nat)))], [(.int IntKind.i64 (latS false p (1 : Nat) f (planG k bs) (0 : Nat))), (.int IntKind.i64 (latS true p (1 : Nat) f (planG k bs) (0 : Nat)))]], []⟩) ∧ (LoopOW Try.prog .none p4c (T4c) ⟨⟨[(.int IntKind.i64 ((↑(1 : Nat) : Int))), (.int IntKind.i64 ((0 : Int))), (.int IntKind.i64 (p))], [⟨((1 : Nat)), ((1 : Nat))⟩, ⟨((1 : Nat)), ((1 : Nat))⟩, ⟨((1 : Nat)), ((1 : Nat))⟩, ⟨((1 : Nat)), ((1 : Nat))⟩, ⟨((1 : Nat)), (c)⟩, ⟨((1 : Nat)), (c)⟩]⟩, [[(.int IntKind.i64 ((f (0 : Nat)).at_)), (.int IntKind.i64 ((f (0 : Nat)).place)), (.int IntKind.i64 ((f (0 : Nat)).lo)), (.int IntKind.i64 ((f (0 : Nat)).hi))], [(.int IntKind.i64 (planG k bs (0 : Nat)))], [(.int IntKind.i64 (begS p (1 : Nat) f (planG k bs) (lgS false f) (0 : Nat)))], [(.int IntKind.i64 (begS p (1 : Nat) f (planG k bs) (lgS true f) (0 : Nat)))], [(.int IntKind.i64 (latS false p (1 : Nat) f (planG k bs) (0 : Nat))), (.int IntKind.i64 (latS true p (1 : Nat) f (planG k bs) (0 : Nat)))]], []⟩ (.exit ((2 : Nat))) (T4c) ⟨⟨[(.int IntKind.i64 ((↑(1 : Nat) : Int))), (.int IntKind.i64 ((↑(1 : Nat) : Int))), (.int IntKind.i64 (p))], [⟨((1 : Nat)), ((1 : Nat))⟩, ⟨((1 : Nat)), ((1 : Nat))⟩, ⟨((1 : Nat)), ((1 : Nat))⟩, ⟨((1 : Nat)), ((1 : Nat))⟩, ⟨((1 : Nat)), (c)⟩, ⟨((1 : Nat)), (c)⟩]⟩, [[(.int IntKind.i64 ((f (0 : Nat)).at_)), (.int IntKind.i64 ((f (0 : Nat)).place)), (.int IntKind.i64 ((f (0 : Nat)).lo)), (.int IntKind.i64 ((f (0 : Nat)).hi))], [(.int IntKind.i64 (planG k bs (0 : Nat)))], [(.int IntKind.i64 (begS p (1 : Nat) f (planG k bs) (lgS false f) (0 : Nat)))], [(.int IntKind.i64 (begS p (1 : Nat) f (planG k bs) (lgS true f) (0 : Nat)))], [(.int IntKind.i64 (latS false p (1 : Nat) f (planG k bs) (0 : Nat))), (.int IntKind.i64 (latS true p (1 : Nat) f (planG k bs) (0 : Nat)))]], []⟩) ∧ 
((ConOK Try.prog ((15 : Nat)) (C15e p (1 : Nat) c (2 : Nat) (2 : Nat) f (consF (0 : Int) (planG k bs))   [Value.int IntKind.i64 (0 : Int), Value.int IntKind.i64 (planG k bs (0 : Nat))])) ∧ (Con.pre (C15e p (1 : Nat) c (2 : Nat) (2 : Nat) f (consF (0 : Int) (planG k bs))   [Value.int IntKind.i64 (0 : Int), Value.int IntKind.i64 (planG k bs (0 : Nat))]) ⟨⟨[(.int IntKind.i64 (p))], [⟨((1 : Nat)), (c)⟩, ⟨((2 : Nat)), ((2 : Nat))⟩]⟩, [[(.int IntKind.i64 ((f (0 : Nat)).at_)), (.int IntKind.i64 ((f (0 : Nat)).place)), (.int IntKind.i64 ((f (0 : Nat)).lo)), (.int IntKind.i64 ((f (0 : Nat)).hi))], [(.int IntKind.i64 ((0 : Int))), (.int IntKind.i64 (planG k bs (0 : Nat)))]]⟩) ∧ 
((ConOK Try.prog ((15 : Nat)) (C15e p (1 : Nat) c (1 : Nat) (1 : Nat) f (consF (-1 : Int) fun i => planG k bs (i + (1 : Nat)))   [Value.int IntKind.i64 (-1 : Int)])) ∧ (Con.pre (C15e p (1 : Nat) c (1 : Nat) (1 : Nat) f (consF (-1 : Int) fun i => planG k bs (i + (1 : Nat)))   [Value.int IntKind.i64 (-1 : Int)]) ⟨⟨[(.int IntKind.i64 (p))], [⟨((1 : Nat)), (c)⟩, ⟨((1 : Nat)), ((1 : Nat))⟩]⟩, [[(.int IntKind.i64 ((f (0 : Nat)).at_)), (.int IntKind.i64 ((f (0 : Nat)).place)), (.int IntKind.i64 ((f (0 : Nat)).lo)), (.int IntKind.i64 ((f (0 : Nat)).hi))], [(.int IntKind.i64 ((-1 : Int)))]]⟩) ∧ 
((ConOK Try.prog ((15 : Nat)) (C15e p (1 : Nat) c (1 : Nat) (1 : Nat) f (consF (7 : Int) fun i => planG k bs (i + (1 : Nat)))   [Value.int IntKind.i64 (7 : Int)])) ∧ (Con.pre (C15e p (1 : Nat) c (1 : Nat) (1 : Nat) f (consF (7 : Int) fun i => planG k bs (i + (1 : Nat)))   [Value.int IntKind.i64 (7 : Int)]) ⟨⟨[(.int IntKind.i64 (p))], [⟨((1 : Nat)), (c)⟩, ⟨((1 : Nat)), ((1 : Nat))⟩]⟩, [[(.int IntKind.i64 ((f (0 : Nat)).at_)), (.int IntKind.i64 ((f (0 : Nat)).place)), (.int IntKind.i64 ((f (0 : Nat)).lo)), (.int IntKind.i64 ((f (0 : Nat)).hi))], [(.int IntKind.i64 ((7 : Int)))]]⟩) ∧ 
((ConOK Try.prog ((18 : Nat)) (C18e p (1 : Nat) c f)) ∧ (Con.pre (C18e p (1 : Nat) c f) ⟨⟨[(.int IntKind.i64 (p)), (.int IntKind.i64 ((↑(1 : Nat) : Int)))], [⟨((1 : Nat)), (c)⟩]⟩, [[(.int IntKind.i64 ((f (0 : Nat)).at_)), (.int IntKind.i64 ((f (0 : Nat)).place)), (.int IntKind.i64 ((f (0 : Nat)).lo)), (.int IntKind.i64 ((f (0 : Nat)).hi))]]⟩) ∧ 
((ConOK Try.prog ((19 : Nat)) (C19 p (221 : Int) (1 : Nat) c f   (Value.tuple { toList := [Value.agg { toList := [I (0 : Int), I (0 : Int)] }, I (2 : Int)] }))) ∧ (Con.pre (C19 p (221 : Int) (1 : Nat) c f   (Value.tuple { toList := [Value.agg { toList := [I (0 : Int), I (0 : Int)] }, I (2 : Int)] })) ⟨⟨[(.int IntKind.i64 (p)), (.int IntKind.i64 ((221 : Int)))], [⟨((1 : Nat)), (c)⟩]⟩, [[(.int IntKind.i64 ((f (0 : Nat)).at_)), (.int IntKind.i64 ((f (0 : Nat)).place)), (.int IntKind.i64 ((f (0 : Nat)).lo)), (.int IntKind.i64 ((f (0 : Nat)).hi))]]⟩) ∧ 
((ConOK Try.prog ((23 : Nat)) (C23e p (1 : Nat) c f)) ∧ (Con.pre (C23e p (1 : Nat) c f) ⟨⟨[(.int IntKind.i64 (p))], [⟨((1 : Nat)), (c)⟩]⟩, [[(.int IntKind.i64 ((f (0 : Nat)).at_)), (.int IntKind.i64 ((f (0 : Nat)).place)), (.int IntKind.i64 ((f (0 : Nat)).lo)), (.int IntKind.i64 ((f (0 : Nat)).hi))]]⟩) ∧ 
((ConOK Try.prog ((12 : Nat)) (C12)) ∧ (Con.pre (C12) ⟨⟨[], []⟩, []⟩) ∧ 
R (.ret (.bool true))))))))))))))))))))) := by kernel_rfl

theorem f4x (p : Int) (n c k d : Nat) (m8 : Int) (f : Nat → Mv) (bs : Nat → Int) (R : ARes → Prop)  : (vx.call 4 [hV p n c, slV 1 k d, U8 m8] (retK R) (m2b (mvs n f) (u8s k bs)) ([(13, .split ((2, Hint.con C12) :: []) ((3, Hint.con ((C21 p n c f).when (ARes.ret (Value.bool false)))) :: (3, Hint.con (C15a p n c f)) :: (6, Hint.con   (C19 p (-1 : Int) n c f (Value.tuple { toList := [Value.agg { toList := [I (0 : Int), I (0 : Int)] }, I (1 : Int)] }))) :: (19, Hint.con C12) :: []))])) =
((((decide ((if (↑(0 : Nat) : Int) > (↑n : Int) then (↑(0 : Nat) : Int) else (↑n : Int)) > (40 : Int))) = true → ((ConOK Try.prog ((12 : Nat)) (C12)) ∧ (Con.pre (C12) ⟨⟨[], []⟩, []⟩) ∧ 
R (.ret (.bool true)))) ∧
((decide ((if (↑(0 : Nat) : Int) > (↑n : Int) then (↑(0 : Nat) : Int) else (↑n : Int)) > (40 : Int))) = false → ((ConOK Try.prog ((21 : Nat)) ((C21 p n c f).when (ARes.ret (Value.bool false)))) ∧ (Con.pre ((C21 p n c f).when (ARes.ret (Value.bool false))) ⟨⟨[(.int IntKind.i64 (p))], [⟨(n), (c)⟩]⟩, [(mvs n f)]⟩) ∧ 
((ConOK Try.prog ((15 : Nat)) (C15a p n c f)) ∧ (Con.pre (C15a p n c f) ⟨⟨[(.int IntKind.i64 (p))], [⟨(n), (c)⟩]⟩, [(mvs n f)]⟩) ∧ 
((ConOK Try.prog ((19 : Nat)) (C19 p (-1 : Int) n c f (Value.tuple { toList := [Value.agg { toList := [I (0 : Int), I (0 : Int)] }, I (1 : Int)] }))) ∧ (Con.pre (C19 p (-1 : Int) n c f (Value.tuple { toList := [Value.agg { toList := [I (0 : Int), I (0 : Int)] }, I (1 : Int)] })) ⟨⟨[(.int IntKind.i64 (p)), (.int IntKind.i64 ((-1 : Int)))], [⟨(n), (c)⟩]⟩, [(mvs n f)]⟩) ∧ 
((ConOK Try.prog ((12 : Nat)) (C12)) ∧ (Con.pre (C12) ⟨⟨[], []⟩, []⟩) ∧ 
R (.ret (.bool true))))))))) := by kernel_rfl

theorem far_no {n : Nat} (h : n ≤ 7) : decide ((if ((0 : Nat) : Int) > (n : Int) then ((0 : Nat) : Int) else (n : Int)) > (40 : Int)) = false := by
  refine decide_eq_false ?_
  split <;> omega
theorem min_mod {m8 : Int} (h : 0 ≤ m8 ∧ m8 < 256) : 0 ≤ (IntKind.i64.wrap m8).tmod 221 ∧ (IntKind.i64.wrap m8).tmod 221 ≤ 220 := by
  rw [wrapI (by omega) (by omega)]
  obtain ⟨m, rfl⟩ := Int.eq_ofNat_of_zero_le h.1
  have e2 : ((m : Nat) : Int).tmod 221 = ((m % 221 : Nat) : Int) := rfl
  have hm := Nat.mod_lt m (show 0 < 221 by omega)
  rw [e2]
  omega
theorem spans_same (a b : Int) : (!(a == a && (fun c => b == b && c) true)) = true → False := by simp
set_option maxHeartbeats 4000000 in
theorem law4 (p : Int) (n c k d : Nat) (m8 : Int) (f : Nat → Mv) (bs : Nat → Int) (h0 : 0 < n) (hn : n ≤ 1000000) (hb : ∀ i, i < k → 0 ≤ bs i ∧ bs i < 256) (hm8 : 0 ≤ m8 ∧ m8 < 256) :
    ∃ hs, vx.call 4 [hV p n c, slV 1 k d, U8 m8] (retK fun r => r = .ret (.bool true)) (m2b (mvs n f) (u8s k bs)) hs := by
  have hwhen : ∀ r, ConOK Try.prog 21 ((C21 p n c f).when r) := fun r => con_when (C21_ok p n c f hn) r
  have key : ∀ R : ARes → Prop, R (.ret (.bool true)) → ∃ hs, vx.call 4 [hV p n c, slV 1 k d, U8 m8] (retK R) (m2b (mvs n f) (u8s k bs)) hs := by
    intro R hR
    cases hok : okH p n f with
    | false =>
      have hr : (C21 p n c f).res ⟨⟨[I p], [(n, c)]⟩, [mvs n f]⟩ = .ret (.bool false) := by show ARes.ret (.bool (okH p n f)) = _; rw [hok]
      refine ⟨_, (f4x p n c k d m8 f bs R).mpr ?_⟩
      repeat' (first | with_reducible apply And.intro | with_reducible intro)
      all_goals first
        | exact C12_ok
        | exact hwhen _
        | exact C15a_ok p n c f hn hok
        | exact C19a_ok p _ n c f hn hok
        | trivial
        | exact hR
        | rfl
        | exact ⟨rfl, hr⟩
        | (exfalso; simp_all; done)
    | true =>
      have hr : (C21 p n c f).res ⟨⟨[I p], [(n, c)]⟩, [mvs n f]⟩ = .ret (.bool true) := by show ARes.ret (.bool (okH p n f)) = _; rw [hok]
      have h7 := (okH_iff hok).n7
      have hpl := plan_ok (n := n) hb
      obtain ⟨ma, mb⟩ := min_mod hm8
      have hl4a := loop4a (a := (IntKind.i64.wrap m8).tmod 221) (c := c) (ps := ints n (planG k bs)) h0 hok (ints_atom n _)
      have hc4a := st4a_cl p ((IntKind.i64.wrap m8).tmod 221) n c f (ints_atom n (planG k bs)) 0
      have hl4c := loop4c (c := c) (g := planG k bs) hok
      have hc4c := h4c_cl (p := p) (n := n) (f := f) (c := c) (i := 0) (g := planG k bs)
      by_cases h1 : n = 1
      · subst h1
        refine ⟨_, (f4s1 p c k d m8 f bs R).mpr ?_⟩
        repeat' (first | with_reducible apply And.intro | with_reducible intro)
        all_goals first
          | exact hwhen _
          | exact ⟨rfl, hr⟩
          | exact C13_ok p 1 c k d f bs h0 hn
          | exact hc4a
          | exact hl4a
          | exact C14_ok p 1 c 1 1 f _ _ hok (lgS_le hok _)
          | exact C15_ok p 1 c 1 f _ h0 hok hpl
          | exact C19_ok p _ 1 c f hok ma mb
          | exact hc4c
          | exact hl4c
          | exact C15e_ok p 1 c 2 2 f (consF 0 (planG k bs)) _ rfl (by omega) hok (okP_bad0 1 _)
          | exact C15e_ok p 1 c 1 1 f (consF (-1) _) _ rfl (by omega) hok (okP_first (k := 0) _ rfl)
          | exact C15e_ok p 1 c 1 1 f (consF 7 _) _ rfl (by omega) hok (okP_first (k := 0) _ rfl)
          | exact C18e_ok p 1 c f hok
          | exact C19e_ok p 221 1 c f hok (by omega)
          | exact C23e_ok p 1 c f hok
          | exact C12_ok
          | trivial
          | exact hR
          | omega
          | rfl
          | (exfalso; exact spans_same _ _ ‹_›)
      · have hmn : (if (n : Int) < (1 : Int) then (n : Int) else (1 : Int)) = 1 := by rw [if_neg (by omega)]
        simp only [st4a, if_neg (show ¬ n = 0 by omega), if_true] at hl4a hc4a
        refine ⟨_, (f4s p n c k d m8 f bs R).mpr ?_⟩
        repeat' (first | with_reducible apply And.intro | with_reducible intro)
        all_goals first
          | (rw [far_no h7]; done)
          | exact hwhen _
          | exact ⟨rfl, hr⟩
          | exact C13_ok p n c k d f bs h0 hn
          | exact hc4a
          | exact hl4a
          | exact C14_ok p n c n n f _ _ hok (lgS_le hok _)
          | exact C15_ok p n c n f _ h0 hok hpl
          | exact C19_ok p _ n c f hok ma mb
          | exact hc4c
          | exact hl4c
          | exact C15b0_ok p n c _ f _ hok
          | exact C15b1_ok _ p n c _ f _ h0 rfl hok
          | exact C18e_ok p n c f hok
          | exact C19e_ok p 221 n c f hok (by omega)
          | exact C23e_ok p n c f hok
          | exact C12_ok
          | trivial
          | exact hR
          | omega
          | rfl
          | exact ints_one n _ _ _
          | (rw [hmn]; omega)
          | (rw [ints_len]; omega)
          | (rw [ints_len, hmn]; omega)
          | (rw [bne_self_eq_false]; done)
          | (change (_ : Hx) = _; kernel_rfl)
          | (exfalso; exact spans_same _ _ ‹_›)
  exact key _ rfl
end Go.Ab

