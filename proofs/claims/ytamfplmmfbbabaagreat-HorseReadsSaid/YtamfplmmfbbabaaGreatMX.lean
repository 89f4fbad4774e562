/- the document's words: Begin: its loop. -/
import Derived.Test.YtamfplmmfbbabaaGreatMW
set_option maxRecDepth 100000
namespace Go.Ab
open Go Go.RowKit Go.Proofs
theorem b48n (p : Int) (sl : Bool) (i kk n c k d : Nat) (ms ps : List Value) (f : Nat → Mv) (g : Nat → Int) (R : Nat → AExit → Hw → Prop)  : (vx.code none (.l p48z) (leafW [T48z] R) (T48z.inst ⟨⟨[I i, .bool sl, I (-1), I kk, I p], [(k, d), (n, c)]⟩, [ms, ps], []⟩) ([(3, .split ((3, .val (.pointer (.some ⟨((1 : Nat)), ((0 : Nat) + kk * (1 : Nat)), .none⟩))) :: (0, .val (.int IntKind.i64 (g kk))) :: (2, .val (.pointer (.some ⟨((1 : Nat)), ((0 : Nat) + i * (1 : Nat)), .none⟩))) :: (0, .val (.int IntKind.i64 (g i))) :: [(0, .split ((10, .val (.pointer (.some ⟨((0 : Nat)), ((0 : Nat) + kk * (4 : Nat)), .none⟩))) :: (1, .val (.int IntKind.i64 ((f kk).at_))) :: (3, .val (.pointer (.some ⟨((0 : Nat)), ((0 : Nat) + i * (4 : Nat)), .none⟩))) :: (1, .val (.int IntKind.i64 ((f i).at_))) :: [(0, .split ([(16, Hint.tm (0 : Nat) [])]) ((4, .val (.pointer (.some ⟨((0 : Nat)), ((0 : Nat) + kk * (4 : Nat)), .none⟩))) :: (1, .val (.int IntKind.i64 ((f kk).at_))) :: (3, .val (.pointer (.some ⟨((0 : Nat)), ((0 : Nat) + i * (4 : Nat)), .none⟩))) :: (1, .val (.int IntKind.i64 ((f i).at_))) :: [(0, .split ([(3, .split ([(16, Hint.tm (0 : Nat) [])]) ([(10, Hint.tm (0 : Nat) [])]))]) ([(11, Hint.tm (0 : Nat) [])]))]))]) ([(8, Hint.tm (0 : Nat) [])]))]) ([(1, Hint.tm (0 : Nat) [])]))])) =
((((decide ((↑kk : Int) < (↑k : Int))) = true → ((((((0 : Int) ≤ (↑kk : Int))) ∧ (((↑kk : Int) < (↑k : Int)))) ∧ (((.pointer (.some ⟨((1 : Nat)), ((0 : Nat) + kk * (1 : Nat)), .none⟩)) : Value) = (.pointer (.some ⟨((1 : Nat)), ((0 : Nat) + kk * (1 : Nat)), .none⟩)))) ∧
(((ps[(0 : Nat) + kk * (1 : Nat)]? = some (.int IntKind.i64 (g kk)))) ∧
((((((0 : Int) ≤ (↑i : Int))) ∧ (((↑i : Int) < (↑k : Int)))) ∧ (((.pointer (.some ⟨((1 : Nat)), ((0 : Nat) + i * (1 : Nat)), .none⟩)) : Value) = (.pointer (.some ⟨((1 : Nat)), ((0 : Nat) + i * (1 : Nat)), .none⟩)))) ∧
(((ps[(0 : Nat) + i * (1 : Nat)]? = some (.int IntKind.i64 (g i)))) ∧
(((g kk == g i) = true → ((((((0 : Int) ≤ (↑kk : Int))) ∧ (((↑kk : Int) < (↑n : Int)))) ∧ (((.pointer (.some ⟨((0 : Nat)), ((0 : Nat) + kk * (4 : Nat)), .none⟩)) : Value) = (.pointer (.some ⟨((0 : Nat)), ((0 : Nat) + kk * (4 : Nat)), .none⟩)))) ∧
(((ms[(0 : Nat) + kk * (4 : Nat) + (0 : Nat)]? = some (.int IntKind.i64 ((f kk).at_)))) ∧
((((((0 : Int) ≤ (↑i : Int))) ∧ (((↑i : Int) < (↑n : Int)))) ∧ (((.pointer (.some ⟨((0 : Nat)), ((0 : Nat) + i * (4 : Nat)), .none⟩)) : Value) = (.pointer (.some ⟨((0 : Nat)), ((0 : Nat) + i * (4 : Nat)), .none⟩)))) ∧
(((ms[(0 : Nat) + i * (4 : Nat) + (0 : Nat)]? = some (.int IntKind.i64 ((f i).at_)))) ∧
(((decide ((f kk).at_ < (f i).at_)) = true → R ((0 : Nat)) .normal ⟨⟨[(.int IntKind.i64 ((↑i : Int))), (.bool (sl)), (.int IntKind.i64 ((↑kk : Int))), (.int IntKind.i64 (IntKind.i64.wrap ((↑kk : Int) + (1 : Int)))), (.int IntKind.i64 (p))], [⟨(k), (d)⟩, ⟨(n), (c)⟩]⟩, [(ms), (ps)], []⟩) ∧
((decide ((f kk).at_ < (f i).at_)) = false → ((((((0 : Int) ≤ (↑kk : Int))) ∧ (((↑kk : Int) < (↑n : Int)))) ∧ (((.pointer (.some ⟨((0 : Nat)), ((0 : Nat) + kk * (4 : Nat)), .none⟩)) : Value) = (.pointer (.some ⟨((0 : Nat)), ((0 : Nat) + kk * (4 : Nat)), .none⟩)))) ∧
(((ms[(0 : Nat) + kk * (4 : Nat) + (0 : Nat)]? = some (.int IntKind.i64 ((f kk).at_)))) ∧
((((((0 : Int) ≤ (↑i : Int))) ∧ (((↑i : Int) < (↑n : Int)))) ∧ (((.pointer (.some ⟨((0 : Nat)), ((0 : Nat) + i * (4 : Nat)), .none⟩)) : Value) = (.pointer (.some ⟨((0 : Nat)), ((0 : Nat) + i * (4 : Nat)), .none⟩)))) ∧
(((ms[(0 : Nat) + i * (4 : Nat) + (0 : Nat)]? = some (.int IntKind.i64 ((f i).at_)))) ∧
((((f kk).at_ == (f i).at_) = true → (((decide ((↑kk : Int) < (↑i : Int))) = true → R ((0 : Nat)) .normal ⟨⟨[(.int IntKind.i64 ((↑i : Int))), (.bool (sl)), (.int IntKind.i64 ((↑kk : Int))), (.int IntKind.i64 (IntKind.i64.wrap ((↑kk : Int) + (1 : Int)))), (.int IntKind.i64 (p))], [⟨(k), (d)⟩, ⟨(n), (c)⟩]⟩, [(ms), (ps)], []⟩) ∧
((decide ((↑kk : Int) < (↑i : Int))) = false → R ((0 : Nat)) .normal ⟨⟨[(.int IntKind.i64 ((↑i : Int))), (.bool (sl)), (.int IntKind.i64 ((-1 : Int))), (.int IntKind.i64 (IntKind.i64.wrap ((↑kk : Int) + (1 : Int)))), (.int IntKind.i64 (p))], [⟨(k), (d)⟩, ⟨(n), (c)⟩]⟩, [(ms), (ps)], []⟩))) ∧
(((f kk).at_ == (f i).at_) = false → R ((0 : Nat)) .normal ⟨⟨[(.int IntKind.i64 ((↑i : Int))), (.bool (sl)), (.int IntKind.i64 ((-1 : Int))), (.int IntKind.i64 (IntKind.i64.wrap ((↑kk : Int) + (1 : Int)))), (.int IntKind.i64 (p))], [⟨(k), (d)⟩, ⟨(n), (c)⟩]⟩, [(ms), (ps)], []⟩))))))))))))) ∧
((g kk == g i) = false → R ((0 : Nat)) .normal ⟨⟨[(.int IntKind.i64 ((↑i : Int))), (.bool (sl)), (.int IntKind.i64 ((-1 : Int))), (.int IntKind.i64 (IntKind.i64.wrap ((↑kk : Int) + (1 : Int)))), (.int IntKind.i64 (p))], [⟨(k), (d)⟩, ⟨(n), (c)⟩]⟩, [(ms), (ps)], []⟩))))))) ∧
((decide ((↑kk : Int) < (↑k : Int))) = false → R ((0 : Nat)) (.exit ((0 : Nat))) ⟨⟨[(.int IntKind.i64 ((↑i : Int))), (.bool (sl)), (.int IntKind.i64 ((-1 : Int))), (.int IntKind.i64 ((↑kk : Int))), (.int IntKind.i64 (p))], [⟨(k), (d)⟩, ⟨(n), (c)⟩]⟩, [(ms), (ps)], []⟩))) := by kernel_rfl

theorem b48s (p : Int) (sl : Bool) (i l kk n c k d : Nat) (ms ps : List Value) (f : Nat → Mv) (g : Nat → Int) (R : Nat → AExit → Hw → Prop)  : (vx.code none (.l p48z) (leafW [T48z] R) (T48z.inst ⟨⟨[I i, .bool sl, I l, I kk, I p], [(k, d), (n, c)]⟩, [ms, ps], []⟩) ([(3, .split ((3, .val (.pointer (.some ⟨((1 : Nat)), ((0 : Nat) + kk * (1 : Nat)), .none⟩))) :: (0, .val (.int IntKind.i64 (g kk))) :: (2, .val (.pointer (.some ⟨((1 : Nat)), ((0 : Nat) + i * (1 : Nat)), .none⟩))) :: (0, .val (.int IntKind.i64 (g i))) :: [(0, .split ((10, .val (.pointer (.some ⟨((0 : Nat)), ((0 : Nat) + kk * (4 : Nat)), .none⟩))) :: (1, .val (.int IntKind.i64 ((f kk).at_))) :: (3, .val (.pointer (.some ⟨((0 : Nat)), ((0 : Nat) + i * (4 : Nat)), .none⟩))) :: (1, .val (.int IntKind.i64 ((f i).at_))) :: [(0, .split ((17, .val (.pointer (.some ⟨((0 : Nat)), ((0 : Nat) + l * (4 : Nat)), .none⟩))) :: (1, .val (.int IntKind.i64 ((f l).at_))) :: (3, .val (.pointer (.some ⟨((0 : Nat)), ((0 : Nat) + kk * (4 : Nat)), .none⟩))) :: (1, .val (.int IntKind.i64 ((f kk).at_))) :: [(0, .split ([(11, Hint.tm (0 : Nat) [])]) ((4, .val (.pointer (.some ⟨((0 : Nat)), ((0 : Nat) + l * (4 : Nat)), .none⟩))) :: (1, .val (.int IntKind.i64 ((f l).at_))) :: (3, .val (.pointer (.some ⟨((0 : Nat)), ((0 : Nat) + kk * (4 : Nat)), .none⟩))) :: (1, .val (.int IntKind.i64 ((f kk).at_))) :: [(0, .split ([(3, .split ([(11, Hint.tm (0 : Nat) [])]) ([(9, Hint.tm (0 : Nat) [])]))]) ([(10, Hint.tm (0 : Nat) [])]))]))]) ((4, .val (.pointer (.some ⟨((0 : Nat)), ((0 : Nat) + kk * (4 : Nat)), .none⟩))) :: (1, .val (.int IntKind.i64 ((f kk).at_))) :: (3, .val (.pointer (.some ⟨((0 : Nat)), ((0 : Nat) + i * (4 : Nat)), .none⟩))) :: (1, .val (.int IntKind.i64 ((f i).at_))) :: [(0, .split ([(3, .split ((17, .val (.pointer (.some ⟨((0 : Nat)), ((0 : Nat) + l * (4 : Nat)), .none⟩))) :: (1, .val (.int IntKind.i64 ((f l).at_))) :: (3, .val (.pointer (.some ⟨((0 : Nat)), ((0 : Nat) + kk * (4 : Nat)), .none⟩))) :: (1, .val (.int IntKind.i64 ((f kk).at_))) :: [(0, .split ([(11, Hint.tm (0 : Nat) [])]) ((4, .val (.pointer (.some ⟨((0 : Nat)), ((0 : Nat) + l * (4 : Nat)), .none⟩))) :: (1, .val (.int IntKind.i64 ((f l).at_))) :: (3, .val (.pointer (.some ⟨((0 : Nat)), ((0 : Nat) + kk * (4 : Nat)), .none⟩))) :: (1, .val (.int IntKind.i64 ((f kk).at_))) :: [(0, .split ([(3, .split ([(11, Hint.tm (0 : Nat) [])]) ([(9, Hint.tm (0 : Nat) [])]))]) ([(10, Hint.tm (0 : Nat) [])]))]))]) ([(10, Hint.tm (0 : Nat) [])]))]) ([(11, Hint.tm (0 : Nat) [])]))]))]) ([(8, Hint.tm (0 : Nat) [])]))]) ([(1, Hint.tm (0 : Nat) [])]))])) =
((((decide ((↑kk : Int) < (↑k : Int))) = true → ((((((0 : Int) ≤ (↑kk : Int))) ∧ (((↑kk : Int) < (↑k : Int)))) ∧ (((.pointer (.some ⟨((1 : Nat)), ((0 : Nat) + kk * (1 : Nat)), .none⟩)) : Value) = (.pointer (.some ⟨((1 : Nat)), ((0 : Nat) + kk * (1 : Nat)), .none⟩)))) ∧
(((ps[(0 : Nat) + kk * (1 : Nat)]? = some (.int IntKind.i64 (g kk)))) ∧
((((((0 : Int) ≤ (↑i : Int))) ∧ (((↑i : Int) < (↑k : Int)))) ∧ (((.pointer (.some ⟨((1 : Nat)), ((0 : Nat) + i * (1 : Nat)), .none⟩)) : Value) = (.pointer (.some ⟨((1 : Nat)), ((0 : Nat) + i * (1 : Nat)), .none⟩)))) ∧
(((ps[(0 : Nat) + i * (1 : Nat)]? = some (.int IntKind.i64 (g i)))) ∧
(((g kk == g i) = true → ((((((0 : Int) ≤ (↑kk : Int))) ∧ (((↑kk : Int) < (↑n : Int)))) ∧ (((.pointer (.some ⟨((0 : Nat)), ((0 : Nat) + kk * (4 : Nat)), .none⟩)) : Value) = (.pointer (.some ⟨((0 : Nat)), ((0 : Nat) + kk * (4 : Nat)), .none⟩)))) ∧
(((ms[(0 : Nat) + kk * (4 : Nat) + (0 : Nat)]? = some (.int IntKind.i64 ((f kk).at_)))) ∧
((((((0 : Int) ≤ (↑i : Int))) ∧ (((↑i : Int) < (↑n : Int)))) ∧ (((.pointer (.some ⟨((0 : Nat)), ((0 : Nat) + i * (4 : Nat)), .none⟩)) : Value) = (.pointer (.some ⟨((0 : Nat)), ((0 : Nat) + i * (4 : Nat)), .none⟩)))) ∧
(((ms[(0 : Nat) + i * (4 : Nat) + (0 : Nat)]? = some (.int IntKind.i64 ((f i).at_)))) ∧
(((decide ((f kk).at_ < (f i).at_)) = true → ((((((0 : Int) ≤ (↑l : Int))) ∧ (((↑l : Int) < (↑n : Int)))) ∧ (((.pointer (.some ⟨((0 : Nat)), ((0 : Nat) + l * (4 : Nat)), .none⟩)) : Value) = (.pointer (.some ⟨((0 : Nat)), ((0 : Nat) + l * (4 : Nat)), .none⟩)))) ∧
(((ms[(0 : Nat) + l * (4 : Nat) + (0 : Nat)]? = some (.int IntKind.i64 ((f l).at_)))) ∧
((((((0 : Int) ≤ (↑kk : Int))) ∧ (((↑kk : Int) < (↑n : Int)))) ∧ (((.pointer (.some ⟨((0 : Nat)), ((0 : Nat) + kk * (4 : Nat)), .none⟩)) : Value) = (.pointer (.some ⟨((0 : Nat)), ((0 : Nat) + kk * (4 : Nat)), .none⟩)))) ∧
(((ms[(0 : Nat) + kk * (4 : Nat) + (0 : Nat)]? = some (.int IntKind.i64 ((f kk).at_)))) ∧
(((decide ((f l).at_ < (f kk).at_)) = true → R ((0 : Nat)) .normal ⟨⟨[(.int IntKind.i64 ((↑i : Int))), (.bool (sl)), (.int IntKind.i64 ((↑kk : Int))), (.int IntKind.i64 (IntKind.i64.wrap ((↑kk : Int) + (1 : Int)))), (.int IntKind.i64 (p))], [⟨(k), (d)⟩, ⟨(n), (c)⟩]⟩, [(ms), (ps)], []⟩) ∧
((decide ((f l).at_ < (f kk).at_)) = false → ((((((0 : Int) ≤ (↑l : Int))) ∧ (((↑l : Int) < (↑n : Int)))) ∧ (((.pointer (.some ⟨((0 : Nat)), ((0 : Nat) + l * (4 : Nat)), .none⟩)) : Value) = (.pointer (.some ⟨((0 : Nat)), ((0 : Nat) + l * (4 : Nat)), .none⟩)))) ∧
(((ms[(0 : Nat) + l * (4 : Nat) + (0 : Nat)]? = some (.int IntKind.i64 ((f l).at_)))) ∧
((((((0 : Int) ≤ (↑kk : Int))) ∧ (((↑kk : Int) < (↑n : Int)))) ∧ (((.pointer (.some ⟨((0 : Nat)), ((0 : Nat) + kk * (4 : Nat)), .none⟩)) : Value) = (.pointer (.some ⟨((0 : Nat)), ((0 : Nat) + kk * (4 : Nat)), .none⟩)))) ∧
(((ms[(0 : Nat) + kk * (4 : Nat) + (0 : Nat)]? = some (.int IntKind.i64 ((f kk).at_)))) ∧
((((f l).at_ == (f kk).at_) = true → (((decide ((↑l : Int) < (↑kk : Int))) = true → R ((0 : Nat)) .normal ⟨⟨[(.int IntKind.i64 ((↑i : Int))), (.bool (sl)), (.int IntKind.i64 ((↑kk : Int))), (.int IntKind.i64 (IntKind.i64.wrap ((↑kk : Int) + (1 : Int)))), (.int IntKind.i64 (p))], [⟨(k), (d)⟩, ⟨(n), (c)⟩]⟩, [(ms), (ps)], []⟩) ∧
((decide ((↑l : Int) < (↑kk : Int))) = false → R ((0 : Nat)) .normal ⟨⟨[(.int IntKind.i64 ((↑i : Int))), (.bool (sl)), (.int IntKind.i64 ((↑l : Int))), (.int IntKind.i64 (IntKind.i64.wrap ((↑kk : Int) + (1 : Int)))), (.int IntKind.i64 (p))], [⟨(k), (d)⟩, ⟨(n), (c)⟩]⟩, [(ms), (ps)], []⟩))) ∧
(((f l).at_ == (f kk).at_) = false → R ((0 : Nat)) .normal ⟨⟨[(.int IntKind.i64 ((↑i : Int))), (.bool (sl)), (.int IntKind.i64 ((↑l : Int))), (.int IntKind.i64 (IntKind.i64.wrap ((↑kk : Int) + (1 : Int)))), (.int IntKind.i64 (p))], [⟨(k), (d)⟩, ⟨(n), (c)⟩]⟩, [(ms), (ps)], []⟩))))))))))))) ∧
((decide ((f kk).at_ < (f i).at_)) = false → ((((((0 : Int) ≤ (↑kk : Int))) ∧ (((↑kk : Int) < (↑n : Int)))) ∧ (((.pointer (.some ⟨((0 : Nat)), ((0 : Nat) + kk * (4 : Nat)), .none⟩)) : Value) = (.pointer (.some ⟨((0 : Nat)), ((0 : Nat) + kk * (4 : Nat)), .none⟩)))) ∧
(((ms[(0 : Nat) + kk * (4 : Nat) + (0 : Nat)]? = some (.int IntKind.i64 ((f kk).at_)))) ∧
((((((0 : Int) ≤ (↑i : Int))) ∧ (((↑i : Int) < (↑n : Int)))) ∧ (((.pointer (.some ⟨((0 : Nat)), ((0 : Nat) + i * (4 : Nat)), .none⟩)) : Value) = (.pointer (.some ⟨((0 : Nat)), ((0 : Nat) + i * (4 : Nat)), .none⟩)))) ∧
(((ms[(0 : Nat) + i * (4 : Nat) + (0 : Nat)]? = some (.int IntKind.i64 ((f i).at_)))) ∧
((((f kk).at_ == (f i).at_) = true → (((decide ((↑kk : Int) < (↑i : Int))) = true → ((((((0 : Int) ≤ (↑l : Int))) ∧ (((↑l : Int) < (↑n : Int)))) ∧ (((.pointer (.some ⟨((0 : Nat)), ((0 : Nat) + l * (4 : Nat)), .none⟩)) : Value) = (.pointer (.some ⟨((0 : Nat)), ((0 : Nat) + l * (4 : Nat)), .none⟩)))) ∧
(((ms[(0 : Nat) + l * (4 : Nat) + (0 : Nat)]? = some (.int IntKind.i64 ((f l).at_)))) ∧
((((((0 : Int) ≤ (↑kk : Int))) ∧ (((↑kk : Int) < (↑n : Int)))) ∧ (((.pointer (.some ⟨((0 : Nat)), ((0 : Nat) + kk * (4 : Nat)), .none⟩)) : Value) = (.pointer (.some ⟨((0 : Nat)), ((0 : Nat) + kk * (4 : Nat)), .none⟩)))) ∧
(((ms[(0 : Nat) + kk * (4 : Nat) + (0 : Nat)]? = some (.int IntKind.i64 ((f kk).at_)))) ∧
(((decide ((f l).at_ < (f kk).at_)) = true → R ((0 : Nat)) .normal ⟨⟨[(.int IntKind.i64 ((↑i : Int))), (.bool (sl)), (.int IntKind.i64 ((↑kk : Int))), (.int IntKind.i64 (IntKind.i64.wrap ((↑kk : Int) + (1 : Int)))), (.int IntKind.i64 (p))], [⟨(k), (d)⟩, ⟨(n), (c)⟩]⟩, [(ms), (ps)], []⟩) ∧
((decide ((f l).at_ < (f kk).at_)) = false → ((((((0 : Int) ≤ (↑l : Int))) ∧ (((↑l : Int) < (↑n : Int)))) ∧ (((.pointer (.some ⟨((0 : Nat)), ((0 : Nat) + l * (4 : Nat)), .none⟩)) : Value) = (.pointer (.some ⟨((0 : Nat)), ((0 : Nat) + l * (4 : Nat)), .none⟩)))) ∧
(((ms[(0 : Nat) + l * (4 : Nat) + (0 : Nat)]? = some (.int IntKind.i64 ((f l).at_)))) ∧
((((((0 : Int) ≤ (↑kk : Int))) ∧ (((↑kk : Int) < (↑n : Int)))) ∧ (((.pointer (.some ⟨((0 : Nat)), ((0 : Nat) + kk * (4 : Nat)), .none⟩)) : Value) = (.pointer (.some ⟨((0 : Nat)), ((0 : Nat) + kk * (4 : Nat)), .none⟩)))) ∧
(((ms[(0 : Nat) + kk * (4 : Nat) + (0 : Nat)]? = some (.int IntKind.i64 ((f kk).at_)))) ∧
((((f l).at_ == (f kk).at_) = true → (((decide ((↑l : Int) < (↑kk : Int))) = true → R ((0 : Nat)) .normal ⟨⟨[(.int IntKind.i64 ((↑i : Int))), (.bool (sl)), (.int IntKind.i64 ((↑kk : Int))), (.int IntKind.i64 (IntKind.i64.wrap ((↑kk : Int) + (1 : Int)))), (.int IntKind.i64 (p))], [⟨(k), (d)⟩, ⟨(n), (c)⟩]⟩, [(ms), (ps)], []⟩) ∧
((decide ((↑l : Int) < (↑kk : Int))) = false → R ((0 : Nat)) .normal ⟨⟨[(.int IntKind.i64 ((↑i : Int))), (.bool (sl)), (.int IntKind.i64 ((↑l : Int))), (.int IntKind.i64 (IntKind.i64.wrap ((↑kk : Int) + (1 : Int)))), (.int IntKind.i64 (p))], [⟨(k), (d)⟩, ⟨(n), (c)⟩]⟩, [(ms), (ps)], []⟩))) ∧
(((f l).at_ == (f kk).at_) = false → R ((0 : Nat)) .normal ⟨⟨[(.int IntKind.i64 ((↑i : Int))), (.bool (sl)), (.int IntKind.i64 ((↑l : Int))), (.int IntKind.i64 (IntKind.i64.wrap ((↑kk : Int) + (1 : Int)))), (.int IntKind.i64 (p))], [⟨(k), (d)⟩, ⟨(n), (c)⟩]⟩, [(ms), (ps)], []⟩))))))))))))) ∧
((decide ((↑kk : Int) < (↑i : Int))) = false → R ((0 : Nat)) .normal ⟨⟨[(.int IntKind.i64 ((↑i : Int))), (.bool (sl)), (.int IntKind.i64 ((↑l : Int))), (.int IntKind.i64 (IntKind.i64.wrap ((↑kk : Int) + (1 : Int)))), (.int IntKind.i64 (p))], [⟨(k), (d)⟩, ⟨(n), (c)⟩]⟩, [(ms), (ps)], []⟩))) ∧
(((f kk).at_ == (f i).at_) = false → R ((0 : Nat)) .normal ⟨⟨[(.int IntKind.i64 ((↑i : Int))), (.bool (sl)), (.int IntKind.i64 ((↑l : Int))), (.int IntKind.i64 (IntKind.i64.wrap ((↑kk : Int) + (1 : Int)))), (.int IntKind.i64 (p))], [⟨(k), (d)⟩, ⟨(n), (c)⟩]⟩, [(ms), (ps)], []⟩))))))))))))) ∧
((g kk == g i) = false → R ((0 : Nat)) .normal ⟨⟨[(.int IntKind.i64 ((↑i : Int))), (.bool (sl)), (.int IntKind.i64 ((↑l : Int))), (.int IntKind.i64 (IntKind.i64.wrap ((↑kk : Int) + (1 : Int)))), (.int IntKind.i64 (p))], [⟨(k), (d)⟩, ⟨(n), (c)⟩]⟩, [(ms), (ps)], []⟩))))))) ∧
((decide ((↑kk : Int) < (↑k : Int))) = false → R ((0 : Nat)) (.exit ((0 : Nat))) ⟨⟨[(.int IntKind.i64 ((↑i : Int))), (.bool (sl)), (.int IntKind.i64 ((↑l : Int))), (.int IntKind.i64 ((↑kk : Int))), (.int IntKind.i64 (p))], [⟨(k), (d)⟩, ⟨(n), (c)⟩]⟩, [(ms), (ps)], []⟩))) := by kernel_rfl

theorem lstF_lt {A : Nat → Mv} {g : Nat → Int} {i : Nat} : ∀ {k l : Nat}, lstF A g i k = some l → l < k := by
  intro k
  induction k with
  | zero => intro l h; cases h
  | succ k ih =>
    intro l h
    simp only [lstF] at h
    cases hl : lstF A g i k with
    | none =>
      simp only [hl] at h
      split at h
      · cases h; omega
      · cases h
    | some m =>
      simp only [hl] at h
      split at h
      · cases h; omega
      · cases h; have := ih hl; omega
theorem loop48z (sl : Bool) {p : Int} {i n c d : Nat} {f : Nat → Mv} {g : Nat → Int} (hi : i < n) (hn : n ≤ 7) : LoopOW Tryz.prog none p48z T48z (h48z p sl i n c d f g 0) (.exit 0) T48z (h48z p sl i n c d f g n) := by
  refine loop_forW (Ts := [T48z]) (k := 3) (n := n) (st := fun kk => (0, h48z p sl i n c d f g kk)) (e := .exit 0) rfl vx_sound (by intro T hT; simp only [List.mem_singleton] at hT; subst hT; rfl) (by rw [nglob]; omega) ⟨by simp, trivial⟩ (fun kk hk => clL two_at)
    (fun kk hk R hR => ?_) (fun R hR => ?_) (T0 := T48z) (T1 := T48z) rfl (Nat.le_of_ble_eq_true rfl) (by decide) rfl
  · have hw : IntKind.i64.wrap ((kk : Int) + 1) = ((kk + 1 : Nat) : Int) := wrapI (by omega) (by omega)
    have key : ∀ z, lstI (lstF f g i (kk + 1)) = z → R 0 .normal ⟨⟨[I i, .bool sl, I z, I (kk + 1 : Nat), I p], [(n, d), (n, c)]⟩, [mvs n f, ints n g], []⟩ := fun z hz => by subst hz; exact hR
    have b1 := flatC_bound (k := 4) hi
    have b2 := flatC_bound (k := 4) hk
    clear hR
    cases hl : lstF f g i kk with
    | none =>
      simp only [lstF, hl, befB] at key
      refine ⟨T48z, ?_⟩
      simp only [h48z, hl, lstI]
      refine ⟨_, rfl, (b48n p sl i kk n c n d (mvs n f) (ints n g) f g R).mpr ⟨fun _ => ?_, fun h => absurd hk (by simpa using h)⟩⟩
      rw [hw]
      repeat' (first | with_reducible apply And.intro | with_reducible intro)
      all_goals first
        | trivial
        | omega
        | rfl
        | exact ints_get g hk
        | exact ints_get g hi
        | exact mc0 f hk
        | exact mc0 f hi
        | (refine key _ ?_; simp only [*, Bool.true_and, Bool.false_and, Bool.and_self, Bool.true_or, Bool.false_or, Bool.or_false, Bool.or_true, Bool.and_false, Bool.and_true, if_true, if_false, Bool.false_eq_true, lstI]; done)
    | some l =>
      have hlk := lstF_lt hl
      have hln : l < n := by omega
      have b3 := flatC_bound (k := 4) hln
      simp only [lstF, hl, befB] at key
      refine ⟨T48z, ?_⟩
      simp only [h48z, hl, lstI]
      refine ⟨_, rfl, (b48s p sl i l kk n c n d (mvs n f) (ints n g) f g R).mpr ⟨fun _ => ?_, fun h => absurd hk (by simpa using h)⟩⟩
      rw [hw]
      repeat' (first | with_reducible apply And.intro | with_reducible intro)
      all_goals first
        | trivial
        | omega
        | rfl
        | exact ints_get g hk
        | exact ints_get g hi
        | exact mc0 f hk
        | exact mc0 f hi
        | exact mc0 f hln
        | (simp; done)
        | (refine key _ ?_; simp only [*, Bool.true_and, Bool.false_and, Bool.and_self, Bool.true_or, Bool.false_or, Bool.or_false, Bool.or_true, Bool.and_false, Bool.and_true, if_true, if_false, Bool.false_eq_true, lstI]; done)
        | (exfalso; simp at *; omega)
  · cases hl : lstF f g i n with
    | none =>
      refine ⟨T48z, ?_⟩
      simp only [h48z, hl, lstI] at hR ⊢
      exact ⟨_, rfl, (b48n p sl i n n c n d (mvs n f) (ints n g) f g R).mpr ⟨fun h => absurd (of_decide_eq_true h) (by omega), fun _ => hR⟩⟩
    | some l =>
      refine ⟨T48z, ?_⟩
      simp only [h48z, hl, lstI] at hR ⊢
      exact ⟨_, rfl, (b48s p sl i l n n c n d (mvs n f) (ints n g) f g R).mpr ⟨fun h => absurd (of_decide_eq_true h) (by omega), fun _ => hR⟩⟩
end Go.Ab

/- the document's words: Begin, and the order in which moves are looked at. -/
namespace Go.Ab
open Go Go.RowKit Go.Proofs
theorem befB_iff {f : Nat → Mv} {a b : Nat} : befB f a b = true ↔ Lx (atF f) a b := by
  simp only [befB, Lx, atF, Bool.or_eq_true, Bool.and_eq_true, decide_eq_true_eq, beq_iff_eq]
  constructor
  · rintro (h | ⟨h1, h2⟩)
    · exact .inl h
    · exact .inr ⟨h1, by omega⟩
  · rintro (h | ⟨h1, h2⟩)
    · exact .inl h
    · exact .inr ⟨h1, by omega⟩
theorem Lx.total {A : Nat → Int} {x y : Nat} (h : x ≠ y) : Lx A x y ∨ Lx A y x := by
  simp only [Lx]
  omega
theorem lst_ok (f : Nat → Mv) (g : Nat → Int) (i : Nat) : ∀ k, (lstF f g i k = none → ∀ x, x < k → g x = g i → Lx (atF f) x i → False) ∧
    (∀ l, lstF f g i k = some l → l < k ∧ g l = g i ∧ Lx (atF f) l i ∧ ∀ x, x < k → g x = g i → Lx (atF f) x i → x = l ∨ Lx (atF f) x l) := by
  intro k
  induction k with
  | zero => exact ⟨fun _ x hx => by omega, fun l h => by cases h⟩
  | succ k ih =>
    obtain ⟨ih1, ih2⟩ := ih
    simp only [lstF]
    cases hl : lstF f g i k with
    | none =>
      have ih1 := ih1 hl
      simp only
      by_cases hc : ((g k == g i) && befB f k i) = true
      · rw [if_pos hc]
        simp only [Bool.and_eq_true, beq_iff_eq, befB_iff] at hc
        refine ⟨fun h => (by cases h), fun l h => ?_⟩
        cases h
        refine ⟨by omega, hc.1, hc.2, fun x hx h1 h2 => ?_⟩
        by_cases e : x = k
        · exact .inl e
        · exact (ih1 x (by omega) h1 h2).elim
      · rw [if_neg hc]
        simp only [Bool.and_eq_true, beq_iff_eq, befB_iff] at hc
        refine ⟨fun _ x hx h1 h2 => ?_, fun l h => by cases h⟩
        by_cases e : x = k
        · subst e; exact hc ⟨h1, h2⟩
        · exact ih1 x (by omega) h1 h2
    | some m =>
      obtain ⟨a1, a2, a3, a4⟩ := ih2 m hl
      simp only
      by_cases hc : (((g k == g i) && befB f k i) && befB f m k) = true
      · rw [if_pos hc]
        simp only [Bool.and_eq_true, beq_iff_eq, befB_iff] at hc
        refine ⟨fun h => (by cases h), fun l h => ?_⟩
        cases h
        refine ⟨by omega, hc.1.1, hc.1.2, fun x hx h1 h2 => ?_⟩
        by_cases e : x = k
        · exact .inl e
        · rcases a4 x (by omega) h1 h2 with rfl | h
          · exact .inr hc.2
          · exact .inr (h.trans hc.2)
      · rw [if_neg hc]
        simp only [Bool.and_eq_true, beq_iff_eq, befB_iff] at hc
        refine ⟨fun h => (by cases h), fun l h => ?_⟩
        cases h
        refine ⟨by omega, a2, a3, fun x hx h1 h2 => ?_⟩
        by_cases e : x = k
        · subst e
          rcases Lx.total (A := atF f) (x := m) (y := x) (by omega) with h | h
          · exact (hc ⟨⟨h1, h2⟩, h⟩).elim
          · exact .inr h
        · exact a4 x (by omega) h1 h2
section
variable {p : Int} {n : Nat} {f : Nat → Mv} {g lg : Nat → Int} {A : Nat → Int} {σ : Nat → Nat}
theorem map_none (hσ : Srt A n σ) : ∀ m, m ≤ n → ∀ h, (getA (prc p f g lg σ m).M h = none → ∀ j, j < m → g (σ j) ≠ h) ∧
    (∀ x, getA (prc p f g lg σ m).M h = some x → ∃ j, j < m ∧ x.1 = σ j ∧ g (σ j) = h ∧ ∀ j', j < j' → j' < m → g (σ j') ≠ h) := by
  have _ := hσ.out
  intro m
  induction m with
  | zero => exact fun _ h => ⟨fun _ j hj => by omega, fun x hx => by cases hx⟩
  | succ m ih =>
    intro hm h
    obtain ⟨i1, i2⟩ := ih (by omega) h
    simp only [prc, get_set]
    by_cases e : h = g (σ m)
    · rw [if_pos e]
      refine ⟨fun h => (by cases h), fun x hx => ?_⟩
      cases hx
      exact ⟨m, by omega, rfl, e.symm, fun j' h1 h2 => by omega⟩
    · rw [if_neg e]
      refine ⟨fun hn j hj => ?_, fun x hx => ?_⟩
      · by_cases ej : j = m
        · subst ej; exact fun hh => e hh.symm
        · exact i1 hn j (by omega)
      · obtain ⟨j, h1, h2, h3, h4⟩ := i2 x hx
        refine ⟨j, by omega, h2, h3, fun j' h5 h6 => ?_⟩
        by_cases ej : j' = m
        · subst ej; exact fun hh => e hh.symm
        · exact h4 j' h5 (by omega)
theorem o_stay (hσ : Srt A n σ) {j : Nat} : ∀ m, j < m → m ≤ n → (prc p f g lg σ m).o (σ j) = begI p f lg (σ j) (getA (prc p f g lg σ j).M (g (σ j))) := by
  intro m
  induction m with
  | zero => intro h; omega
  | succ m ih =>
    intro h1 h2
    simp only [prc, updF]
    by_cases e : j = m
    · subst e; rw [if_pos rfl]
    · have hne : σ j ≠ σ m := fun h => e (hσ.inj (by omega) (by omega) h)
      rw [if_neg hne]
      exact ih (by omega) (by omega)
end
theorem beg_none {p : Int} {n : Nat} {f : Nat → Mv} {g lg : Nat → Int} {j : Nat} (hj : j < n) (h : lstF f g (srt (atF f) n j) n = none) : begS p n f g lg (srt (atF f) n j) = (f (srt (atF f) n j)).at_ := by
  have hσ := srt_ok (atF f) n
  rw [begS, o_stay hσ n hj (Nat.le_refl n)]
  cases hg : getA (prc p f g lg (srt (atF f) n) j).M (g (srt (atF f) n j)) with
  | none => rfl
  | some x =>
    obtain ⟨j', h1, h2, h3, h4⟩ := (map_none hσ j (by omega) _).2 x hg
    exact ((lst_ok f g _ n).1 h (srt (atF f) n j') (hσ.lt j' (by omega)) h3 (hσ.srt j' j h1 hj)).elim
theorem beg_some {p : Int} {n : Nat} {f : Nat → Mv} {g lg : Nat → Int} {j l : Nat} (hp : 0 ≤ p ∧ p ≤ 3) (hf : ∀ i, i < n → okMv (f i) = true) (hl : ∀ i, i < n → 0 ≤ lg i ∧ lg i ≤ 20) (hj : j < n) (h : lstF f g (srt (atF f) n j) n = some l) :
    ∃ j', j' < j ∧ l = srt (atF f) n j' ∧ begS p n f g lg (srt (atF f) n j) = begI p f lg (srt (atF f) n j) (some (l, begS p n f g lg l)) := by
  have hσ := srt_ok (atF f) n
  obtain ⟨a1, a2, a3, a4⟩ := (lst_ok f g _ n).2 l h
  obtain ⟨j', b1, rfl⟩ := hσ.all l a1
  have hlt : j' < j := by
    rcases Nat.lt_trichotomy j' j with c | c | c
    · exact c
    · subst c; exact a3.irrefl.elim
    · exact (a3.trans (hσ.srt j j' c b1)).irrefl.elim
  refine ⟨j', hlt, rfl, ?_⟩
  rw [begS, o_stay hσ n hj (Nat.le_refl n), o_stay hσ n b1 (Nat.le_refl n)]
  cases hg : getA (prc p f g lg (srt (atF f) n) j).M (g (srt (atF f) n j)) with
  | none => exact ((map_none hσ j (by omega) _).1 hg j' hlt a2).elim
  | some x =>
    obtain ⟨j'', h1, h2, h3, h4⟩ := (map_none hσ j (by omega) _).2 x hg
    have e : j'' = j' := by
      rcases Nat.lt_trichotomy j'' j' with c | c | c
      · exact (h4 j' c hlt a2).elim
      · exact c
      · rcases a4 _ (hσ.lt j'' (by omega)) h3 (hσ.srt j'' j h1 hj) with d | d
        · exact hσ.inj (by omega) b1 d
        · exact (d.trans (hσ.srt j' j'' c (by omega))).irrefl.elim
    subst e
    have hP := prc_ok (p := p) (g := g) (lg := lg) hσ hp hf hl j (by omega)
    have h5 := (hP.all _ x hg).2.1
    rw [h2, o_stay hσ j hlt (by omega)] at h5
    obtain ⟨x1, x2⟩ := x
    simp only at h2 h5
    subst h2
    rw [h5]
end Go.Ab

/- the document's words: Begin. -/
set_option maxRecDepth 100000
namespace Go.Ab
open Go Go.RowKit Go.Proofs
theorem f48at (p : Int) (i n c d : Nat) (f : Nat → Mv) (g : Nat → Int) (R : ARes → Prop)  : (vx.call 48 [hV p n c, slV 1 n d, I i, .bool true] (retK R) (m2 (mvs n f) (ints n g)) ((5, Hint.loopW T48z (AExit.exit (0 : Nat)) T48z fun _ =>   { hs := { vs := [I (↑i : Int), Value.bool true, I (-1 : Int), I (↑n : Int), I p], ns := [(n, d), (n, c)] },     ls := [mvs n f, ints n g], es := [] }) :: (6, .val (.pointer (.some ⟨((0 : Nat)), ((0 : Nat) + i * (4 : Nat)), .none⟩))) :: (1, .val (.int IntKind.i64 ((f i).at_))) :: [])) =
(((ClW ⟨⟨[(.int IntKind.i64 ((↑i : Int))), (.bool true), (.int IntKind.i64 ((-1 : Int))), (.int IntKind.i64 ((0 : Int))), (.int IntKind.i64 (p))], [⟨(n), (d)⟩, ⟨(n), (c)⟩]⟩, [(mvs n f), (ints n g)], []⟩) ∧ (LoopOW Tryz.prog .none p48z (T48z) ⟨⟨[(.int IntKind.i64 ((↑i : Int))), (.bool true), (.int IntKind.i64 ((-1 : Int))), (.int IntKind.i64 ((0 : Int))), (.int IntKind.i64 (p))], [⟨(n), (d)⟩, ⟨(n), (c)⟩]⟩, [(mvs n f), (ints n g)], []⟩ (.exit ((0 : Nat))) (T48z) ⟨⟨[(.int IntKind.i64 ((↑i : Int))), (.bool true), (.int IntKind.i64 ((-1 : Int))), (.int IntKind.i64 ((↑n : Int))), (.int IntKind.i64 (p))], [⟨(n), (d)⟩, ⟨(n), (c)⟩]⟩, [(mvs n f), (ints n g)], []⟩) ∧ 
((((((0 : Int) ≤ (↑i : Int))) ∧ (((↑i : Int) < (↑n : Int)))) ∧ (((.pointer (.some ⟨((0 : Nat)), ((0 : Nat) + i * (4 : Nat)), .none⟩)) : Value) = (.pointer (.some ⟨((0 : Nat)), ((0 : Nat) + i * (4 : Nat)), .none⟩)))) ∧
((((mvs n f)[(0 : Nat) + i * (4 : Nat) + (0 : Nat)]? = some (.int IntKind.i64 ((f i).at_)))) ∧
R (.ret (.int IntKind.i64 ((f i).at_))))))) := by kernel_rfl

theorem f48af (p : Int) (i n c d : Nat) (f : Nat → Mv) (g : Nat → Int) (R : ARes → Prop)  : (vx.call 48 [hV p n c, slV 1 n d, I i, .bool false] (retK R) (m2 (mvs n f) (ints n g)) ((5, Hint.loopW T48z (AExit.exit (0 : Nat)) T48z fun _ =>   { hs := { vs := [I (↑i : Int), Value.bool false, I (-1 : Int), I (↑n : Int), I p], ns := [(n, d), (n, c)] },     ls := [mvs n f, ints n g], es := [] }) :: (6, .val (.pointer (.some ⟨((0 : Nat)), ((0 : Nat) + i * (4 : Nat)), .none⟩))) :: (1, .val (.int IntKind.i64 ((f i).at_))) :: [])) =
(((ClW ⟨⟨[(.int IntKind.i64 ((↑i : Int))), (.bool false), (.int IntKind.i64 ((-1 : Int))), (.int IntKind.i64 ((0 : Int))), (.int IntKind.i64 (p))], [⟨(n), (d)⟩, ⟨(n), (c)⟩]⟩, [(mvs n f), (ints n g)], []⟩) ∧ (LoopOW Tryz.prog .none p48z (T48z) ⟨⟨[(.int IntKind.i64 ((↑i : Int))), (.bool false), (.int IntKind.i64 ((-1 : Int))), (.int IntKind.i64 ((0 : Int))), (.int IntKind.i64 (p))], [⟨(n), (d)⟩, ⟨(n), (c)⟩]⟩, [(mvs n f), (ints n g)], []⟩ (.exit ((0 : Nat))) (T48z) ⟨⟨[(.int IntKind.i64 ((↑i : Int))), (.bool false), (.int IntKind.i64 ((-1 : Int))), (.int IntKind.i64 ((↑n : Int))), (.int IntKind.i64 (p))], [⟨(n), (d)⟩, ⟨(n), (c)⟩]⟩, [(mvs n f), (ints n g)], []⟩) ∧ 
((((((0 : Int) ≤ (↑i : Int))) ∧ (((↑i : Int) < (↑n : Int)))) ∧ (((.pointer (.some ⟨((0 : Nat)), ((0 : Nat) + i * (4 : Nat)), .none⟩)) : Value) = (.pointer (.some ⟨((0 : Nat)), ((0 : Nat) + i * (4 : Nat)), .none⟩)))) ∧
((((mvs n f)[(0 : Nat) + i * (4 : Nat) + (0 : Nat)]? = some (.int IntKind.i64 ((f i).at_)))) ∧
R (.ret (.int IntKind.i64 ((f i).at_))))))) := by kernel_rfl

theorem f48bt (p : Int) (i l n c d : Nat) (f : Nat → Mv) (g : Nat → Int) (R : ARes → Prop)  : (vx.call 48 [hV p n c, slV 1 n d, I i, .bool true] (retK R) (m2 (mvs n f) (ints n g)) ((5, Hint.loopW T48z (AExit.exit (0 : Nat)) T48z fun _ =>   { hs := { vs := [I (↑i : Int), Value.bool true, I (↑l : Int), I (↑n : Int), I p], ns := [(n, d), (n, c)] },     ls := [mvs n f, ints n g], es := [] }) :: (6, .val (.pointer (.some ⟨((0 : Nat)), ((0 : Nat) + l * (4 : Nat)), .none⟩))) :: (2, .val (.int IntKind.i64 ((f l).lo))) :: (6, .val (.pointer (.some ⟨((0 : Nat)), ((0 : Nat) + l * (4 : Nat)), .none⟩))) :: (2, .val (.int IntKind.i64 ((f l).hi))) :: (4, .val (.pointer (.some ⟨((0 : Nat)), ((0 : Nat) + i * (4 : Nat)), .none⟩))) :: (1, .val (.int IntKind.i64 ((f i).at_))) :: (8, Hint.con (K48i true p n c d f g l)) :: (0, Hint.again) :: (7, .val (.pointer (.some ⟨((0 : Nat)), ((0 : Nat) + l * (4 : Nat)), .none⟩))) :: (1, .val (.int IntKind.i64 ((f l).place))) :: (3, .val (.pointer (.some ⟨((0 : Nat)), ((0 : Nat) + i * (4 : Nat)), .none⟩))) :: (1, .val (.int IntKind.i64 ((f i).place))) :: (10, Hint.again) :: [])) =
(((ClW ⟨⟨[(.int IntKind.i64 ((↑i : Int))), (.bool true), (.int IntKind.i64 ((-1 : Int))), (.int IntKind.i64 ((0 : Int))), (.int IntKind.i64 (p))], [⟨(n), (d)⟩, ⟨(n), (c)⟩]⟩, [(mvs n f), (ints n g)], []⟩) ∧ (LoopOW Tryz.prog .none p48z (T48z) ⟨⟨[(.int IntKind.i64 ((↑i : Int))), (.bool true), (.int IntKind.i64 ((-1 : Int))), (.int IntKind.i64 ((0 : Int))), (.int IntKind.i64 (p))], [⟨(n), (d)⟩, ⟨(n), (c)⟩]⟩, [(mvs n f), (ints n g)], []⟩ (.exit ((0 : Nat))) (T48z) ⟨⟨[(.int IntKind.i64 ((↑i : Int))), (.bool true), (.int IntKind.i64 ((↑l : Int))), (.int IntKind.i64 ((↑n : Int))), (.int IntKind.i64 (p))], [⟨(n), (d)⟩, ⟨(n), (c)⟩]⟩, [(mvs n f), (ints n g)], []⟩) ∧ 
((((((0 : Int) ≤ (↑l : Int))) ∧ (((↑l : Int) < (↑n : Int)))) ∧ (((.pointer (.some ⟨((0 : Nat)), ((0 : Nat) + l * (4 : Nat)), .none⟩)) : Value) = (.pointer (.some ⟨((0 : Nat)), ((0 : Nat) + l * (4 : Nat)), .none⟩)))) ∧
((((mvs n f)[(0 : Nat) + l * (4 : Nat) + (2 : Nat) + (0 : Nat)]? = some (.int IntKind.i64 ((f l).lo)))) ∧
((((((0 : Int) ≤ (↑l : Int))) ∧ (((↑l : Int) < (↑n : Int)))) ∧ (((.pointer (.some ⟨((0 : Nat)), ((0 : Nat) + l * (4 : Nat)), .none⟩)) : Value) = (.pointer (.some ⟨((0 : Nat)), ((0 : Nat) + l * (4 : Nat)), .none⟩)))) ∧
((((mvs n f)[(0 : Nat) + l * (4 : Nat) + (2 : Nat) + (1 : Nat)]? = some (.int IntKind.i64 ((f l).hi)))) ∧
((((((0 : Int) ≤ (↑i : Int))) ∧ (((↑i : Int) < (↑n : Int)))) ∧ (((.pointer (.some ⟨((0 : Nat)), ((0 : Nat) + i * (4 : Nat)), .none⟩)) : Value) = (.pointer (.some ⟨((0 : Nat)), ((0 : Nat) + i * (4 : Nat)), .none⟩)))) ∧
((((mvs n f)[(0 : Nat) + i * (4 : Nat) + (0 : Nat)]? = some (.int IntKind.i64 ((f i).at_)))) ∧
((ConOK Tryz.prog ((48 : Nat)) (K48i true p n c d f g l)) ∧ (Con.pre (K48i true p n c d f g l) ⟨⟨[(.int IntKind.i64 (p)), (.int IntKind.i64 ((↑l : Int)))], [⟨(n), (c)⟩, ⟨(n), (d)⟩]⟩, [(mvs n f), (ints n g)]⟩) ∧ 
((((((2 : Nat) ≤ (2 : Nat))) ∧ (((.agg ⟨[(.int IntKind.i64 (p)), (.slice (.some ⟨((0 : Nat)), ((0 : Nat)), .none⟩) (n) (c))]⟩) : Value) = (.agg ⟨[(.int IntKind.i64 (p)), (.slice (.some ⟨((0 : Nat)), ((0 : Nat)), .none⟩) (n) (c))]⟩))) ∧ ((((mvs n f)[(0 : Nat) + i * (4 : Nat) + (0 : Nat)]? = some (.int IntKind.i64 ((f i).at_)))) ∧ ((((some (.slice (.some ⟨((0 : Nat)), ((0 : Nat)), .none⟩) (n) (c)) : Option Value) = some (.slice (.some ⟨((0 : Nat)), ((0 : Nat)), .none⟩) (n) (c)))) ∧ (True)))) ∧ 
((((((0 : Int) ≤ (↑l : Int))) ∧ (((↑l : Int) < (↑n : Int)))) ∧ (((.pointer (.some ⟨((0 : Nat)), ((0 : Nat) + l * (4 : Nat)), .none⟩)) : Value) = (.pointer (.some ⟨((0 : Nat)), ((0 : Nat) + l * (4 : Nat)), .none⟩)))) ∧
((((mvs n f)[(0 : Nat) + l * (4 : Nat) + (1 : Nat)]? = some (.int IntKind.i64 ((f l).place)))) ∧
((((((0 : Int) ≤ (↑i : Int))) ∧ (((↑i : Int) < (↑n : Int)))) ∧ (((.pointer (.some ⟨((0 : Nat)), ((0 : Nat) + i * (4 : Nat)), .none⟩)) : Value) = (.pointer (.some ⟨((0 : Nat)), ((0 : Nat) + i * (4 : Nat)), .none⟩)))) ∧
((((mvs n f)[(0 : Nat) + i * (4 : Nat) + (1 : Nat)]? = some (.int IntKind.i64 ((f i).place)))) ∧
(((((mvs n f)[(0 : Nat) + i * (4 : Nat) + (0 : Nat)]? = some (.int IntKind.i64 ((f i).at_)))) ∧ ((((some (.slice (.some ⟨((0 : Nat)), ((0 : Nat)), .none⟩) (n) (c)) : Option Value) = some (.slice (.some ⟨((0 : Nat)), ((0 : Nat)), .none⟩) (n) (c)))) ∧ (True))) ∧ 
R (.ret (.int IntKind.i64 (if     IntKind.i64.wrap         (IntKind.i64.wrap (begS p n f g (lgS true f) l + (f l).hi) +           IntKind.i64.wrap             (p *               if                   IntKind.i64.wrap ((0 : Int) - IntKind.i64.wrap ((f l).place - (f i).place)) >                     IntKind.i64.wrap ((f l).place - (f i).place) then                 IntKind.i64.wrap ((0 : Int) - IntKind.i64.wrap ((f l).place - (f i).place))               else IntKind.i64.wrap ((f l).place - (f i).place))) >       (f i).at_ then   IntKind.i64.wrap     (IntKind.i64.wrap (begS p n f g (lgS true f) l + (f l).hi) +       IntKind.i64.wrap         (p *           if               IntKind.i64.wrap ((0 : Int) - IntKind.i64.wrap ((f l).place - (f i).place)) >                 IntKind.i64.wrap ((f l).place - (f i).place) then             IntKind.i64.wrap ((0 : Int) - IntKind.i64.wrap ((f l).place - (f i).place))           else IntKind.i64.wrap ((f l).place - (f i).place))) else (f i).at_)))))))))))))))))) := by kernel_rfl

theorem f48bf (p : Int) (i l n c d : Nat) (f : Nat → Mv) (g : Nat → Int) (R : ARes → Prop)  : (vx.call 48 [hV p n c, slV 1 n d, I i, .bool false] (retK R) (m2 (mvs n f) (ints n g)) ((5, Hint.loopW T48z (AExit.exit (0 : Nat)) T48z fun _ =>   { hs := { vs := [I (↑i : Int), Value.bool false, I (↑l : Int), I (↑n : Int), I p], ns := [(n, d), (n, c)] },     ls := [mvs n f, ints n g], es := [] }) :: (6, .val (.pointer (.some ⟨((0 : Nat)), ((0 : Nat) + l * (4 : Nat)), .none⟩))) :: (2, .val (.int IntKind.i64 ((f l).lo))) :: (6, .val (.pointer (.some ⟨((0 : Nat)), ((0 : Nat) + i * (4 : Nat)), .none⟩))) :: (1, .val (.int IntKind.i64 ((f i).at_))) :: (8, Hint.con (K48i false p n c d f g l)) :: (0, Hint.again) :: (7, .val (.pointer (.some ⟨((0 : Nat)), ((0 : Nat) + l * (4 : Nat)), .none⟩))) :: (1, .val (.int IntKind.i64 ((f l).place))) :: (3, .val (.pointer (.some ⟨((0 : Nat)), ((0 : Nat) + i * (4 : Nat)), .none⟩))) :: (1, .val (.int IntKind.i64 ((f i).place))) :: (10, Hint.again) :: [])) =
(((ClW ⟨⟨[(.int IntKind.i64 ((↑i : Int))), (.bool false), (.int IntKind.i64 ((-1 : Int))), (.int IntKind.i64 ((0 : Int))), (.int IntKind.i64 (p))], [⟨(n), (d)⟩, ⟨(n), (c)⟩]⟩, [(mvs n f), (ints n g)], []⟩) ∧ (LoopOW Tryz.prog .none p48z (T48z) ⟨⟨[(.int IntKind.i64 ((↑i : Int))), (.bool false), (.int IntKind.i64 ((-1 : Int))), (.int IntKind.i64 ((0 : Int))), (.int IntKind.i64 (p))], [⟨(n), (d)⟩, ⟨(n), (c)⟩]⟩, [(mvs n f), (ints n g)], []⟩ (.exit ((0 : Nat))) (T48z) ⟨⟨[(.int IntKind.i64 ((↑i : Int))), (.bool false), (.int IntKind.i64 ((↑l : Int))), (.int IntKind.i64 ((↑n : Int))), (.int IntKind.i64 (p))], [⟨(n), (d)⟩, ⟨(n), (c)⟩]⟩, [(mvs n f), (ints n g)], []⟩) ∧ 
((((((0 : Int) ≤ (↑l : Int))) ∧ (((↑l : Int) < (↑n : Int)))) ∧ (((.pointer (.some ⟨((0 : Nat)), ((0 : Nat) + l * (4 : Nat)), .none⟩)) : Value) = (.pointer (.some ⟨((0 : Nat)), ((0 : Nat) + l * (4 : Nat)), .none⟩)))) ∧
((((mvs n f)[(0 : Nat) + l * (4 : Nat) + (2 : Nat) + (0 : Nat)]? = some (.int IntKind.i64 ((f l).lo)))) ∧
((((((0 : Int) ≤ (↑i : Int))) ∧ (((↑i : Int) < (↑n : Int)))) ∧ (((.pointer (.some ⟨((0 : Nat)), ((0 : Nat) + i * (4 : Nat)), .none⟩)) : Value) = (.pointer (.some ⟨((0 : Nat)), ((0 : Nat) + i * (4 : Nat)), .none⟩)))) ∧
((((mvs n f)[(0 : Nat) + i * (4 : Nat) + (0 : Nat)]? = some (.int IntKind.i64 ((f i).at_)))) ∧
((ConOK Tryz.prog ((48 : Nat)) (K48i false p n c d f g l)) ∧ (Con.pre (K48i false p n c d f g l) ⟨⟨[(.int IntKind.i64 (p)), (.int IntKind.i64 ((↑l : Int)))], [⟨(n), (c)⟩, ⟨(n), (d)⟩]⟩, [(mvs n f), (ints n g)]⟩) ∧ 
((((((2 : Nat) ≤ (2 : Nat))) ∧ (((.agg ⟨[(.int IntKind.i64 (p)), (.slice (.some ⟨((0 : Nat)), ((0 : Nat)), .none⟩) (n) (c))]⟩) : Value) = (.agg ⟨[(.int IntKind.i64 (p)), (.slice (.some ⟨((0 : Nat)), ((0 : Nat)), .none⟩) (n) (c))]⟩))) ∧ ((((mvs n f)[(0 : Nat) + i * (4 : Nat) + (0 : Nat)]? = some (.int IntKind.i64 ((f i).at_)))) ∧ ((((some (.slice (.some ⟨((0 : Nat)), ((0 : Nat)), .none⟩) (n) (c)) : Option Value) = some (.slice (.some ⟨((0 : Nat)), ((0 : Nat)), .none⟩) (n) (c)))) ∧ (True)))) ∧ 
((((((0 : Int) ≤ (↑l : Int))) ∧ (((↑l : Int) < (↑n : Int)))) ∧ (((.pointer (.some ⟨((0 : Nat)), ((0 : Nat) + l * (4 : Nat)), .none⟩)) : Value) = (.pointer (.some ⟨((0 : Nat)), ((0 : Nat) + l * (4 : Nat)), .none⟩)))) ∧
((((mvs n f)[(0 : Nat) + l * (4 : Nat) + (1 : Nat)]? = some (.int IntKind.i64 ((f l).place)))) ∧
((((((0 : Int) ≤ (↑i : Int))) ∧ (((↑i : Int) < (↑n : Int)))) ∧ (((.pointer (.some ⟨((0 : Nat)), ((0 : Nat) + i * (4 : Nat)), .none⟩)) : Value) = (.pointer (.some ⟨((0 : Nat)), ((0 : Nat) + i * (4 : Nat)), .none⟩)))) ∧
((((mvs n f)[(0 : Nat) + i * (4 : Nat) + (1 : Nat)]? = some (.int IntKind.i64 ((f i).place)))) ∧
(((((mvs n f)[(0 : Nat) + i * (4 : Nat) + (0 : Nat)]? = some (.int IntKind.i64 ((f i).at_)))) ∧ ((((some (.slice (.some ⟨((0 : Nat)), ((0 : Nat)), .none⟩) (n) (c)) : Option Value) = some (.slice (.some ⟨((0 : Nat)), ((0 : Nat)), .none⟩) (n) (c)))) ∧ (True))) ∧ 
R (.ret (.int IntKind.i64 (if     IntKind.i64.wrap         (IntKind.i64.wrap (begS p n f g (lgS false f) l + (f l).lo) +           IntKind.i64.wrap             (p *               if                   IntKind.i64.wrap ((0 : Int) - IntKind.i64.wrap ((f l).place - (f i).place)) >                     IntKind.i64.wrap ((f l).place - (f i).place) then                 IntKind.i64.wrap ((0 : Int) - IntKind.i64.wrap ((f l).place - (f i).place))               else IntKind.i64.wrap ((f l).place - (f i).place))) >       (f i).at_ then   IntKind.i64.wrap     (IntKind.i64.wrap (begS p n f g (lgS false f) l + (f l).lo) +       IntKind.i64.wrap         (p *           if               IntKind.i64.wrap ((0 : Int) - IntKind.i64.wrap ((f l).place - (f i).place)) >                 IntKind.i64.wrap ((f l).place - (f i).place) then             IntKind.i64.wrap ((0 : Int) - IntKind.i64.wrap ((f l).place - (f i).place))           else IntKind.i64.wrap ((f l).place - (f i).place))) else (f i).at_)))))))))))))))) := by kernel_rfl

theorem wk_dist (p : Int) (a b : Mv) : wkI p a b = p * distI a b := by
  simp only [wkI, distI]
  congr 1
  split <;> split <;> omega
theorem prc_o {p : Int} {n : Nat} {f : Nat → Mv} {g lg : Nat → Int} {A : Nat → Int} {σ : Nat → Nat} (hσ : Srt A n σ) (hp : 0 ≤ p ∧ p ≤ 3) (hf : ∀ i, i < n → okMv (f i) = true) (hl : ∀ i, i < n → 0 ≤ lg i ∧ lg i ≤ 20) (k : Nat) (hk : k ≤ n) : ∀ x, doneB σ k x = true → (f x).at_ ≤ (prc p f g lg σ k).o x ∧ (prc p f g lg σ k).o x ≤ 200 + 110 * k := by
  induction k with
  | zero => intro x hx; cases hx
  | succ k ih =>
    intro x hx
    have hP := prc_ok (g := g) hσ hp hf hl k (by omega)
    have hb := begI_le hP hp hf hl (hσ.lt k (by omega)) (g (σ k))
    simp only [prc, updF]
    by_cases h : x = σ k
    · subst h
      rw [if_pos rfl]
      exact ⟨hb.1, by omega⟩
    · rw [if_neg h]
      simp only [doneB, h, decide_false, Bool.false_or] at hx
      have := ih (by omega) x hx
      exact ⟨this.1, by omega⟩
theorem beg_le {p : Int} {n : Nat} {f : Nat → Mv} (g : Nat → Int) (hok : okH p n f = true) (sure : Bool) {i : Nat} (hi : i < n) : (f i).at_ ≤ begS p n f g (lgS sure f) i ∧ begS p n f g (lgS sure f) i ≤ 200 + 110 * n := by
  have hH := okH_iff hok
  have hs := srt_ok (atF f) n
  obtain ⟨j, h1, h2⟩ := hs.all i hi
  exact prc_o (g := g) hs ⟨hH.p0, hH.p3⟩ (okH_mv hok) (lgS_le hok sure) n (Nat.le_refl n) i (doneB_iff.2 ⟨j, h1, h2⟩)
theorem lat_beg {p : Int} {n : Nat} {f : Nat → Mv} (g : Nat → Int) (hok : okH p n f = true) (sure : Bool) {i : Nat} (hi : i < n) : IntKind.i64.wrap (begS p n f g (lgS sure f) i - (f i).at_) = latS sure p n f g i := by
  have hH := okH_iff hok
  have h7 := hH.n7
  have hs := srt_ok (atF f) n
  have hm := (hH.mv i hi).at0
  have e := lateF_end (p := p) (f := f) (g := g) (lg := lgS sure f) hs hi
  have hb := beg_le g hok sure hi
  simp only [begS] at hb
  simp only [latS, begS]
  rw [e]
  exact wrapI (by omega) (by omega)
theorem bwrap {p : Int} {a b : Mv} {B L : Int} (hp : 0 ≤ p ∧ p ≤ 3) (ha : MvOK a) (hb : MvOK b) (hB : 0 ≤ B ∧ B ≤ 1000) (hL : 0 ≤ L ∧ L ≤ 20) :
    IntKind.i64.wrap (IntKind.i64.wrap (B + L) + wkI p a b) = B + L + wkI p a b := by
  have hd := distI_bounds ha hb
  have hm := mul_bounds hp.1 hp.2 hd.1 hd.2
  rw [wk_dist]
  generalize p * distI a b = w at hm
  rw [wrapI (x := B + L) (by omega) (by omega), wrapI (x := B + L + w) (by omega) (by omega)]
theorem K48i_ok (sl : Bool) {p : Int} {n c d : Nat} {f : Nat → Mv} {g : Nat → Int} (hok : okH p n f = true) : ∀ (r j : Nat), j < r → j < n → ConOK Tryz.prog 48 (K48i sl p n c d f g (srt (atF f) n j)) := by
  have hH := okH_iff hok
  have h7 := hH.n7
  intro r
  induction r with
  | zero => intro j h; omega
  | succ r ih =>
    intro j hjr hj
    have hi : srt (atF f) n j < n := (srt_ok (atF f) n).lt j hj
    refine con_of vx_sound ⟨⟨[I p, I (srt (atF f) n j)], [(n, c), (n, d)]⟩, [mvs n f, ints n g]⟩ (fun x hx => ?_) rfl (fun _ _ => rfl) (fun x hx => by cases hx; exact two_at) rfl (Nat.le_of_ble_eq_true rfl) (by rw [nglob]; exact Nat.zero_le _)
    cases hx
    have key : ∀ R : ARes → Prop, (∀ v, begS p n f g (lgS sl f) (srt (atF f) n j) = v → R (.ret (I v))) → ∃ hs, vx.call 48 [hV p n c, slV 1 n d, I (srt (atF f) n j), .bool sl] (retK R) (m2 (mvs n f) (ints n g)) hs := by
      intro R hR
      have b1 := flatC_bound (k := 4) hi
      cases hl : lstF f g (srt (atF f) n j) n with
      | none =>
        have hb := beg_none (p := p) (lg := lgS sl f) hj hl
        have hloop := loop48z sl (p := p) (c := c) (d := d) (f := f) (g := g) hi h7
        simp only [h48z, hl, lstI, lstF] at hloop
        cases sl with
        | true => exact ⟨_, (f48at p _ n c d f g R).mpr ⟨clL two_at, hloop, ⟨⟨by omega, by omega⟩, rfl⟩, mc0 f hi, hR _ hb⟩⟩
        | false => exact ⟨_, (f48af p _ n c d f g R).mpr ⟨clL two_at, hloop, ⟨⟨by omega, by omega⟩, rfl⟩, mc0 f hi, hR _ hb⟩⟩
      | some l =>
        obtain ⟨j', h1, rfl, hb⟩ := beg_some (p := p) (lg := lgS sl f) ⟨hH.p0, hH.p3⟩ (okH_mv hok) (lgS_le hok sl) hj hl
        have hli : srt (atF f) n j' < n := (srt_ok (atF f) n).lt j' (by omega)
        have b2 := flatC_bound (k := 4) hli
        have hloop := loop48z sl (p := p) (c := c) (d := d) (f := f) (g := g) hi h7
        simp only [h48z, hl, lstI, lstF] at hloop
        have hK := ih j' (by omega) (by omega)
        have hr := beg_le g hok sl hli
        have hw := walkR ⟨hH.p0, hH.p3⟩ (hH.mv _ hli) (hH.mv _ hi)
        rw [← wk_dist] at hw
        have hm := (hH.mv _ hli)
        have c1 := hm.at0; have c2 := hm.lo1; have c3 := hm.lohi; have c4 := hm.hi1
        have hlg := lgS_le hok sl _ hli
        have hbw := bwrap ⟨hH.p0, hH.p3⟩ hm (hH.mv _ hi) (B := begS p n f g (lgS sl f) (srt (atF f) n j')) (L := lgS sl f (srt (atF f) n j')) ⟨by omega, by omega⟩ hlg
        simp only [begI] at hb
        cases sl with
        | true =>
          refine ⟨_, (f48bt p (srt (atF f) n j) (srt (atF f) n j') n c d f g R).mpr ?_⟩
          simp only [lgS, cond_true] at hbw
          rw [hw, hbw]
          repeat' (first | with_reducible apply And.intro | with_reducible intro)
          all_goals first
            | trivial
            | omega
            | exact clL two_at
            | exact hloop
            | exact hK
            | rfl
            | exact mc0 f hi
            | exact mc1 f hi
            | exact mc1 f hli
            | exact mc2 f hli
            | exact mc3 f hli
            | (simp; done)
            | exact hR _ hb
        | false =>
          refine ⟨_, (f48bf p (srt (atF f) n j) (srt (atF f) n j') n c d f g R).mpr ?_⟩
          simp only [lgS, cond_false] at hbw
          rw [hw, hbw]
          repeat' (first | with_reducible apply And.intro | with_reducible intro)
          all_goals first
            | trivial
            | omega
            | exact clL two_at
            | exact hloop
            | exact hK
            | rfl
            | exact mc0 f hi
            | exact mc1 f hi
            | exact mc1 f hli
            | exact mc2 f hli
            | (simp; done)
            | exact hR _ hb
    obtain ⟨hs, h⟩ := key (fun r => r = (K48i sl p n c d f g (srt (atF f) n j)).res ⟨⟨[I p, I (srt (atF f) n j)], [(n, c), (n, d)]⟩, [mvs n f, ints n g]⟩) fun v hv => by subst hv; rfl
    exact ⟨hs, h⟩
/-- Begin, whichever move is meant. -/
noncomputable def K48 (sl : Bool) (p : Int) (n c d : Nat) (f : Nat → Mv) (g : Nat → Int) : Con where
  A := .agg (.hole (.slice 0 0 .nil)) (.slice 1 0 (.hole (.val (.bool sl) .nil)))
  bs := [.list 1 .ro, .list 3 .ro]
  pre x := ∃ i, i < n ∧ x = ⟨⟨[I p, I (i : Nat)], [(n, c), (n, d)]⟩, [mvs n f, ints n g]⟩
  res x := .ret (I (begS p n f g (lgS sl f) (natAt x 1)))
theorem K48_ok (sl : Bool) {p : Int} {n c d : Nat} {f : Nat → Mv} {g : Nat → Int} (h0 : 0 < n) (hok : okH p n f = true) : ConOK Tryz.prog 48 (K48 sl p n c d f g) where
  calls := (K48i_ok sl (c := c) (d := d) (g := g) hok n 0 h0 h0).calls
  says x hp := by
    obtain ⟨i, hi, rfl⟩ := hp
    obtain ⟨j, h1, rfl⟩ := (srt_ok (atF f) n).all i hi
    exact (K48i_ok sl (c := c) (d := d) (g := g) hok n j h1 h1).says _ rfl
  closed x hp := rfl
  atoms x hp := by obtain ⟨i, hi, rfl⟩ := hp; exact two_at
  ro := rfl
  small := Nat.le_of_ble_eq_true rfl
  glob := by rw [nglob]; exact Nat.zero_le _
end Go.Ab

/- FORMS OF STATES AT LOOPS' HEADS: the document's Late, Check. -/
set_option maxRecDepth 100000
namespace Go.Ab
open Go Go.RowKit Go.Proofs
def p13z : Loc := .l (.r (.l (.r (.r (.r (.r (.top 13)))))))
noncomputable def T13y : Tw := ⟨50, mkS 50 [(1, .slice 1 0 .nil), (2, .ptr 2 0 .nil), (7, .val nilS .nil), (8, .hole .nil)], 4, [.list 1 .ro, .list 3 .ro, .cells (.hole (.slice 0 0 .nil)) 24 .var, .dead]⟩
noncomputable def T13z : Tw := ⟨50, mkS 50 [(1, .slice 1 0 .nil), (2, .ptr 2 0 .nil), (7, .slice 4 0 .nil), (8, .hole .nil)], 4, [.list 1 .ro, .list 3 .ro, .cells (.hole (.slice 0 0 .nil)) 24 .var, .dead, .list 37 .row]⟩
def p11o : Loc := .l (.r (.l (.r (.r (.r (.top 11))))))
def p11i : Loc := .l (.r (.l (.l (.r (.l (.l (.r (.l (.r (.r (.r (.top 11))))))))))))
noncomputable def T11o : Tw := ⟨52, mkS 52 [(1, .slice 1 0 .nil), (2, .hole .nil), (3, .ptr 2 0 .nil), (10, .hole .nil)], 4, [.list 1 .ro, .list 3 .ro, .cells (.hole (.slice 0 0 .nil)) 24 .var, .dead]⟩
noncomputable def T11i : Tw := ⟨52, mkS 52 [(1, .slice 1 0 .nil), (2, .hole .nil), (3, .ptr 2 0 .nil), (10, .hole .nil), (11, .hole .nil)], 4, [.list 1 .ro, .list 3 .ro, .cells (.hole (.slice 0 0 .nil)) 24 .var, .dead]⟩
noncomputable def R11 : Tw := ⟨52, mkS 52 [(6, .hole .nil), (7, .hole .nil), (8, .hole .nil)], 4, [.dead, .dead, .dead, .dead]⟩
end Go.Ab

/- the document's words: Late. -/
set_option maxRecDepth 100000
namespace Go.Ab
open Go Go.RowKit Go.Proofs
theorem b13y (p : Int) (i n c d : Nat) (f : Nat → Mv) (g : Nat → Int) (R : Nat → AExit → Hw → Prop)  : (vx.code none (.l p13z) (leafW [T13y, T13z] R) (T13y.inst ⟨⟨[I i, I p], [(n, d), (n, c)]⟩, [mvs n f, ints n g], []⟩) ([(3, .split ((8, .val (.pointer (.some ⟨((0 : Nat)), ((0 : Nat) + i * (4 : Nat)), .none⟩))) :: (1, .val (.int IntKind.i64 ((f i).at_))) :: (6, .val (.pointer (.some ⟨((0 : Nat)), ((0 : Nat) + i * (4 : Nat)), .none⟩))) :: (1, .val (.int IntKind.i64 ((f i).at_))) :: (0, Hint.con (K48i false p n c d f g i)) :: (0, Hint.again) :: (1, Hint.con (K48i true p n c d f g i)) :: (0, Hint.again) :: [(7, Hint.tm (1 : Nat) [((4 : Nat), (5 : Nat))])]) ([(1, Hint.tm (0 : Nat) [])]))])) =
((((decide ((↑i : Int) < (↑n : Int))) = true → ((((((0 : Int) ≤ (↑i : Int))) ∧ (((↑i : Int) < (↑n : Int)))) ∧ (((.pointer (.some ⟨((0 : Nat)), ((0 : Nat) + i * (4 : Nat)), .none⟩)) : Value) = (.pointer (.some ⟨((0 : Nat)), ((0 : Nat) + i * (4 : Nat)), .none⟩)))) ∧
((((mvs n f)[(0 : Nat) + i * (4 : Nat) + (0 : Nat)]? = some (.int IntKind.i64 ((f i).at_)))) ∧
((((((0 : Int) ≤ (↑i : Int))) ∧ (((↑i : Int) < (↑n : Int)))) ∧ (((.pointer (.some ⟨((0 : Nat)), ((0 : Nat) + i * (4 : Nat)), .none⟩)) : Value) = (.pointer (.some ⟨((0 : Nat)), ((0 : Nat) + i * (4 : Nat)), .none⟩)))) ∧
((((mvs n f)[(0 : Nat) + i * (4 : Nat) + (0 : Nat)]? = some (.int IntKind.i64 ((f i).at_)))) ∧
((ConOK Tryz.prog ((48 : Nat)) (K48i false p n c d f g i)) ∧ (Con.pre (K48i false p n c d f g i) ⟨⟨[(.int IntKind.i64 (p)), (.int IntKind.i64 ((↑i : Int)))], [⟨(n), (c)⟩, ⟨(n), (d)⟩]⟩, [(mvs n f), (ints n g)]⟩) ∧ 
(((((mvs n f)[(0 : Nat) + i * (4 : Nat) + (0 : Nat)]? = some (.int IntKind.i64 ((f i).at_)))) ∧ ((((some (.slice (.some ⟨((0 : Nat)), ((0 : Nat)), .none⟩) (n) (c)) : Option Value) = some (.slice (.some ⟨((0 : Nat)), ((0 : Nat)), .none⟩) (n) (c)))) ∧ (((((2 : Nat) ≤ (2 : Nat))) ∧ (((.agg ⟨[(.int IntKind.i64 (p)), (.slice (.some ⟨((0 : Nat)), ((0 : Nat)), .none⟩) (n) (c))]⟩) : Value) = (.agg ⟨[(.int IntKind.i64 (p)), (.slice (.some ⟨((0 : Nat)), ((0 : Nat)), .none⟩) (n) (c))]⟩))) ∧ ((((mvs n f)[(0 : Nat) + i * (4 : Nat) + (0 : Nat)]? = some (.int IntKind.i64 ((f i).at_)))) ∧ ((((some (.slice (.some ⟨((0 : Nat)), ((0 : Nat)), .none⟩) (n) (c)) : Option Value) = some (.slice (.some ⟨((0 : Nat)), ((0 : Nat)), .none⟩) (n) (c)))) ∧ (True)))))) ∧ 
((ConOK Tryz.prog ((48 : Nat)) (K48i true p n c d f g i)) ∧ (Con.pre (K48i true p n c d f g i) ⟨⟨[(.int IntKind.i64 (p)), (.int IntKind.i64 ((↑i : Int)))], [⟨(n), (c)⟩, ⟨(n), (d)⟩]⟩, [(mvs n f), (ints n g)]⟩) ∧ 
(((((mvs n f)[(0 : Nat) + i * (4 : Nat) + (0 : Nat)]? = some (.int IntKind.i64 ((f i).at_)))) ∧ ((((some (.slice (.some ⟨((0 : Nat)), ((0 : Nat)), .none⟩) (n) (c)) : Option Value) = some (.slice (.some ⟨((0 : Nat)), ((0 : Nat)), .none⟩) (n) (c)))) ∧ ((((mvs n f)[(0 : Nat) + i * (4 : Nat) + (0 : Nat)]? = some (.int IntKind.i64 ((f i).at_)))) ∧ ((((some (.slice (.some ⟨((0 : Nat)), ((0 : Nat)), .none⟩) (n) (c)) : Option Value) = some (.slice (.some ⟨((0 : Nat)), ((0 : Nat)), .none⟩) (n) (c)))) ∧ (True))))) ∧ 
R ((1 : Nat)) .normal ⟨⟨[(.int IntKind.i64 (IntKind.i64.wrap ((↑i : Int) + (1 : Int)))), (.int IntKind.i64 (p))], [⟨(n), (d)⟩, ⟨((1 : Nat)), ((1 : Nat))⟩, ⟨(n), (c)⟩]⟩, [(mvs n f), (ints n g), [(.int IntKind.i64 (IntKind.i64.wrap (begS p n f g (lgS false f) i - (f i).at_))), (.int IntKind.i64 (IntKind.i64.wrap (begS p n f g (lgS true f) i - (f i).at_)))]], []⟩))))))))) ∧
((decide ((↑i : Int) < (↑n : Int))) = false → R ((0 : Nat)) (.exit ((0 : Nat))) ⟨⟨[(.int IntKind.i64 ((↑i : Int))), (.int IntKind.i64 (p))], [⟨(n), (d)⟩, ⟨(n), (c)⟩]⟩, [(mvs n f), (ints n g)], []⟩))) := by kernel_rfl

theorem b13x (p : Int) (i n c d : Nat) (f : Nat → Mv) (g : Nat → Int) (ls : List Value) (R : Nat → AExit → Hw → Prop)  : (vx.code none (.l p13z) (leafW [T13y, T13z] R) (T13z.inst ⟨⟨[I i, I p], [(n, d), (i, i), (n, c)]⟩, [mvs n f, ints n g, ls], []⟩) ([(3, .split ((8, .val (.pointer (.some ⟨((0 : Nat)), ((0 : Nat) + i * (4 : Nat)), .none⟩))) :: (1, .val (.int IntKind.i64 ((f i).at_))) :: (6, .val (.pointer (.some ⟨((0 : Nat)), ((0 : Nat) + i * (4 : Nat)), .none⟩))) :: (1, .val (.int IntKind.i64 ((f i).at_))) :: (0, Hint.con (K48i false p n c d f g i)) :: (0, Hint.again) :: (1, Hint.con (K48i true p n c d f g i)) :: (0, Hint.again) :: (2, Hint.grow) :: [(4, Hint.tm (1 : Nat) [((4 : Nat), (6 : Nat))])]) ([(1, Hint.tm (1 : Nat) [((4 : Nat), (4 : Nat))])]))])) =
((((decide ((↑i : Int) < (↑n : Int))) = true → ((((((0 : Int) ≤ (↑i : Int))) ∧ (((↑i : Int) < (↑n : Int)))) ∧ (((.pointer (.some ⟨((0 : Nat)), ((0 : Nat) + i * (4 : Nat)), .none⟩)) : Value) = (.pointer (.some ⟨((0 : Nat)), ((0 : Nat) + i * (4 : Nat)), .none⟩)))) ∧
((((mvs n f)[(0 : Nat) + i * (4 : Nat) + (0 : Nat)]? = some (.int IntKind.i64 ((f i).at_)))) ∧
((((((0 : Int) ≤ (↑i : Int))) ∧ (((↑i : Int) < (↑n : Int)))) ∧ (((.pointer (.some ⟨((0 : Nat)), ((0 : Nat) + i * (4 : Nat)), .none⟩)) : Value) = (.pointer (.some ⟨((0 : Nat)), ((0 : Nat) + i * (4 : Nat)), .none⟩)))) ∧
((((mvs n f)[(0 : Nat) + i * (4 : Nat) + (0 : Nat)]? = some (.int IntKind.i64 ((f i).at_)))) ∧
((ConOK Tryz.prog ((48 : Nat)) (K48i false p n c d f g i)) ∧ (Con.pre (K48i false p n c d f g i) ⟨⟨[(.int IntKind.i64 (p)), (.int IntKind.i64 ((↑i : Int)))], [⟨(n), (c)⟩, ⟨(n), (d)⟩]⟩, [(mvs n f), (ints n g)]⟩) ∧ 
(((((mvs n f)[(0 : Nat) + i * (4 : Nat) + (0 : Nat)]? = some (.int IntKind.i64 ((f i).at_)))) ∧ ((((some (.slice (.some ⟨((0 : Nat)), ((0 : Nat)), .none⟩) (n) (c)) : Option Value) = some (.slice (.some ⟨((0 : Nat)), ((0 : Nat)), .none⟩) (n) (c)))) ∧ (((((2 : Nat) ≤ (2 : Nat))) ∧ (((.agg ⟨[(.int IntKind.i64 (p)), (.slice (.some ⟨((0 : Nat)), ((0 : Nat)), .none⟩) (n) (c))]⟩) : Value) = (.agg ⟨[(.int IntKind.i64 (p)), (.slice (.some ⟨((0 : Nat)), ((0 : Nat)), .none⟩) (n) (c))]⟩))) ∧ ((((mvs n f)[(0 : Nat) + i * (4 : Nat) + (0 : Nat)]? = some (.int IntKind.i64 ((f i).at_)))) ∧ ((((some (.slice (.some ⟨((0 : Nat)), ((0 : Nat)), .none⟩) (n) (c)) : Option Value) = some (.slice (.some ⟨((0 : Nat)), ((0 : Nat)), .none⟩) (n) (c)))) ∧ (True)))))) ∧ 
((ConOK Tryz.prog ((48 : Nat)) (K48i true p n c d f g i)) ∧ (Con.pre (K48i true p n c d f g i) ⟨⟨[(.int IntKind.i64 (p)), (.int IntKind.i64 ((↑i : Int)))], [⟨(n), (c)⟩, ⟨(n), (d)⟩]⟩, [(mvs n f), (ints n g)]⟩) ∧ 
(((((mvs n f)[(0 : Nat) + i * (4 : Nat) + (0 : Nat)]? = some (.int IntKind.i64 ((f i).at_)))) ∧ ((((some (.slice (.some ⟨((0 : Nat)), ((0 : Nat)), .none⟩) (n) (c)) : Option Value) = some (.slice (.some ⟨((0 : Nat)), ((0 : Nat)), .none⟩) (n) (c)))) ∧ ((((mvs n f)[(0 : Nat) + i * (4 : Nat) + (0 : Nat)]? = some (.int IntKind.i64 ((f i).at_)))) ∧ ((((some (.slice (.some ⟨((0 : Nat)), ((0 : Nat)), .none⟩) (n) (c)) : Option Value) = some (.slice (.some ⟨((0 : Nat)), ((0 : Nat)), .none⟩) (n) (c)))) ∧ (True))))) ∧ 
((((¬i + (1 : Nat) ≤ i)) ∧ (((i * (2 : Nat) = ls.length)) ∧ ((((i + (1 : Nat)) * (16 : Nat) ≤ (140737488355328 : Nat))) ∧ ((i + (1 : Nat) ≤ (4611686018427387904 : Nat)))))) ∧ 
R ((1 : Nat)) .normal ⟨⟨[(.int IntKind.i64 (IntKind.i64.wrap ((↑i : Int) + (1 : Int)))), (.int IntKind.i64 (p))], [⟨(n), (d)⟩, ⟨(i + (1 : Nat)), (i + (1 : Nat))⟩, ⟨(n), (c)⟩]⟩, [(mvs n f), (ints n g), ((List.take (i * (2 : Nat)) (ls)) ++ [(.int IntKind.i64 (IntKind.i64.wrap (begS p n f g (lgS false f) i - (f i).at_))), (.int IntKind.i64 (IntKind.i64.wrap (begS p n f g (lgS true f) i - (f i).at_)))])], []⟩)))))))))) ∧
((decide ((↑i : Int) < (↑n : Int))) = false → R ((1 : Nat)) (.exit ((0 : Nat))) ⟨⟨[(.int IntKind.i64 ((↑i : Int))), (.int IntKind.i64 (p))], [⟨(n), (d)⟩, ⟨(i), (i)⟩, ⟨(n), (c)⟩]⟩, [(mvs n f), (ints n g), (ls)], []⟩))) := by kernel_rfl

theorem f13z (p : Int) (n c d : Nat) (f : Nat → Mv) (g : Nat → Int) (ls : List Value) (R : Hx → Prop)  : (vx.call 13 [hV p n c, slV 1 n d] (retN (rowT2 2 37) R) (m2 (mvs n f) (ints n g)) ((7, Hint.con ((C39 p n c f n d g).when (ARes.ret (Value.bool true)))) :: (0, Hint.again) :: (4, Hint.con ((C21 p n c f).when (ARes.ret (Value.bool true)))) :: (12, Hint.loopW T13y (AExit.exit (0 : Nat)) T13z fun _ =>   { hs := { vs := [I (↑n : Int), I p], ns := [(n, d), (n, n), (n, c)] }, ls := [mvs n f, ints n g, ls], es := [] }) :: [(3, Hint.tm (0 : Nat) [((2 : Nat), (4 : Nat))])])) =
(((ConOK Tryz.prog ((43 : Nat)) ((C39 p n c f n d g).when (ARes.ret (Value.bool true)))) ∧ (Con.pre ((C39 p n c f n d g).when (ARes.ret (Value.bool true))) ⟨⟨[(.int IntKind.i64 (p))], [⟨(n), (c)⟩, ⟨(n), (d)⟩]⟩, [(mvs n f), (ints n g)]⟩) ∧ 
((((((2 : Nat) ≤ (2 : Nat))) ∧ (((.agg ⟨[(.int IntKind.i64 (p)), (.slice (.some ⟨((0 : Nat)), ((0 : Nat)), .none⟩) (n) (c))]⟩) : Value) = (.agg ⟨[(.int IntKind.i64 (p)), (.slice (.some ⟨((0 : Nat)), ((0 : Nat)), .none⟩) (n) (c))]⟩))) ∧ (True)) ∧ 
((ConOK Tryz.prog ((54 : Nat)) ((C21 p n c f).when (ARes.ret (Value.bool true)))) ∧ (Con.pre ((C21 p n c f).when (ARes.ret (Value.bool true))) ⟨⟨[(.int IntKind.i64 (p))], [⟨(n), (c)⟩]⟩, [(mvs n f)]⟩) ∧ 
((ClW ⟨⟨[(.int IntKind.i64 ((0 : Int))), (.int IntKind.i64 (p))], [⟨(n), (d)⟩, ⟨(n), (c)⟩]⟩, [(mvs n f), (ints n g)], []⟩) ∧ (LoopOW Tryz.prog .none p13z (T13y) ⟨⟨[(.int IntKind.i64 ((0 : Int))), (.int IntKind.i64 (p))], [⟨(n), (d)⟩, ⟨(n), (c)⟩]⟩, [(mvs n f), (ints n g)], []⟩ (.exit ((0 : Nat))) (T13z) ⟨⟨[(.int IntKind.i64 ((↑n : Int))), (.int IntKind.i64 (p))], [⟨(n), (d)⟩, ⟨(n), (n)⟩, ⟨(n), (c)⟩]⟩, [(mvs n f), (ints n g), (ls)], []⟩) ∧ 
R ⟨⟨[(.int IntKind.i64 ((0 : Int)))], [⟨(n), (n)⟩]⟩, [(ls)]⟩))))) := by kernel_rfl

theorem f13e (p : Int) (n c k d : Nat) (f : Nat → Mv) (g : Nat → Int) (R : ARes → Prop)  : (vx.call 13 [hV p n c, slV 1 k d] (retK R) (m2 (mvs n f) (ints k g)) ((7, Hint.con ((C39 p n c f k d g).when (ARes.ret (Value.bool false)))) :: (0, Hint.again) :: (4, Hint.con ((C21 p n c f).when (ARes.ret (Value.bool true)))) :: [])) =
(((ConOK Tryz.prog ((43 : Nat)) ((C39 p n c f k d g).when (ARes.ret (Value.bool false)))) ∧ (Con.pre ((C39 p n c f k d g).when (ARes.ret (Value.bool false))) ⟨⟨[(.int IntKind.i64 (p))], [⟨(n), (c)⟩, ⟨(k), (d)⟩]⟩, [(mvs n f), (ints k g)]⟩) ∧ 
((((((2 : Nat) ≤ (2 : Nat))) ∧ (((.agg ⟨[(.int IntKind.i64 (p)), (.slice (.some ⟨((0 : Nat)), ((0 : Nat)), .none⟩) (n) (c))]⟩) : Value) = (.agg ⟨[(.int IntKind.i64 (p)), (.slice (.some ⟨((0 : Nat)), ((0 : Nat)), .none⟩) (n) (c))]⟩))) ∧ (True)) ∧ 
((ConOK Tryz.prog ((54 : Nat)) ((C21 p n c f).when (ARes.ret (Value.bool true)))) ∧ (Con.pre ((C21 p n c f).when (ARes.ret (Value.bool true))) ⟨⟨[(.int IntKind.i64 (p))], [⟨(n), (c)⟩]⟩, [(mvs n f)]⟩) ∧ 
R (.ret (.tuple ⟨[(.slice .none ((0 : Nat)) ((0 : Nat))), (.int IntKind.i64 ((2 : Int)))]⟩)))))) := by kernel_rfl

theorem f13a (p : Int) (n c k d : Nat) (b : Bool) (f : Nat → Mv) (g : Nat → Int) (R : ARes → Prop)  : (vx.call 13 [hV p n c, slV 1 k d] (retK R) (m2 (mvs n f) (ints k g)) ((7, Hint.con ((C39 p n c f k d g).when (ARes.ret (Value.bool b)))) :: (0, Hint.again) :: (4, Hint.con ((C21 p n c f).when (ARes.ret (Value.bool false)))) :: [])) =
(((ConOK Tryz.prog ((43 : Nat)) ((C39 p n c f k d g).when (ARes.ret (Value.bool b)))) ∧ (Con.pre ((C39 p n c f k d g).when (ARes.ret (Value.bool b))) ⟨⟨[(.int IntKind.i64 (p))], [⟨(n), (c)⟩, ⟨(k), (d)⟩]⟩, [(mvs n f), (ints k g)]⟩) ∧ 
((((((2 : Nat) ≤ (2 : Nat))) ∧ (((.agg ⟨[(.int IntKind.i64 (p)), (.slice (.some ⟨((0 : Nat)), ((0 : Nat)), .none⟩) (n) (c))]⟩) : Value) = (.agg ⟨[(.int IntKind.i64 (p)), (.slice (.some ⟨((0 : Nat)), ((0 : Nat)), .none⟩) (n) (c))]⟩))) ∧ (True)) ∧ 
((ConOK Tryz.prog ((54 : Nat)) ((C21 p n c f).when (ARes.ret (Value.bool false)))) ∧ (Con.pre ((C21 p n c f).when (ARes.ret (Value.bool false))) ⟨⟨[(.int IntKind.i64 (p))], [⟨(n), (c)⟩]⟩, [(mvs n f)]⟩) ∧ 
R (.ret (.tuple ⟨[(.slice .none ((0 : Nat)) ((0 : Nat))), (.int IntKind.i64 ((1 : Int)))]⟩)))))) := by kernel_rfl

theorem K48at (sl : Bool) {p : Int} {n c d : Nat} {f : Nat → Mv} {g : Nat → Int} (hok : okH p n f = true) {i : Nat} (hi : i < n) : ConOK Tryz.prog 48 (K48i sl p n c d f g i) := by
  obtain ⟨j, h1, rfl⟩ := (srt_ok (atF f) n).all i hi
  exact K48i_ok sl (c := c) (d := d) (g := g) hok n j h1 h1
noncomputable def st13z (p : Int) (n c d : Nat) (f : Nat → Mv) (g : Nat → Int) (i : Nat) : Nat × Hw := if i = 0 then (0, ⟨⟨[I (0 : Nat), I p], [(n, d), (n, c)]⟩, [mvs n f, ints n g], []⟩) else (1, ⟨⟨[I i, I p], [(n, d), (i, i), (n, c)]⟩, [mvs n f, ints n g, spansC i (latS false p n f g) (latS true p n f g)], []⟩)
theorem st13z_cl (p : Int) (n c d : Nat) (f : Nat → Mv) (g : Nat → Int) (i : Nat) : ClW (st13z p n c d f g i).2 := by
  simp only [st13z]
  split
  · exact clL two_at
  · refine clL fun cs hcs => ?_
    simp only [List.mem_cons, List.not_mem_nil, or_false] at hcs
    rcases hcs with rfl | rfl | rfl
    · exact mvs_atom n f
    · exact ints_atom n g
    · exact spansC_atoms i _ _
theorem loop13z (p : Int) (n c d : Nat) (f : Nat → Mv) (g : Nat → Int) (h0 : 0 < n) (hok : okH p n f = true) :
    LoopOW Tryz.prog none p13z T13y ⟨⟨[I (0 : Nat), I p], [(n, d), (n, c)]⟩, [mvs n f, ints n g], []⟩ (.exit 0) T13z ⟨⟨[I n, I p], [(n, d), (n, n), (n, c)]⟩, [mvs n f, ints n g, spansC n (latS false p n f g) (latS true p n f g)], []⟩ := by
  have h7 := (okH_iff hok).n7
  have hst : ∀ i, 0 < i → st13z p n c d f g i = (1, ⟨⟨[I i, I p], [(n, d), (i, i), (n, c)]⟩, [mvs n f, ints n g, spansC i (latS false p n f g) (latS true p n f g)], []⟩) := fun i hi => by simp only [st13z, if_neg (show ¬ i = 0 by omega)]
  have := loop_forW (P := Tryz.prog) (ro := none) (p := p13z) (Ts := [T13y, T13z]) (k := 4) (n := n) (st := st13z p n c d f g) (e := .exit 0) rfl vx_sound (by intro T hT; simp only [List.mem_cons, List.not_mem_nil, or_false] at hT; rcases hT with rfl | rfl <;> rfl) (by rw [nglob]; omega) ⟨by simp, trivial⟩ (fun i _ => st13z_cl p n c d f g i)
    (fun i hi R hR => ?_) (fun R hR => ?_) (T0 := T13y) (T1 := T13z) rfl (Nat.le_of_ble_eq_true rfl) (by decide) (by rw [hst n h0]; rfl)
  · rw [hst n h0] at this
    exact this
  · have hw : IntKind.i64.wrap ((i : Int) + 1) = ((i + 1 : Nat) : Int) := wrapI (by omega) (by omega)
    rw [hst (i + 1) (by omega)] at hR
    have l1 := lat_beg g hok false hi
    have l2 := lat_beg g hok true hi
    have k1 := K48at false (c := c) (d := d) (g := g) hok hi
    have k2 := K48at true (c := c) (d := d) (g := g) hok hi
    have b1 := flatC_bound (k := 4) hi
    by_cases hz : i = 0
    · subst hz
      refine ⟨T13y, _, rfl, (b13y p 0 n c d f g R).mpr ⟨fun _ => ?_, fun h => absurd hi (by simpa using h)⟩⟩
      rw [hw, l1, l2]
      repeat' (first | with_reducible apply And.intro | with_reducible intro)
      all_goals first
        | trivial
        | exact k1
        | exact k2
        | exact hR
        | omega
        | rfl
        | exact mc0 f hi
    · rw [hst i (by omega)]
      have hl := spansC_len i (latS false p n f g) (latS true p n f g)
      refine ⟨T13z, _, rfl, (b13x p i n c d f g (spansC i (latS false p n f g) (latS true p n f g)) R).mpr ⟨fun _ => ?_, fun h => absurd hi (by simpa using h)⟩⟩
      rw [hw, l1, l2, List.take_of_length_le (by omega)]
      rw [spansC_succ] at hR
      repeat' (first | with_reducible apply And.intro | with_reducible intro)
      all_goals first
        | trivial
        | exact k1
        | exact k2
        | exact hR
        | omega
        | rfl
        | exact mc0 f hi
  · rw [hst n h0] at hR ⊢
    exact ⟨T13z, _, rfl, (b13x p n n c d f g (spansC n (latS false p n f g) (latS true p n f g)) R).mpr ⟨fun h => absurd (of_decide_eq_true h) (by omega), fun _ => hR⟩⟩
theorem K13_ok (p : Int) (n c d : Nat) (f : Nat → Mv) (g : Nat → Int) (h0 : 0 < n) (hok : okH p n f = true) (hpl : okP n n g = true) : ConNOK Tryz.prog 13 (C15 p n c d f g) := by
  have h7 := (okH_iff hok).n7
  refine conRow2_of rfl vx_sound (C := C15 p n c d f g) (n := n) (z := 0) (cells := spansC n (latS false p n f g) (latS true p n f g)) (e := 37) ⟨⟨[I p], [(n, c), (n, d)]⟩, [mvs n f, ints n g]⟩ (fun x => Iff.rfl) rfl rfl rfl ?_ two_atoms (spansC_atoms n _ _) rfl (Nat.le_of_ble_eq_true rfl) (by rw [nglob]; exact Nat.zero_le _)
  refine ⟨_, (f13z p n c d f g (spansC n (latS false p n f g) (latS true p n f g)) _).mpr ⟨con_when (K43_ok p n c f n d g (by omega)) _, ⟨rfl, ?_⟩, ⟨⟨by omega, rfl⟩, trivial⟩, con_when (C21_ok p n c f (by omega)) _, ⟨rfl, ?_⟩, clL two_at, loop13z p n c d f g h0 hok, rfl⟩⟩
  · show ARes.ret (.bool (okP n n g)) = _
    rw [hpl]
  · show ARes.ret (.bool (okH p n f)) = _
    rw [hok]
theorem K13e_ok (p : Int) (n c k d : Nat) (f : Nat → Mv) (g : Nat → Int) (hk : k ≤ 1000000) (hok : okH p n f = true) (hpl : okP n k g = false) : ConOK Tryz.prog 13 (C15e p n c k d f g (ints k g)) := by
  have h7 := (okH_iff hok).n7
  refine con_of vx_sound ⟨⟨[I p], [(n, c), (k, d)]⟩, [mvs n f, ints k g]⟩ (fun x hx => ?_) rfl (fun _ _ => rfl) (fun x hx => by cases hx; exact two_at) rfl (Nat.le_of_ble_eq_true rfl) (by rw [nglob]; exact Nat.zero_le _)
  cases hx
  refine ⟨_, (f13e p n c k d f g _).mpr ⟨con_when (K43_ok p n c f k d g hk) _, ⟨rfl, ?_⟩, ⟨⟨by omega, rfl⟩, trivial⟩, con_when (C21_ok p n c f (by omega)) _, ⟨rfl, ?_⟩, rfl⟩⟩
  · show ARes.ret (.bool (okP n k g)) = _
    rw [hpl]
  · show ARes.ret (.bool (okH p n f)) = _
    rw [hok]
noncomputable def C15v (p : Int) (n c k d : Nat) (f : Nat → Mv) (g : Nat → Int) : Con := { C15e p n c k d f g (ints k g) with res := fun _ => .ret (.tuple ⟨[nilS, I 1]⟩) }
theorem K13a_ok (p : Int) (n c k d : Nat) (f : Nat → Mv) (g : Nat → Int) (hn : n ≤ 1000000) (hk : k ≤ 1000000) (hok : okH p n f = false) : ConOK Tryz.prog 13 (C15v p n c k d f g) := by
  refine con_of vx_sound ⟨⟨[I p], [(n, c), (k, d)]⟩, [mvs n f, ints k g]⟩ (fun x hx => ?_) rfl (fun _ _ => rfl) (fun x hx => by cases hx; exact two_at) rfl (Nat.le_of_ble_eq_true rfl) (by rw [nglob]; exact Nat.zero_le _)
  cases hx
  refine ⟨_, (f13a p n c k d (okP n k g) f g _).mpr ⟨con_when (K43_ok p n c f k d g hk) _, ⟨rfl, rfl⟩, ⟨⟨by omega, rfl⟩, trivial⟩, con_when (C21_ok p n c f hn) _, ⟨rfl, ?_⟩, rfl⟩⟩
  show ARes.ret (.bool (okH p n f)) = _
  rw [hok]
end Go.Ab

/- the document's words: Check. -/
set_option maxRecDepth 100000
namespace Go.Ab
open Go Go.RowKit Go.Proofs
theorem b11it (p : Int) (a b n c d : Nat) (f : Nat → Mv) (g : Nat → Int) (R : Nat → AExit → Hw → Prop)  : (vx.code none (.l p11i) (leafW [T11i, R11] R) (T11i.inst ⟨⟨[.bool true, I a, I b, I p], [(n, d), (n, c)]⟩, [mvs n f, ints n g], []⟩) ([(3, .split ((3, .val (.pointer (.some ⟨((1 : Nat)), ((0 : Nat) + a * (1 : Nat)), .none⟩))) :: (0, .val (.int IntKind.i64 (g a))) :: (2, .val (.pointer (.some ⟨((1 : Nat)), ((0 : Nat) + b * (1 : Nat)), .none⟩))) :: (0, .val (.int IntKind.i64 (g b))) :: [(0, .split ((5, Hint.con (K44i true p n c f a b)) :: [(0, .split ([(6, Hint.tm (1 : Nat) [])]) ([(4, Hint.tm (0 : Nat) [])]))]) ([(6, Hint.tm (0 : Nat) [])]))]) ([(1, Hint.tm (0 : Nat) [])]))])) =
((((decide ((↑b : Int) < (↑n : Int))) = true → ((((((0 : Int) ≤ (↑a : Int))) ∧ (((↑a : Int) < (↑n : Int)))) ∧ (((.pointer (.some ⟨((1 : Nat)), ((0 : Nat) + a * (1 : Nat)), .none⟩)) : Value) = (.pointer (.some ⟨((1 : Nat)), ((0 : Nat) + a * (1 : Nat)), .none⟩)))) ∧
((((ints n g)[(0 : Nat) + a * (1 : Nat)]? = some (.int IntKind.i64 (g a)))) ∧
((((((0 : Int) ≤ (↑b : Int))) ∧ (((↑b : Int) < (↑n : Int)))) ∧ (((.pointer (.some ⟨((1 : Nat)), ((0 : Nat) + b * (1 : Nat)), .none⟩)) : Value) = (.pointer (.some ⟨((1 : Nat)), ((0 : Nat) + b * (1 : Nat)), .none⟩)))) ∧
((((ints n g)[(0 : Nat) + b * (1 : Nat)]? = some (.int IntKind.i64 (g b)))) ∧
(((g a == g b) = true → ((ConOK Tryz.prog ((44 : Nat)) (K44i true p n c f a b)) ∧ (Con.pre (K44i true p n c f a b) ⟨⟨[(.int IntKind.i64 (p)), (.int IntKind.i64 ((↑a : Int))), (.int IntKind.i64 ((↑b : Int)))], [⟨(n), (c)⟩]⟩, [(mvs n f)]⟩) ∧ 
(((match true with | true => aptB true p f a b | false => false) = true → R ((1 : Nat)) .ret ⟨⟨[(.int IntKind.i64 ((↑a : Int))), (.int IntKind.i64 ((↑b : Int))), (.int IntKind.i64 ((0 : Int)))], []⟩, [], []⟩) ∧
((match true with | true => aptB true p f a b | false => false) = false → R ((0 : Nat)) .normal ⟨⟨[(.bool true), (.int IntKind.i64 ((↑a : Int))), (.int IntKind.i64 (IntKind.i64.wrap ((↑b : Int) + (1 : Int)))), (.int IntKind.i64 (p))], [⟨(n), (d)⟩, ⟨(n), (c)⟩]⟩, [(mvs n f), (ints n g)], []⟩)))) ∧
((g a == g b) = false → R ((0 : Nat)) .normal ⟨⟨[(.bool true), (.int IntKind.i64 ((↑a : Int))), (.int IntKind.i64 (IntKind.i64.wrap ((↑b : Int) + (1 : Int)))), (.int IntKind.i64 (p))], [⟨(n), (d)⟩, ⟨(n), (c)⟩]⟩, [(mvs n f), (ints n g)], []⟩))))))) ∧
((decide ((↑b : Int) < (↑n : Int))) = false → R ((0 : Nat)) (.exit ((2 : Nat))) ⟨⟨[(.bool true), (.int IntKind.i64 ((↑a : Int))), (.int IntKind.i64 ((↑b : Int))), (.int IntKind.i64 (p))], [⟨(n), (d)⟩, ⟨(n), (c)⟩]⟩, [(mvs n f), (ints n g)], []⟩))) := by kernel_rfl

theorem b11if (p : Int) (a b n c d : Nat) (f : Nat → Mv) (g : Nat → Int) (R : Nat → AExit → Hw → Prop)  : (vx.code none (.l p11i) (leafW [T11i, R11] R) (T11i.inst ⟨⟨[.bool false, I a, I b, I p], [(n, d), (n, c)]⟩, [mvs n f, ints n g], []⟩) ([(3, .split ((3, .val (.pointer (.some ⟨((1 : Nat)), ((0 : Nat) + a * (1 : Nat)), .none⟩))) :: (0, .val (.int IntKind.i64 (g a))) :: (2, .val (.pointer (.some ⟨((1 : Nat)), ((0 : Nat) + b * (1 : Nat)), .none⟩))) :: (0, .val (.int IntKind.i64 (g b))) :: [(0, .split ((5, Hint.con (K44i false p n c f a b)) :: [(0, .split ([(6, Hint.tm (1 : Nat) [])]) ([(4, Hint.tm (0 : Nat) [])]))]) ([(6, Hint.tm (0 : Nat) [])]))]) ([(1, Hint.tm (0 : Nat) [])]))])) =
((((decide ((↑b : Int) < (↑n : Int))) = true → ((((((0 : Int) ≤ (↑a : Int))) ∧ (((↑a : Int) < (↑n : Int)))) ∧ (((.pointer (.some ⟨((1 : Nat)), ((0 : Nat) + a * (1 : Nat)), .none⟩)) : Value) = (.pointer (.some ⟨((1 : Nat)), ((0 : Nat) + a * (1 : Nat)), .none⟩)))) ∧
((((ints n g)[(0 : Nat) + a * (1 : Nat)]? = some (.int IntKind.i64 (g a)))) ∧
((((((0 : Int) ≤ (↑b : Int))) ∧ (((↑b : Int) < (↑n : Int)))) ∧ (((.pointer (.some ⟨((1 : Nat)), ((0 : Nat) + b * (1 : Nat)), .none⟩)) : Value) = (.pointer (.some ⟨((1 : Nat)), ((0 : Nat) + b * (1 : Nat)), .none⟩)))) ∧
((((ints n g)[(0 : Nat) + b * (1 : Nat)]? = some (.int IntKind.i64 (g b)))) ∧
(((g a == g b) = true → ((ConOK Tryz.prog ((44 : Nat)) (K44i false p n c f a b)) ∧ (Con.pre (K44i false p n c f a b) ⟨⟨[(.int IntKind.i64 (p)), (.int IntKind.i64 ((↑a : Int))), (.int IntKind.i64 ((↑b : Int)))], [⟨(n), (c)⟩]⟩, [(mvs n f)]⟩) ∧ 
(((match true with | true => aptB false p f a b | false => false) = true → R ((1 : Nat)) .ret ⟨⟨[(.int IntKind.i64 ((↑a : Int))), (.int IntKind.i64 ((↑b : Int))), (.int IntKind.i64 ((0 : Int)))], []⟩, [], []⟩) ∧
((match true with | true => aptB false p f a b | false => false) = false → R ((0 : Nat)) .normal ⟨⟨[(.bool false), (.int IntKind.i64 ((↑a : Int))), (.int IntKind.i64 (IntKind.i64.wrap ((↑b : Int) + (1 : Int)))), (.int IntKind.i64 (p))], [⟨(n), (d)⟩, ⟨(n), (c)⟩]⟩, [(mvs n f), (ints n g)], []⟩)))) ∧
((g a == g b) = false → R ((0 : Nat)) .normal ⟨⟨[(.bool false), (.int IntKind.i64 ((↑a : Int))), (.int IntKind.i64 (IntKind.i64.wrap ((↑b : Int) + (1 : Int)))), (.int IntKind.i64 (p))], [⟨(n), (d)⟩, ⟨(n), (c)⟩]⟩, [(mvs n f), (ints n g)], []⟩))))))) ∧
((decide ((↑b : Int) < (↑n : Int))) = false → R ((0 : Nat)) (.exit ((2 : Nat))) ⟨⟨[(.bool false), (.int IntKind.i64 ((↑a : Int))), (.int IntKind.i64 ((↑b : Int))), (.int IntKind.i64 (p))], [⟨(n), (d)⟩, ⟨(n), (c)⟩]⟩, [(mvs n f), (ints n g)], []⟩))) := by kernel_rfl

theorem b11on (p : Int) (sure : Bool) (a n c d : Nat) (f : Nat → Mv) (g : Nat → Int) (R : Nat → AExit → Hw → Prop)  : (vx.code none (.l p11o) (leafW [T11o, R11] R) (T11o.inst ⟨⟨[.bool sure, I a, I p], [(n, d), (n, c)]⟩, [mvs n f, ints n g], []⟩) ([(3, .split ((4, Hint.loopW T11i (AExit.exit (2 : Nat)) T11i fun _ =>   { hs := { vs := [Value.bool sure, I (↑a : Int), I (↑n : Int), I p], ns := [(n, d), (n, c)] },     ls := [mvs n f, ints n g], es := [] }) :: [(3, Hint.tm (0 : Nat) [])]) ([(1, Hint.tm (0 : Nat) [])]))])) =
((((decide ((↑a : Int) < (↑n : Int))) = true → ((ClW ⟨⟨[(.bool (sure)), (.int IntKind.i64 ((↑a : Int))), (.int IntKind.i64 (IntKind.i64.wrap ((↑a : Int) + (1 : Int)))), (.int IntKind.i64 (p))], [⟨(n), (d)⟩, ⟨(n), (c)⟩]⟩, [(mvs n f), (ints n g)], []⟩) ∧ (LoopOW Tryz.prog .none p11i (T11i) ⟨⟨[(.bool (sure)), (.int IntKind.i64 ((↑a : Int))), (.int IntKind.i64 (IntKind.i64.wrap ((↑a : Int) + (1 : Int)))), (.int IntKind.i64 (p))], [⟨(n), (d)⟩, ⟨(n), (c)⟩]⟩, [(mvs n f), (ints n g)], []⟩ (.exit ((2 : Nat))) (T11i) ⟨⟨[(.bool (sure)), (.int IntKind.i64 ((↑a : Int))), (.int IntKind.i64 ((↑n : Int))), (.int IntKind.i64 (p))], [⟨(n), (d)⟩, ⟨(n), (c)⟩]⟩, [(mvs n f), (ints n g)], []⟩) ∧ 
R ((0 : Nat)) .normal ⟨⟨[(.bool (sure)), (.int IntKind.i64 (IntKind.i64.wrap ((↑a : Int) + (1 : Int)))), (.int IntKind.i64 (p))], [⟨(n), (d)⟩, ⟨(n), (c)⟩]⟩, [(mvs n f), (ints n g)], []⟩)) ∧
((decide ((↑a : Int) < (↑n : Int))) = false → R ((0 : Nat)) (.exit ((0 : Nat))) ⟨⟨[(.bool (sure)), (.int IntKind.i64 ((↑a : Int))), (.int IntKind.i64 (p))], [⟨(n), (d)⟩, ⟨(n), (c)⟩]⟩, [(mvs n f), (ints n g)], []⟩))) := by kernel_rfl

theorem b11or (p : Int) (sure : Bool) (a b n c d : Nat) (f : Nat → Mv) (g : Nat → Int) (R : Nat → AExit → Hw → Prop)  : (vx.code none (.l p11o) (leafW [T11o, R11] R) (T11o.inst ⟨⟨[.bool sure, I a, I p], [(n, d), (n, c)]⟩, [mvs n f, ints n g], []⟩) ([(3, .split ((4, Hint.loopW T11i AExit.ret R11 fun _ =>   { hs := { vs := [I (↑a : Int), I (↑b : Int), I (0 : Int)], ns := [] }, ls := [], es := [] }) :: [(0, Hint.tm (1 : Nat) [])]) ([(1, Hint.tm (0 : Nat) [])]))])) =
((((decide ((↑a : Int) < (↑n : Int))) = true → ((ClW ⟨⟨[(.bool (sure)), (.int IntKind.i64 ((↑a : Int))), (.int IntKind.i64 (IntKind.i64.wrap ((↑a : Int) + (1 : Int)))), (.int IntKind.i64 (p))], [⟨(n), (d)⟩, ⟨(n), (c)⟩]⟩, [(mvs n f), (ints n g)], []⟩) ∧ (LoopOW Tryz.prog .none p11i (T11i) ⟨⟨[(.bool (sure)), (.int IntKind.i64 ((↑a : Int))), (.int IntKind.i64 (IntKind.i64.wrap ((↑a : Int) + (1 : Int)))), (.int IntKind.i64 (p))], [⟨(n), (d)⟩, ⟨(n), (c)⟩]⟩, [(mvs n f), (ints n g)], []⟩ .ret (R11) ⟨⟨[(.int IntKind.i64 ((↑a : Int))), (.int IntKind.i64 ((↑b : Int))), (.int IntKind.i64 ((0 : Int)))], []⟩, [], []⟩) ∧ 
R ((1 : Nat)) .ret ⟨⟨[(.int IntKind.i64 ((↑a : Int))), (.int IntKind.i64 ((↑b : Int))), (.int IntKind.i64 ((0 : Int)))], []⟩, [], []⟩)) ∧
((decide ((↑a : Int) < (↑n : Int))) = false → R ((0 : Nat)) (.exit ((0 : Nat))) ⟨⟨[(.bool (sure)), (.int IntKind.i64 ((↑a : Int))), (.int IntKind.i64 (p))], [⟨(n), (d)⟩, ⟨(n), (c)⟩]⟩, [(mvs n f), (ints n g)], []⟩))) := by kernel_rfl

theorem f11n (p : Int) (sure : Bool) (n c d : Nat) (f : Nat → Mv) (g : Nat → Int) (R : ARes → Prop)  : (vx.call 11 [hV p n c, slV 1 n d, .bool sure] (retK R) (m2 (mvs n f) (ints n g)) ((8, Hint.con ((C39 p n c f n d g).when (ARes.ret (Value.bool true)))) :: (0, Hint.again) :: (4, Hint.con ((C21 p n c f).when (ARes.ret (Value.bool true)))) :: (11, Hint.loopW T11o (AExit.exit (0 : Nat)) T11o fun _ =>   { hs := { vs := [Value.bool sure, I (↑n : Int), I p], ns := [(n, d), (n, c)] }, ls := [mvs n f, ints n g], es := [] }) :: [])) =
(((ConOK Tryz.prog ((43 : Nat)) ((C39 p n c f n d g).when (ARes.ret (Value.bool true)))) ∧ (Con.pre ((C39 p n c f n d g).when (ARes.ret (Value.bool true))) ⟨⟨[(.int IntKind.i64 (p))], [⟨(n), (c)⟩, ⟨(n), (d)⟩]⟩, [(mvs n f), (ints n g)]⟩) ∧ 
((((((2 : Nat) ≤ (2 : Nat))) ∧ (((.agg ⟨[(.int IntKind.i64 (p)), (.slice (.some ⟨((0 : Nat)), ((0 : Nat)), .none⟩) (n) (c))]⟩) : Value) = (.agg ⟨[(.int IntKind.i64 (p)), (.slice (.some ⟨((0 : Nat)), ((0 : Nat)), .none⟩) (n) (c))]⟩))) ∧ (True)) ∧ 
((ConOK Tryz.prog ((54 : Nat)) ((C21 p n c f).when (ARes.ret (Value.bool true)))) ∧ (Con.pre ((C21 p n c f).when (ARes.ret (Value.bool true))) ⟨⟨[(.int IntKind.i64 (p))], [⟨(n), (c)⟩]⟩, [(mvs n f)]⟩) ∧ 
((ClW ⟨⟨[(.bool (sure)), (.int IntKind.i64 ((0 : Int))), (.int IntKind.i64 (p))], [⟨(n), (d)⟩, ⟨(n), (c)⟩]⟩, [(mvs n f), (ints n g)], []⟩) ∧ (LoopOW Tryz.prog .none p11o (T11o) ⟨⟨[(.bool (sure)), (.int IntKind.i64 ((0 : Int))), (.int IntKind.i64 (p))], [⟨(n), (d)⟩, ⟨(n), (c)⟩]⟩, [(mvs n f), (ints n g)], []⟩ (.exit ((0 : Nat))) (T11o) ⟨⟨[(.bool (sure)), (.int IntKind.i64 ((↑n : Int))), (.int IntKind.i64 (p))], [⟨(n), (d)⟩, ⟨(n), (c)⟩]⟩, [(mvs n f), (ints n g)], []⟩) ∧ 
R (.ret (.tuple ⟨[(.int IntKind.i64 ((0 : Int))), (.int IntKind.i64 ((0 : Int))), (.int IntKind.i64 ((4 : Int)))]⟩))))))) := by kernel_rfl

theorem f11r (p : Int) (sure : Bool) (a b n c d : Nat) (f : Nat → Mv) (g : Nat → Int) (R : ARes → Prop)  : (vx.call 11 [hV p n c, slV 1 n d, .bool sure] (retK R) (m2 (mvs n f) (ints n g)) ((8, Hint.con ((C39 p n c f n d g).when (ARes.ret (Value.bool true)))) :: (0, Hint.again) :: (4, Hint.con ((C21 p n c f).when (ARes.ret (Value.bool true)))) :: (11, Hint.loopW T11o AExit.ret R11 fun _ =>   { hs := { vs := [I (↑a : Int), I (↑b : Int), I (0 : Int)], ns := [] }, ls := [], es := [] }) :: [])) =
(((ConOK Tryz.prog ((43 : Nat)) ((C39 p n c f n d g).when (ARes.ret (Value.bool true)))) ∧ (Con.pre ((C39 p n c f n d g).when (ARes.ret (Value.bool true))) ⟨⟨[(.int IntKind.i64 (p))], [⟨(n), (c)⟩, ⟨(n), (d)⟩]⟩, [(mvs n f), (ints n g)]⟩) ∧ 
((((((2 : Nat) ≤ (2 : Nat))) ∧ (((.agg ⟨[(.int IntKind.i64 (p)), (.slice (.some ⟨((0 : Nat)), ((0 : Nat)), .none⟩) (n) (c))]⟩) : Value) = (.agg ⟨[(.int IntKind.i64 (p)), (.slice (.some ⟨((0 : Nat)), ((0 : Nat)), .none⟩) (n) (c))]⟩))) ∧ (True)) ∧ 
((ConOK Tryz.prog ((54 : Nat)) ((C21 p n c f).when (ARes.ret (Value.bool true)))) ∧ (Con.pre ((C21 p n c f).when (ARes.ret (Value.bool true))) ⟨⟨[(.int IntKind.i64 (p))], [⟨(n), (c)⟩]⟩, [(mvs n f)]⟩) ∧ 
((ClW ⟨⟨[(.bool (sure)), (.int IntKind.i64 ((0 : Int))), (.int IntKind.i64 (p))], [⟨(n), (d)⟩, ⟨(n), (c)⟩]⟩, [(mvs n f), (ints n g)], []⟩) ∧ (LoopOW Tryz.prog .none p11o (T11o) ⟨⟨[(.bool (sure)), (.int IntKind.i64 ((0 : Int))), (.int IntKind.i64 (p))], [⟨(n), (d)⟩, ⟨(n), (c)⟩]⟩, [(mvs n f), (ints n g)], []⟩ .ret (R11) ⟨⟨[(.int IntKind.i64 ((↑a : Int))), (.int IntKind.i64 ((↑b : Int))), (.int IntKind.i64 ((0 : Int)))], []⟩, [], []⟩) ∧ 
R (.ret (.tuple ⟨[(.int IntKind.i64 ((↑a : Int))), (.int IntKind.i64 ((↑b : Int))), (.int IntKind.i64 ((0 : Int)))]⟩))))))) := by kernel_rfl

theorem f11e (p : Int) (sure : Bool) (n c k d : Nat) (f : Nat → Mv) (g : Nat → Int) (R : ARes → Prop)  : (vx.call 11 [hV p n c, slV 1 k d, .bool sure] (retK R) (m2 (mvs n f) (ints k g)) ((8, Hint.con ((C39 p n c f k d g).when (ARes.ret (Value.bool false)))) :: (0, Hint.again) :: (4, Hint.con ((C21 p n c f).when (ARes.ret (Value.bool true)))) :: [])) =
(((ConOK Tryz.prog ((43 : Nat)) ((C39 p n c f k d g).when (ARes.ret (Value.bool false)))) ∧ (Con.pre ((C39 p n c f k d g).when (ARes.ret (Value.bool false))) ⟨⟨[(.int IntKind.i64 (p))], [⟨(n), (c)⟩, ⟨(k), (d)⟩]⟩, [(mvs n f), (ints k g)]⟩) ∧ 
((((((2 : Nat) ≤ (2 : Nat))) ∧ (((.agg ⟨[(.int IntKind.i64 (p)), (.slice (.some ⟨((0 : Nat)), ((0 : Nat)), .none⟩) (n) (c))]⟩) : Value) = (.agg ⟨[(.int IntKind.i64 (p)), (.slice (.some ⟨((0 : Nat)), ((0 : Nat)), .none⟩) (n) (c))]⟩))) ∧ (True)) ∧ 
((ConOK Tryz.prog ((54 : Nat)) ((C21 p n c f).when (ARes.ret (Value.bool true)))) ∧ (Con.pre ((C21 p n c f).when (ARes.ret (Value.bool true))) ⟨⟨[(.int IntKind.i64 (p))], [⟨(n), (c)⟩]⟩, [(mvs n f)]⟩) ∧ 
R (.ret (.tuple ⟨[(.int IntKind.i64 ((0 : Int))), (.int IntKind.i64 ((0 : Int))), (.int IntKind.i64 ((2 : Int)))]⟩)))))) := by kernel_rfl

theorem f11a (p : Int) (sure b : Bool) (n c k d : Nat) (f : Nat → Mv) (g : Nat → Int) (R : ARes → Prop)  : (vx.call 11 [hV p n c, slV 1 k d, .bool sure] (retK R) (m2 (mvs n f) (ints k g)) ((8, Hint.con ((C39 p n c f k d g).when (ARes.ret (Value.bool b)))) :: (0, Hint.again) :: (4, Hint.con ((C21 p n c f).when (ARes.ret (Value.bool false)))) :: [])) =
(((ConOK Tryz.prog ((43 : Nat)) ((C39 p n c f k d g).when (ARes.ret (Value.bool b)))) ∧ (Con.pre ((C39 p n c f k d g).when (ARes.ret (Value.bool b))) ⟨⟨[(.int IntKind.i64 (p))], [⟨(n), (c)⟩, ⟨(k), (d)⟩]⟩, [(mvs n f), (ints k g)]⟩) ∧ 
((((((2 : Nat) ≤ (2 : Nat))) ∧ (((.agg ⟨[(.int IntKind.i64 (p)), (.slice (.some ⟨((0 : Nat)), ((0 : Nat)), .none⟩) (n) (c))]⟩) : Value) = (.agg ⟨[(.int IntKind.i64 (p)), (.slice (.some ⟨((0 : Nat)), ((0 : Nat)), .none⟩) (n) (c))]⟩))) ∧ (True)) ∧ 
((ConOK Tryz.prog ((54 : Nat)) ((C21 p n c f).when (ARes.ret (Value.bool false)))) ∧ (Con.pre ((C21 p n c f).when (ARes.ret (Value.bool false))) ⟨⟨[(.int IntKind.i64 (p))], [⟨(n), (c)⟩]⟩, [(mvs n f)]⟩) ∧ 
R (.ret (.tuple ⟨[(.int IntKind.i64 ((0 : Int))), (.int IntKind.i64 ((0 : Int))), (.int IntKind.i64 ((1 : Int)))]⟩)))))) := by kernel_rfl

theorem runX_search {b : Nat → Bool} {o : Nat → AExit × Nat × Hw} {z : AExit × Nat × Hw} : ∀ (r i : Nat), runX (fun i => if b i then some (o i) else none) z r i = match search b r i with | some j => o j | none => z := by
  intro r
  induction r with
  | zero => intro i; rfl
  | succ r ih =>
    intro i
    simp only [runX, search]
    by_cases h : b i = true
    · simp only [if_pos h]
    · simp only [if_neg h]; exact ih (i + 1)
theorem runX_pair {g o : Nat → Int} {k : Nat} {q : Nat → Nat → AExit × Nat × Hw} {z : AExit × Nat × Hw} : ∀ (r i : Nat), runX (fun a => match rowS g o k a with | some b => some (q a b) | none => none) z r i = match pairS g o k r i with | some m => q m.1 m.2 | none => z := by
  intro r
  induction r with
  | zero => intro i; rfl
  | succ r ih =>
    intro i
    simp only [runX, pairS]
    cases h : rowS g o k i with
    | none => exact ih (i + 1)
    | some j => rfl
theorem bad_apt {sure : Bool} {p : Int} {n : Nat} {f : Nat → Mv} {g : Nat → Int} (hn : n ≤ 7) {a b : Nat} (ha : a < n) (hb : b < n) : badB g (ordF sure p n f n) a b = ((g a == g b) && aptB sure p f a b) := by
  simp only [badB, linkB, aptB, hasI_ord sure p f hn ha hb, hasI_ord sure p f hn hb ha]
  cases canB sure p f a b <;> cases canB sure p f b a <;> rfl
noncomputable def h11i (sure : Bool) (p : Int) (n c d : Nat) (f : Nat → Mv) (g : Nat → Int) (a b : Nat) : Hw := ⟨⟨[.bool sure, I a, I b, I p], [(n, d), (n, c)]⟩, [mvs n f, ints n g], []⟩
noncomputable def o11 (a b : Nat) : AExit × Nat × Hw := (.ret, 1, ⟨⟨[I a, I b, I 0], []⟩, [], []⟩)
noncomputable def r11i (sure : Bool) (p : Int) (n c d : Nat) (f : Nat → Mv) (g : Nat → Int) (a : Nat) : AExit × Nat × Hw := match rowS g (ordF sure p n f n) n a with | some b => o11 a b | none => (.exit 2, 0, h11i sure p n c d f g a n)
theorem round11i (sure : Bool) {p : Int} {n c d : Nat} {f : Nat → Mv} {g : Nat → Int} (hok : okH p n f = true) {a b : Nat} (ha : a < n) (hb : b < n) {R : Nat → AExit → Hw → Prop} (h1 : badB g (ordF sure p n f n) a b = false → R 0 .normal (h11i sure p n c d f g a (b + 1))) (h2 : badB g (ordF sure p n f n) a b = true → R 1 .ret (o11 a b).2.2) :
    ∃ hs, vx.code none (.l p11i) (leafW [T11i, R11] R) (T11i.inst (h11i sure p n c d f g a b)) hs := by
  have h7 := (okH_iff hok).n7
  rw [bad_apt h7 ha hb] at h1 h2
  have hw : IntKind.i64.wrap ((b : Int) + 1) = ((b + 1 : Nat) : Int) := wrapI (by omega) (by omega)
  have hk := K44i_ok sure p n c f hok ha hb
  cases sure with
  | true =>
    refine ⟨_, (b11it p a b n c d f g R).mpr ⟨fun _ => ⟨⟨⟨by omega, by omega⟩, rfl⟩, ints_get g ha, ⟨⟨by omega, by omega⟩, rfl⟩, ints_get g hb, fun e => ⟨hk, rfl, fun q => h2 (by rw [e]; exact q), fun q => ?_⟩, fun e => ?_⟩, fun h => absurd hb (by simpa using h)⟩⟩
    · rw [hw]; exact h1 (by rw [e]; exact q)
    · rw [hw]; exact h1 (by rw [e]; rfl)
  | false =>
    refine ⟨_, (b11if p a b n c d f g R).mpr ⟨fun _ => ⟨⟨⟨by omega, by omega⟩, rfl⟩, ints_get g ha, ⟨⟨by omega, by omega⟩, rfl⟩, ints_get g hb, fun e => ⟨hk, rfl, fun q => h2 (by rw [e]; exact q), fun q => ?_⟩, fun e => ?_⟩, fun h => absurd hb (by simpa using h)⟩⟩
    · rw [hw]; exact h1 (by rw [e]; exact q)
    · rw [hw]; exact h1 (by rw [e]; rfl)
theorem last11i (sure : Bool) {p : Int} {n c d a : Nat} {f : Nat → Mv} {g : Nat → Int} {R : Nat → AExit → Hw → Prop} (hR : R 0 (.exit 2) (h11i sure p n c d f g a n)) :
    ∃ hs, vx.code none (.l p11i) (leafW [T11i, R11] R) (T11i.inst (h11i sure p n c d f g a n)) hs := by
  cases sure with
  | true => exact ⟨_, (b11it p a n n c d f g R).mpr ⟨fun h => absurd (of_decide_eq_true h) (by omega), fun _ => hR⟩⟩
  | false => exact ⟨_, (b11if p a n n c d f g R).mpr ⟨fun h => absurd (of_decide_eq_true h) (by omega), fun _ => hR⟩⟩
theorem tm2 {T U : Tw} (h1 : T.k = 4) (h2 : U.k = 4) : ∀ X ∈ [T, U], X.k = 4 := by
  intro X hX
  simp only [List.mem_cons, List.not_mem_nil, or_false] at hX
  rcases hX with rfl | rfl
  · exact h1
  · exact h2
theorem loop11i (sure : Bool) {p : Int} {n c d : Nat} {f : Nat → Mv} {g : Nat → Int} (hok : okH p n f = true) {a : Nat} (ha : a < n) :
    LoopOW Tryz.prog none p11i T11i (h11i sure p n c d f g a (a + 1)) (r11i sure p n c d f g a).1 (match rowS g (ordF sure p n f n) n a with | some _ => R11 | none => T11i) (r11i sure p n c d f g a).2.2 := by
  have hr := runX_search (b := badB g (ordF sure p n f n) a) (o := fun b => o11 a b) (z := ((.exit 2 : AExit), 0, h11i sure p n c d f g a n)) (n - (a + 1)) (a + 1)
  have := loop_untilW (P := Tryz.prog) (ro := none) (p := p11i) (Ts := [T11i, R11]) (k := 4) (n := n) (st := fun b => (0, h11i sure p n c d f g a b)) (e := .exit 2) (ex := fun b => if badB g (ordF sure p n f n) a b then some (o11 a b) else none) rfl vx_sound (tm2 rfl rfl) (by rw [nglob]; omega) ⟨by simp, trivial⟩ (fun i hi => clL two_at)
    (fun i o hi ho => by
      split at ho
      · cases ho; exact ⟨by simp [o11], trivial, clL (fun cs h => by cases h)⟩
      · cases ho)
    (fun b hb R h1 h2 => by
      obtain ⟨hs, h⟩ := round11i sure (c := c) (d := d) hok ha hb (R := R) (fun e => h1 (by rw [e]; rfl)) (fun e => h2 (o11 a b) (by rw [e]; rfl))
      exact ⟨T11i, hs, rfl, h⟩)
    (fun R hR => by
      obtain ⟨hs, h⟩ := last11i sure hR
      exact ⟨T11i, hs, rfl, h⟩) (s := a + 1) (by omega) (T0 := T11i) (T1 := match rowS g (ordF sure p n f n) n a with | some _ => R11 | none => T11i) rfl (Nat.le_of_ble_eq_true rfl) (by decide) (by
      rw [hr]
      simp only [rowS]
      cases search (badB g (ordF sure p n f n) a) (n - (a + 1)) (a + 1) <;> rfl)
  rw [hr] at this
  exact this
noncomputable def h11o (sure : Bool) (p : Int) (n c d : Nat) (f : Nat → Mv) (g : Nat → Int) (a : Nat) : Hw := ⟨⟨[.bool sure, I a, I p], [(n, d), (n, c)]⟩, [mvs n f, ints n g], []⟩
noncomputable def r11o (sure : Bool) (p : Int) (n c d : Nat) (f : Nat → Mv) (g : Nat → Int) : AExit × Nat × Hw := match pairS g (ordF sure p n f n) n n 0 with | some m => o11 m.1 m.2 | none => (.exit 0, 0, h11o sure p n c d f g n)
theorem loop11o (sure : Bool) {p : Int} {n c d : Nat} {f : Nat → Mv} {g : Nat → Int} (hok : okH p n f = true) :
    LoopOW Tryz.prog none p11o T11o (h11o sure p n c d f g 0) (r11o sure p n c d f g).1 (match pairS g (ordF sure p n f n) n n 0 with | some _ => R11 | none => T11o) (r11o sure p n c d f g).2.2 := by
  have h7 := (okH_iff hok).n7
  have hr := runX_pair (g := g) (o := ordF sure p n f n) (k := n) (q := fun a b => o11 a b) (z := ((.exit 0 : AExit), 0, h11o sure p n c d f g n)) n 0
  have := loop_untilW (P := Tryz.prog) (ro := none) (p := p11o) (Ts := [T11o, R11]) (k := 4) (n := n) (st := fun a => (0, h11o sure p n c d f g a)) (e := .exit 0) (ex := fun a => match rowS g (ordF sure p n f n) n a with | some b => some (o11 a b) | none => none) rfl vx_sound (tm2 rfl rfl) (by rw [nglob]; omega) ⟨by simp, trivial⟩ (fun i hi => clL two_at)
    (fun i o hi ho => by
      split at ho
      · cases ho; exact ⟨by simp [o11], trivial, clL (fun cs h => by cases h)⟩
      · cases ho)
    (fun a ha R h1 h2 => by
      have hl := loop11i sure (c := c) (d := d) (g := g) hok ha
      have hw : IntKind.i64.wrap ((a : Int) + 1) = ((a + 1 : Nat) : Int) := wrapI (by omega) (by omega)
      refine ⟨T11o, ?_⟩
      cases hrow : rowS g (ordF sure p n f n) n a with
      | none =>
        simp only [r11i, hrow] at hl
        refine ⟨_, rfl, (b11on p sure a n c d f g R).mpr ⟨fun _ => ⟨clL two_at, ?_, ?_⟩, fun h => absurd ha (by simpa using h)⟩⟩
        · rw [hw]; exact hl
        · rw [hw]; exact h1 (by rw [hrow])
      | some b =>
        simp only [r11i, hrow] at hl
        refine ⟨_, rfl, (b11or p sure a b n c d f g R).mpr ⟨fun _ => ⟨clL two_at, ?_, ?_⟩, fun h => absurd ha (by simpa using h)⟩⟩
        · rw [hw]; exact hl
        · exact h2 (o11 a b) (by rw [hrow]))
    (fun R hR => ⟨T11o, _, rfl, (b11on p sure n n c d f g R).mpr ⟨fun h => absurd (of_decide_eq_true h) (by omega), fun _ => hR⟩⟩) (s := 0) (Nat.zero_le n) (T0 := T11o) (T1 := match pairS g (ordF sure p n f n) n n 0 with | some _ => R11 | none => T11o) rfl (Nat.le_of_ble_eq_true rfl) (by decide) (by
      rw [Nat.sub_zero, hr]
      cases pairS g (ordF sure p n f n) n n 0 <;> rfl)
  rw [Nat.sub_zero, hr] at this
  exact this
theorem K11_ok (sure : Bool) (p : Int) (n c d : Nat) (f : Nat → Mv) (g : Nat → Int) (hok : okH p n f = true) (hpl : okP n n g = true) : ConOK Tryz.prog 11 (C16 sure p n c n d f g) := by
  have h7 := (okH_iff hok).n7
  refine con_of vx_sound ⟨⟨[I p, .bool sure], [(n, c), (n, d)]⟩, [mvs n f, ints n g]⟩ (fun x hx => ?_) rfl (fun _ _ => by show clR 50 (.ret (checkV sure p n n f g)) = true; simp only [checkV]; cases pairS g (ordF sure p n f n) n n 0 <;> rfl) (fun x hx => by cases hx; exact two_at) rfl (Nat.le_of_ble_eq_true rfl) (by rw [nglob]; exact Nat.zero_le _)
  cases hx
  have hl := loop11o sure (c := c) (d := d) (g := g) hok
  have h1 : ((C39 p n c f n d g).when (.ret (.bool true))).pre ⟨⟨[I p], [(n, c), (n, d)]⟩, [mvs n f, ints n g]⟩ := ⟨rfl, by show ARes.ret (.bool (okP n n g)) = _; rw [hpl]⟩
  have h2 : ((C21 p n c f).when (.ret (.bool true))).pre ⟨⟨[I p], [(n, c)]⟩, [mvs n f]⟩ := ⟨rfl, by show ARes.ret (.bool (okH p n f)) = _; rw [hok]⟩
  have k1 := con_when (K43_ok p n c f n d g (by omega)) (.ret (.bool true))
  have k2 := con_when (C21_ok p n c f (by omega)) (.ret (.bool true))
  have hres : ∀ v, checkV sure p n n f g = v → ARes.ret v = ((C16 sure p n c n d f g).res ⟨⟨[I p, .bool sure], [(n, c), (n, d)]⟩, [mvs n f, ints n g]⟩) := fun v hv => by subst hv; rfl
  cases hp : pairS g (ordF sure p n f n) n n 0 with
  | none =>
    simp only [r11o, hp] at hl
    simp only [checkV, hp] at hres
    exact ⟨_, (f11n p sure n c d f g _).mpr ⟨k1, h1, ⟨⟨by omega, rfl⟩, trivial⟩, k2, h2, clL two_at, hl, hres _ rfl⟩⟩
  | some m =>
    obtain ⟨a, b⟩ := m
    simp only [r11o, hp] at hl
    simp only [checkV, hp] at hres
    exact ⟨_, (f11r p sure a b n c d f g _).mpr ⟨k1, h1, ⟨⟨by omega, rfl⟩, trivial⟩, k2, h2, clL two_at, hl, hres _ rfl⟩⟩
/-- Check, refused. -/
noncomputable def C16v (sure : Bool) (p : Int) (n c k d : Nat) (f : Nat → Mv) (g : Nat → Int) (v : Value) : Con := { C16 sure p n c k d f g with res := fun _ => .ret v }
theorem K11e_ok (sure : Bool) (p : Int) (n c k d : Nat) (f : Nat → Mv) (g : Nat → Int) (hk : k ≤ 1000000) (hok : okH p n f = true) (hpl : okP n k g = false) : ConOK Tryz.prog 11 (C16v sure p n c k d f g (.tuple ⟨[I 0, I 0, I 2]⟩)) := by
  have h7 := (okH_iff hok).n7
  refine con_of vx_sound ⟨⟨[I p, .bool sure], [(n, c), (k, d)]⟩, [mvs n f, ints k g]⟩ (fun x hx => ?_) rfl (fun _ _ => rfl) (fun x hx => by cases hx; exact two_at) rfl (Nat.le_of_ble_eq_true rfl) (by rw [nglob]; exact Nat.zero_le _)
  cases hx
  exact ⟨_, (f11e p sure n c k d f g _).mpr ⟨con_when (K43_ok p n c f k d g hk) _, ⟨rfl, by show ARes.ret (.bool (okP n k g)) = _; rw [hpl]⟩, ⟨⟨by omega, rfl⟩, trivial⟩, con_when (C21_ok p n c f (by omega)) _, ⟨rfl, by show ARes.ret (.bool (okH p n f)) = _; rw [hok]⟩, rfl⟩⟩
theorem K11a_ok (sure : Bool) (p : Int) (n c k d : Nat) (f : Nat → Mv) (g : Nat → Int) (hn : n ≤ 1000000) (hk : k ≤ 1000000) (hok : okH p n f = false) : ConOK Tryz.prog 11 (C16v sure p n c k d f g (.tuple ⟨[I 0, I 0, I 1]⟩)) := by
  refine con_of vx_sound ⟨⟨[I p, .bool sure], [(n, c), (k, d)]⟩, [mvs n f, ints k g]⟩ (fun x hx => ?_) rfl (fun _ _ => rfl) (fun x hx => by cases hx; exact two_at) rfl (Nat.le_of_ble_eq_true rfl) (by rw [nglob]; exact Nat.zero_le _)
  cases hx
  exact ⟨_, (f11a p sure (okP n k g) n c k d f g _).mpr ⟨con_when (K43_ok p n c f k d g hk) _, ⟨rfl, rfl⟩, ⟨⟨by omega, rfl⟩, trivial⟩, con_when (C21_ok p n c f hn) _, ⟨rfl, by show ARes.ret (.bool (okH p n f)) = _; rw [hok]⟩, rfl⟩⟩
end Go.Ab

/- the document's words: Busy, Follows; what the package answers to any minute, and to any two numbers. -/
set_option maxRecDepth 100000
namespace Go.Ab
open Go Go.RowKit Go.Proofs
theorem b15z (m p x y : Int) (n c i : Nat) (ms : List Value) (f : Nat → Mv) (R : Nat → AExit → Hw → Prop)  : (vx.code none (.l p15z) (leafW [T15z] R) (T15z.inst ⟨⟨[I m, I i, I p, I x, I y], [(n, c)]⟩, [ms], []⟩) ([(4, .split ((4, .val (.pointer (.some ⟨((0 : Nat)), ((0 : Nat) + i * (4 : Nat)), .none⟩))) :: (0, .val (.agg ⟨[(.int IntKind.i64 ((f i).at_)), (.int IntKind.i64 ((f i).place)), (.int IntKind.i64 ((f i).lo)), (.int IntKind.i64 ((f i).hi))]⟩)) :: [(16, .split ([(3, .split ([(22, .split ([(3, .split ([(11, Hint.tm (0 : Nat) [])]) ([(6, Hint.tm (0 : Nat) [])]))]) ([(7, Hint.tm (0 : Nat) [])]))]) ([(17, .split ([(3, .split ([(11, Hint.tm (0 : Nat) [])]) ([(6, Hint.tm (0 : Nat) [])]))]) ([(7, Hint.tm (0 : Nat) [])]))]))]) ([(18, .split ([(3, .split ([(11, Hint.tm (0 : Nat) [])]) ([(6, Hint.tm (0 : Nat) [])]))]) ([(7, Hint.tm (0 : Nat) [])]))]))]) ([(1, Hint.tm (0 : Nat) [])]))])) =
((((decide ((↑i : Int) < (↑n : Int))) = true → ((((((0 : Int) ≤ (↑i : Int))) ∧ (((↑i : Int) < (↑n : Int)))) ∧ (((.pointer (.some ⟨((0 : Nat)), ((0 : Nat) + i * (4 : Nat)), .none⟩)) : Value) = (.pointer (.some ⟨((0 : Nat)), ((0 : Nat) + i * (4 : Nat)), .none⟩)))) ∧
(((((0 : Nat) + i * (4 : Nat) + (4 : Nat) ≤ ms.length)) ∧ (((.agg ⟨[(.int IntKind.i64 ((f i).at_)), (.int IntKind.i64 ((f i).place)), (.int IntKind.i64 ((f i).lo)), (.int IntKind.i64 ((f i).hi))]⟩) : Value) = (.agg ⟨(List.take ((4 : Nat)) (List.drop ((0 : Nat) + i * (4 : Nat)) (ms)))⟩))) ∧
(((decide ((f i).at_ ≤ m)) = true → (((decide (m ≤ IntKind.i64.wrap (IntKind.i64.wrap ((f i).at_ + (f i).lo) - (1 : Int)))) = true → (((decide ((f i).at_ ≤ m)) = true → (((decide (m ≤ IntKind.i64.wrap (IntKind.i64.wrap ((f i).at_ + (f i).hi) - (1 : Int)))) = true → R ((0 : Nat)) .normal ⟨⟨[(.int IntKind.i64 (m)), (.int IntKind.i64 (IntKind.i64.wrap ((↑i : Int) + (1 : Int)))), (.int IntKind.i64 (p)), (.int IntKind.i64 (IntKind.i64.wrap (x + (1 : Int)))), (.int IntKind.i64 (IntKind.i64.wrap (y + (1 : Int))))], [⟨(n), (c)⟩]⟩, [(ms)], []⟩) ∧
((decide (m ≤ IntKind.i64.wrap (IntKind.i64.wrap ((f i).at_ + (f i).hi) - (1 : Int)))) = false → R ((0 : Nat)) .normal ⟨⟨[(.int IntKind.i64 (m)), (.int IntKind.i64 (IntKind.i64.wrap ((↑i : Int) + (1 : Int)))), (.int IntKind.i64 (p)), (.int IntKind.i64 (IntKind.i64.wrap (x + (1 : Int)))), (.int IntKind.i64 (y))], [⟨(n), (c)⟩]⟩, [(ms)], []⟩))) ∧
((decide ((f i).at_ ≤ m)) = false → R ((0 : Nat)) .normal ⟨⟨[(.int IntKind.i64 (m)), (.int IntKind.i64 (IntKind.i64.wrap ((↑i : Int) + (1 : Int)))), (.int IntKind.i64 (p)), (.int IntKind.i64 (IntKind.i64.wrap (x + (1 : Int)))), (.int IntKind.i64 (y))], [⟨(n), (c)⟩]⟩, [(ms)], []⟩))) ∧
((decide (m ≤ IntKind.i64.wrap (IntKind.i64.wrap ((f i).at_ + (f i).lo) - (1 : Int)))) = false → (((decide ((f i).at_ ≤ m)) = true → (((decide (m ≤ IntKind.i64.wrap (IntKind.i64.wrap ((f i).at_ + (f i).hi) - (1 : Int)))) = true → R ((0 : Nat)) .normal ⟨⟨[(.int IntKind.i64 (m)), (.int IntKind.i64 (IntKind.i64.wrap ((↑i : Int) + (1 : Int)))), (.int IntKind.i64 (p)), (.int IntKind.i64 (x)), (.int IntKind.i64 (IntKind.i64.wrap (y + (1 : Int))))], [⟨(n), (c)⟩]⟩, [(ms)], []⟩) ∧
((decide (m ≤ IntKind.i64.wrap (IntKind.i64.wrap ((f i).at_ + (f i).hi) - (1 : Int)))) = false → R ((0 : Nat)) .normal ⟨⟨[(.int IntKind.i64 (m)), (.int IntKind.i64 (IntKind.i64.wrap ((↑i : Int) + (1 : Int)))), (.int IntKind.i64 (p)), (.int IntKind.i64 (x)), (.int IntKind.i64 (y))], [⟨(n), (c)⟩]⟩, [(ms)], []⟩))) ∧
((decide ((f i).at_ ≤ m)) = false → R ((0 : Nat)) .normal ⟨⟨[(.int IntKind.i64 (m)), (.int IntKind.i64 (IntKind.i64.wrap ((↑i : Int) + (1 : Int)))), (.int IntKind.i64 (p)), (.int IntKind.i64 (x)), (.int IntKind.i64 (y))], [⟨(n), (c)⟩]⟩, [(ms)], []⟩))))) ∧
((decide ((f i).at_ ≤ m)) = false → (((decide ((f i).at_ ≤ m)) = true → (((decide (m ≤ IntKind.i64.wrap (IntKind.i64.wrap ((f i).at_ + (f i).hi) - (1 : Int)))) = true → R ((0 : Nat)) .normal ⟨⟨[(.int IntKind.i64 (m)), (.int IntKind.i64 (IntKind.i64.wrap ((↑i : Int) + (1 : Int)))), (.int IntKind.i64 (p)), (.int IntKind.i64 (x)), (.int IntKind.i64 (IntKind.i64.wrap (y + (1 : Int))))], [⟨(n), (c)⟩]⟩, [(ms)], []⟩) ∧
((decide (m ≤ IntKind.i64.wrap (IntKind.i64.wrap ((f i).at_ + (f i).hi) - (1 : Int)))) = false → R ((0 : Nat)) .normal ⟨⟨[(.int IntKind.i64 (m)), (.int IntKind.i64 (IntKind.i64.wrap ((↑i : Int) + (1 : Int)))), (.int IntKind.i64 (p)), (.int IntKind.i64 (x)), (.int IntKind.i64 (y))], [⟨(n), (c)⟩]⟩, [(ms)], []⟩))) ∧
((decide ((f i).at_ ≤ m)) = false → R ((0 : Nat)) .normal ⟨⟨[(.int IntKind.i64 (m)), (.int IntKind.i64 (IntKind.i64.wrap ((↑i : Int) + (1 : Int)))), (.int IntKind.i64 (p)), (.int IntKind.i64 (x)), (.int IntKind.i64 (y))], [⟨(n), (c)⟩]⟩, [(ms)], []⟩))))))) ∧
((decide ((↑i : Int) < (↑n : Int))) = false → R ((0 : Nat)) (.exit ((0 : Nat))) ⟨⟨[(.int IntKind.i64 (m)), (.int IntKind.i64 ((↑i : Int))), (.int IntKind.i64 (p)), (.int IntKind.i64 (x)), (.int IntKind.i64 (y))], [⟨(n), (c)⟩]⟩, [(ms)], []⟩))) := by kernel_rfl

theorem f15z (p m x y : Int) (n c : Nat) (f : Nat → Mv) (R : ARes → Prop)  : (vx.call 15 [hV p n c, I m] (retK R) (m1 (mvs n f)) ([(10, .split ([(3, .split ((2, Hint.again) :: (4, Hint.con ((C21 p n c f).when (ARes.ret (Value.bool true)))) :: (14, Hint.loopW T15z (AExit.exit (0 : Nat)) T15z fun _ =>   { hs := { vs := [I m, I (↑n : Int), I p, I x, I y], ns := [(n, c)] }, ls := [mvs n f], es := [] }) :: []) ((2, Hint.again) :: (4, Hint.con ((C21 p n c f).when (ARes.ret (Value.bool true)))) :: []))]) ((3, Hint.again) :: (4, Hint.con ((C21 p n c f).when (ARes.ret (Value.bool true)))) :: []))])) =
((((decide ((0 : Int) ≤ m)) = true → (((decide (m ≤ (220 : Int))) = true → ((((((2 : Nat) ≤ (2 : Nat))) ∧ (((.agg ⟨[(.int IntKind.i64 (p)), (.slice (.some ⟨((0 : Nat)), ((0 : Nat)), .none⟩) (n) (c))]⟩) : Value) = (.agg ⟨[(.int IntKind.i64 (p)), (.slice (.some ⟨((0 : Nat)), ((0 : Nat)), .none⟩) (n) (c))]⟩))) ∧ (True)) ∧ 
((ConOK Tryz.prog ((54 : Nat)) ((C21 p n c f).when (ARes.ret (Value.bool true)))) ∧ (Con.pre ((C21 p n c f).when (ARes.ret (Value.bool true))) ⟨⟨[(.int IntKind.i64 (p))], [⟨(n), (c)⟩]⟩, [(mvs n f)]⟩) ∧ 
((ClW ⟨⟨[(.int IntKind.i64 (m)), (.int IntKind.i64 ((0 : Int))), (.int IntKind.i64 (p)), (.int IntKind.i64 ((0 : Int))), (.int IntKind.i64 ((0 : Int)))], [⟨(n), (c)⟩]⟩, [(mvs n f)], []⟩) ∧ (LoopOW Tryz.prog .none p15z (T15z) ⟨⟨[(.int IntKind.i64 (m)), (.int IntKind.i64 ((0 : Int))), (.int IntKind.i64 (p)), (.int IntKind.i64 ((0 : Int))), (.int IntKind.i64 ((0 : Int)))], [⟨(n), (c)⟩]⟩, [(mvs n f)], []⟩ (.exit ((0 : Nat))) (T15z) ⟨⟨[(.int IntKind.i64 (m)), (.int IntKind.i64 ((↑n : Int))), (.int IntKind.i64 (p)), (.int IntKind.i64 (x)), (.int IntKind.i64 (y))], [⟨(n), (c)⟩]⟩, [(mvs n f)], []⟩) ∧ 
R (.ret (.tuple ⟨[(.agg ⟨[(.int IntKind.i64 (x)), (.int IntKind.i64 (y))]⟩), (.int IntKind.i64 ((0 : Int)))]⟩)))))) ∧
((decide (m ≤ (220 : Int))) = false → ((((((2 : Nat) ≤ (2 : Nat))) ∧ (((.agg ⟨[(.int IntKind.i64 (p)), (.slice (.some ⟨((0 : Nat)), ((0 : Nat)), .none⟩) (n) (c))]⟩) : Value) = (.agg ⟨[(.int IntKind.i64 (p)), (.slice (.some ⟨((0 : Nat)), ((0 : Nat)), .none⟩) (n) (c))]⟩))) ∧ (True)) ∧ 
((ConOK Tryz.prog ((54 : Nat)) ((C21 p n c f).when (ARes.ret (Value.bool true)))) ∧ (Con.pre ((C21 p n c f).when (ARes.ret (Value.bool true))) ⟨⟨[(.int IntKind.i64 (p))], [⟨(n), (c)⟩]⟩, [(mvs n f)]⟩) ∧ 
R (.ret (.tuple ⟨[(.agg ⟨[(.int IntKind.i64 ((0 : Int))), (.int IntKind.i64 ((0 : Int)))]⟩), (.int IntKind.i64 ((2 : Int)))]⟩))))))) ∧
((decide ((0 : Int) ≤ m)) = false → ((((((2 : Nat) ≤ (2 : Nat))) ∧ (((.agg ⟨[(.int IntKind.i64 (p)), (.slice (.some ⟨((0 : Nat)), ((0 : Nat)), .none⟩) (n) (c))]⟩) : Value) = (.agg ⟨[(.int IntKind.i64 (p)), (.slice (.some ⟨((0 : Nat)), ((0 : Nat)), .none⟩) (n) (c))]⟩))) ∧ (True)) ∧ 
((ConOK Tryz.prog ((54 : Nat)) ((C21 p n c f).when (ARes.ret (Value.bool true)))) ∧ (Con.pre ((C21 p n c f).when (ARes.ret (Value.bool true))) ⟨⟨[(.int IntKind.i64 (p))], [⟨(n), (c)⟩]⟩, [(mvs n f)]⟩) ∧ 
R (.ret (.tuple ⟨[(.agg ⟨[(.int IntKind.i64 ((0 : Int))), (.int IntKind.i64 ((0 : Int)))]⟩), (.int IntKind.i64 ((2 : Int)))]⟩))))))) := by kernel_rfl

theorem f15y (p m : Int) (n c : Nat) (f : Nat → Mv) (R : ARes → Prop)  : (vx.call 15 [hV p n c, I m] (retK R) (m1 (mvs n f)) ([(10, .split ([(3, .split ((2, Hint.again) :: (4, Hint.con ((C21 p n c f).when (ARes.ret (Value.bool false)))) :: []) ((2, Hint.again) :: (4, Hint.con ((C21 p n c f).when (ARes.ret (Value.bool false)))) :: []))]) ((3, Hint.again) :: (4, Hint.con ((C21 p n c f).when (ARes.ret (Value.bool false)))) :: []))])) =
((((decide ((0 : Int) ≤ m)) = true → (((decide (m ≤ (220 : Int))) = true → ((((((2 : Nat) ≤ (2 : Nat))) ∧ (((.agg ⟨[(.int IntKind.i64 (p)), (.slice (.some ⟨((0 : Nat)), ((0 : Nat)), .none⟩) (n) (c))]⟩) : Value) = (.agg ⟨[(.int IntKind.i64 (p)), (.slice (.some ⟨((0 : Nat)), ((0 : Nat)), .none⟩) (n) (c))]⟩))) ∧ (True)) ∧ 
((ConOK Tryz.prog ((54 : Nat)) ((C21 p n c f).when (ARes.ret (Value.bool false)))) ∧ (Con.pre ((C21 p n c f).when (ARes.ret (Value.bool false))) ⟨⟨[(.int IntKind.i64 (p))], [⟨(n), (c)⟩]⟩, [(mvs n f)]⟩) ∧ 
R (.ret (.tuple ⟨[(.agg ⟨[(.int IntKind.i64 ((0 : Int))), (.int IntKind.i64 ((0 : Int)))]⟩), (.int IntKind.i64 ((1 : Int)))]⟩))))) ∧
((decide (m ≤ (220 : Int))) = false → ((((((2 : Nat) ≤ (2 : Nat))) ∧ (((.agg ⟨[(.int IntKind.i64 (p)), (.slice (.some ⟨((0 : Nat)), ((0 : Nat)), .none⟩) (n) (c))]⟩) : Value) = (.agg ⟨[(.int IntKind.i64 (p)), (.slice (.some ⟨((0 : Nat)), ((0 : Nat)), .none⟩) (n) (c))]⟩))) ∧ (True)) ∧ 
((ConOK Tryz.prog ((54 : Nat)) ((C21 p n c f).when (ARes.ret (Value.bool false)))) ∧ (Con.pre ((C21 p n c f).when (ARes.ret (Value.bool false))) ⟨⟨[(.int IntKind.i64 (p))], [⟨(n), (c)⟩]⟩, [(mvs n f)]⟩) ∧ 
R (.ret (.tuple ⟨[(.agg ⟨[(.int IntKind.i64 ((0 : Int))), (.int IntKind.i64 ((0 : Int)))]⟩), (.int IntKind.i64 ((1 : Int)))]⟩))))))) ∧
((decide ((0 : Int) ≤ m)) = false → ((((((2 : Nat) ≤ (2 : Nat))) ∧ (((.agg ⟨[(.int IntKind.i64 (p)), (.slice (.some ⟨((0 : Nat)), ((0 : Nat)), .none⟩) (n) (c))]⟩) : Value) = (.agg ⟨[(.int IntKind.i64 (p)), (.slice (.some ⟨((0 : Nat)), ((0 : Nat)), .none⟩) (n) (c))]⟩))) ∧ (True)) ∧ 
((ConOK Tryz.prog ((54 : Nat)) ((C21 p n c f).when (ARes.ret (Value.bool false)))) ∧ (Con.pre ((C21 p n c f).when (ARes.ret (Value.bool false))) ⟨⟨[(.int IntKind.i64 (p))], [⟨(n), (c)⟩]⟩, [(mvs n f)]⟩) ∧ 
R (.ret (.tuple ⟨[(.agg ⟨[(.int IntKind.i64 ((0 : Int))), (.int IntKind.i64 ((0 : Int)))]⟩), (.int IntKind.i64 ((1 : Int)))]⟩))))))) := by kernel_rfl

theorem f9i (p : Int) (i j n c : Nat) (f : Nat → Mv) (R : ARes → Prop)  : (vx.call 9 [hV p n c, I i, I j] (retK R) (m1 (mvs n f)) ([(23, .split ((3, Hint.again) :: [(19, .split ((3, Hint.again) :: (5, Hint.con ((C21 p n c f).when (ARes.ret (Value.bool true)))) :: (13, Hint.con (K36i true p n c f i j)) :: [(0, .split ([]) ((3, Hint.con (K36i false p n c f i j)) :: [(0, .split ([]) ([]))]))]) ((3, Hint.again) :: (5, Hint.con ((C21 p n c f).when (ARes.ret (Value.bool true)))) :: []))]) ((3, Hint.again) :: (6, Hint.con ((C21 p n c f).when (ARes.ret (Value.bool true)))) :: []))])) =
((((decide ((↑i : Int) ≤ IntKind.i64.wrap ((↑n : Int) - (1 : Int)))) = true → ((((((2 : Nat) ≤ (2 : Nat))) ∧ (((.agg ⟨[(.int IntKind.i64 (p)), (.slice (.some ⟨((0 : Nat)), ((0 : Nat)), .none⟩) (n) (c))]⟩) : Value) = (.agg ⟨[(.int IntKind.i64 (p)), (.slice (.some ⟨((0 : Nat)), ((0 : Nat)), .none⟩) (n) (c))]⟩))) ∧ (True)) ∧ 
(((decide ((↑j : Int) ≤ IntKind.i64.wrap ((↑n : Int) - (1 : Int)))) = true → ((((((2 : Nat) ≤ (2 : Nat))) ∧ (((.agg ⟨[(.int IntKind.i64 (p)), (.slice (.some ⟨((0 : Nat)), ((0 : Nat)), .none⟩) (n) (c))]⟩) : Value) = (.agg ⟨[(.int IntKind.i64 (p)), (.slice (.some ⟨((0 : Nat)), ((0 : Nat)), .none⟩) (n) (c))]⟩))) ∧ (True)) ∧ 
((ConOK Tryz.prog ((54 : Nat)) ((C21 p n c f).when (ARes.ret (Value.bool true)))) ∧ (Con.pre ((C21 p n c f).when (ARes.ret (Value.bool true))) ⟨⟨[(.int IntKind.i64 (p))], [⟨(n), (c)⟩]⟩, [(mvs n f)]⟩) ∧ 
((ConOK Tryz.prog ((36 : Nat)) (K36i true p n c f i j)) ∧ (Con.pre (K36i true p n c f i j) ⟨⟨[(.int IntKind.i64 (p)), (.int IntKind.i64 ((↑i : Int))), (.int IntKind.i64 ((↑j : Int)))], [⟨(n), (c)⟩]⟩, [(mvs n f)]⟩) ∧ 
(((canB true p f i j) = true → R (.ret (.tuple ⟨[(.int IntKind.i64 ((2 : Int))), (.int IntKind.i64 ((0 : Int)))]⟩))) ∧
((canB true p f i j) = false → ((ConOK Tryz.prog ((36 : Nat)) (K36i false p n c f i j)) ∧ (Con.pre (K36i false p n c f i j) ⟨⟨[(.int IntKind.i64 (p)), (.int IntKind.i64 ((↑i : Int))), (.int IntKind.i64 ((↑j : Int)))], [⟨(n), (c)⟩]⟩, [(mvs n f)]⟩) ∧ 
(((canB false p f i j) = true → R (.ret (.tuple ⟨[(.int IntKind.i64 ((1 : Int))), (.int IntKind.i64 ((0 : Int)))]⟩))) ∧
((canB false p f i j) = false → R (.ret (.tuple ⟨[(.int IntKind.i64 ((0 : Int))), (.int IntKind.i64 ((0 : Int)))]⟩))))))))))) ∧
((decide ((↑j : Int) ≤ IntKind.i64.wrap ((↑n : Int) - (1 : Int)))) = false → ((((((2 : Nat) ≤ (2 : Nat))) ∧ (((.agg ⟨[(.int IntKind.i64 (p)), (.slice (.some ⟨((0 : Nat)), ((0 : Nat)), .none⟩) (n) (c))]⟩) : Value) = (.agg ⟨[(.int IntKind.i64 (p)), (.slice (.some ⟨((0 : Nat)), ((0 : Nat)), .none⟩) (n) (c))]⟩))) ∧ (True)) ∧ 
((ConOK Tryz.prog ((54 : Nat)) ((C21 p n c f).when (ARes.ret (Value.bool true)))) ∧ (Con.pre ((C21 p n c f).when (ARes.ret (Value.bool true))) ⟨⟨[(.int IntKind.i64 (p))], [⟨(n), (c)⟩]⟩, [(mvs n f)]⟩) ∧ 
R (.ret (.tuple ⟨[(.int IntKind.i64 ((0 : Int))), (.int IntKind.i64 ((2 : Int)))]⟩)))))))) ∧
((decide ((↑i : Int) ≤ IntKind.i64.wrap ((↑n : Int) - (1 : Int)))) = false → ((((((2 : Nat) ≤ (2 : Nat))) ∧ (((.agg ⟨[(.int IntKind.i64 (p)), (.slice (.some ⟨((0 : Nat)), ((0 : Nat)), .none⟩) (n) (c))]⟩) : Value) = (.agg ⟨[(.int IntKind.i64 (p)), (.slice (.some ⟨((0 : Nat)), ((0 : Nat)), .none⟩) (n) (c))]⟩))) ∧ (True)) ∧ 
((ConOK Tryz.prog ((54 : Nat)) ((C21 p n c f).when (ARes.ret (Value.bool true)))) ∧ (Con.pre ((C21 p n c f).when (ARes.ret (Value.bool true))) ⟨⟨[(.int IntKind.i64 (p))], [⟨(n), (c)⟩]⟩, [(mvs n f)]⟩) ∧ 
R (.ret (.tuple ⟨[(.int IntKind.i64 ((0 : Int))), (.int IntKind.i64 ((2 : Int)))]⟩))))))) := by kernel_rfl

theorem f9o (p a b : Int) (n c : Nat) (f : Nat → Mv) (R : ARes → Prop)  : (vx.call 9 [hV p n c, I a, I b] (retK R) (m1 (mvs n f)) ([(19, .split ([(3, .split ((3, Hint.again) :: [(15, .split ([(3, .split ((3, Hint.again) :: (5, Hint.con ((C21 p n c f).when (ARes.ret (Value.bool true)))) :: (13, Hint.con ((K36 true p n c f).when (ARes.pan (Value.iface (28 : TypeId) (I (2 : Int)))))) :: []) ((3, Hint.again) :: (5, Hint.con ((C21 p n c f).when (ARes.ret (Value.bool true)))) :: []))]) ((4, Hint.again) :: (5, Hint.con ((C21 p n c f).when (ARes.ret (Value.bool true)))) :: []))]) ((3, Hint.again) :: (6, Hint.con ((C21 p n c f).when (ARes.ret (Value.bool true)))) :: []))]) ((4, Hint.again) :: (6, Hint.con ((C21 p n c f).when (ARes.ret (Value.bool true)))) :: []))])) =
((((decide ((0 : Int) ≤ a)) = true → (((decide (a ≤ IntKind.i64.wrap ((↑n : Int) - (1 : Int)))) = true → ((((((2 : Nat) ≤ (2 : Nat))) ∧ (((.agg ⟨[(.int IntKind.i64 (p)), (.slice (.some ⟨((0 : Nat)), ((0 : Nat)), .none⟩) (n) (c))]⟩) : Value) = (.agg ⟨[(.int IntKind.i64 (p)), (.slice (.some ⟨((0 : Nat)), ((0 : Nat)), .none⟩) (n) (c))]⟩))) ∧ (True)) ∧ 
(((decide ((0 : Int) ≤ b)) = true → (((decide (b ≤ IntKind.i64.wrap ((↑n : Int) - (1 : Int)))) = true → ((((((2 : Nat) ≤ (2 : Nat))) ∧ (((.agg ⟨[(.int IntKind.i64 (p)), (.slice (.some ⟨((0 : Nat)), ((0 : Nat)), .none⟩) (n) (c))]⟩) : Value) = (.agg ⟨[(.int IntKind.i64 (p)), (.slice (.some ⟨((0 : Nat)), ((0 : Nat)), .none⟩) (n) (c))]⟩))) ∧ (True)) ∧ 
((ConOK Tryz.prog ((54 : Nat)) ((C21 p n c f).when (ARes.ret (Value.bool true)))) ∧ (Con.pre ((C21 p n c f).when (ARes.ret (Value.bool true))) ⟨⟨[(.int IntKind.i64 (p))], [⟨(n), (c)⟩]⟩, [(mvs n f)]⟩) ∧ 
((ConOK Tryz.prog ((36 : Nat)) ((K36 true p n c f).when (ARes.pan (Value.iface (28 : TypeId) (I (2 : Int)))))) ∧ (Con.pre ((K36 true p n c f).when (ARes.pan (Value.iface (28 : TypeId) (I (2 : Int))))) ⟨⟨[(.int IntKind.i64 (p)), (.int IntKind.i64 (a)), (.int IntKind.i64 (b))], [⟨(n), (c)⟩]⟩, [(mvs n f)]⟩) ∧ 
R (.pan (.iface (OfNat.ofNat (28 : Nat)) (.int IntKind.i64 ((2 : Int))))))))) ∧
((decide (b ≤ IntKind.i64.wrap ((↑n : Int) - (1 : Int)))) = false → ((((((2 : Nat) ≤ (2 : Nat))) ∧ (((.agg ⟨[(.int IntKind.i64 (p)), (.slice (.some ⟨((0 : Nat)), ((0 : Nat)), .none⟩) (n) (c))]⟩) : Value) = (.agg ⟨[(.int IntKind.i64 (p)), (.slice (.some ⟨((0 : Nat)), ((0 : Nat)), .none⟩) (n) (c))]⟩))) ∧ (True)) ∧ 
((ConOK Tryz.prog ((54 : Nat)) ((C21 p n c f).when (ARes.ret (Value.bool true)))) ∧ (Con.pre ((C21 p n c f).when (ARes.ret (Value.bool true))) ⟨⟨[(.int IntKind.i64 (p))], [⟨(n), (c)⟩]⟩, [(mvs n f)]⟩) ∧ 
R (.ret (.tuple ⟨[(.int IntKind.i64 ((0 : Int))), (.int IntKind.i64 ((2 : Int)))]⟩))))))) ∧
((decide ((0 : Int) ≤ b)) = false → ((((((2 : Nat) ≤ (2 : Nat))) ∧ (((.agg ⟨[(.int IntKind.i64 (p)), (.slice (.some ⟨((0 : Nat)), ((0 : Nat)), .none⟩) (n) (c))]⟩) : Value) = (.agg ⟨[(.int IntKind.i64 (p)), (.slice (.some ⟨((0 : Nat)), ((0 : Nat)), .none⟩) (n) (c))]⟩))) ∧ (True)) ∧ 
((ConOK Tryz.prog ((54 : Nat)) ((C21 p n c f).when (ARes.ret (Value.bool true)))) ∧ (Con.pre ((C21 p n c f).when (ARes.ret (Value.bool true))) ⟨⟨[(.int IntKind.i64 (p))], [⟨(n), (c)⟩]⟩, [(mvs n f)]⟩) ∧ 
R (.ret (.tuple ⟨[(.int IntKind.i64 ((0 : Int))), (.int IntKind.i64 ((2 : Int)))]⟩)))))))) ∧
((decide (a ≤ IntKind.i64.wrap ((↑n : Int) - (1 : Int)))) = false → ((((((2 : Nat) ≤ (2 : Nat))) ∧ (((.agg ⟨[(.int IntKind.i64 (p)), (.slice (.some ⟨((0 : Nat)), ((0 : Nat)), .none⟩) (n) (c))]⟩) : Value) = (.agg ⟨[(.int IntKind.i64 (p)), (.slice (.some ⟨((0 : Nat)), ((0 : Nat)), .none⟩) (n) (c))]⟩))) ∧ (True)) ∧ 
((ConOK Tryz.prog ((54 : Nat)) ((C21 p n c f).when (ARes.ret (Value.bool true)))) ∧ (Con.pre ((C21 p n c f).when (ARes.ret (Value.bool true))) ⟨⟨[(.int IntKind.i64 (p))], [⟨(n), (c)⟩]⟩, [(mvs n f)]⟩) ∧ 
R (.ret (.tuple ⟨[(.int IntKind.i64 ((0 : Int))), (.int IntKind.i64 ((2 : Int)))]⟩))))))) ∧
((decide ((0 : Int) ≤ a)) = false → ((((((2 : Nat) ≤ (2 : Nat))) ∧ (((.agg ⟨[(.int IntKind.i64 (p)), (.slice (.some ⟨((0 : Nat)), ((0 : Nat)), .none⟩) (n) (c))]⟩) : Value) = (.agg ⟨[(.int IntKind.i64 (p)), (.slice (.some ⟨((0 : Nat)), ((0 : Nat)), .none⟩) (n) (c))]⟩))) ∧ (True)) ∧ 
((ConOK Tryz.prog ((54 : Nat)) ((C21 p n c f).when (ARes.ret (Value.bool true)))) ∧ (Con.pre ((C21 p n c f).when (ARes.ret (Value.bool true))) ⟨⟨[(.int IntKind.i64 (p))], [⟨(n), (c)⟩]⟩, [(mvs n f)]⟩) ∧ 
R (.ret (.tuple ⟨[(.int IntKind.i64 ((0 : Int))), (.int IntKind.i64 ((2 : Int)))]⟩))))))) := by kernel_rfl

theorem f9y (p a b : Int) (n c : Nat) (f : Nat → Mv) (R : ARes → Prop)  : (vx.call 9 [hV p n c, I a, I b] (retK R) (m1 (mvs n f)) ([(19, .split ([(3, .split ((3, Hint.again) :: [(15, .split ([(3, .split ((3, Hint.again) :: (5, Hint.con ((C21 p n c f).when (ARes.ret (Value.bool false)))) :: []) ((3, Hint.again) :: (5, Hint.con ((C21 p n c f).when (ARes.ret (Value.bool false)))) :: []))]) ((4, Hint.again) :: (5, Hint.con ((C21 p n c f).when (ARes.ret (Value.bool false)))) :: []))]) ((3, Hint.again) :: (6, Hint.con ((C21 p n c f).when (ARes.ret (Value.bool false)))) :: []))]) ((4, Hint.again) :: (6, Hint.con ((C21 p n c f).when (ARes.ret (Value.bool false)))) :: []))])) =
((((decide ((0 : Int) ≤ a)) = true → (((decide (a ≤ IntKind.i64.wrap ((↑n : Int) - (1 : Int)))) = true → ((((((2 : Nat) ≤ (2 : Nat))) ∧ (((.agg ⟨[(.int IntKind.i64 (p)), (.slice (.some ⟨((0 : Nat)), ((0 : Nat)), .none⟩) (n) (c))]⟩) : Value) = (.agg ⟨[(.int IntKind.i64 (p)), (.slice (.some ⟨((0 : Nat)), ((0 : Nat)), .none⟩) (n) (c))]⟩))) ∧ (True)) ∧ 
(((decide ((0 : Int) ≤ b)) = true → (((decide (b ≤ IntKind.i64.wrap ((↑n : Int) - (1 : Int)))) = true → ((((((2 : Nat) ≤ (2 : Nat))) ∧ (((.agg ⟨[(.int IntKind.i64 (p)), (.slice (.some ⟨((0 : Nat)), ((0 : Nat)), .none⟩) (n) (c))]⟩) : Value) = (.agg ⟨[(.int IntKind.i64 (p)), (.slice (.some ⟨((0 : Nat)), ((0 : Nat)), .none⟩) (n) (c))]⟩))) ∧ (True)) ∧ 
((ConOK Tryz.prog ((54 : Nat)) ((C21 p n c f).when (ARes.ret (Value.bool false)))) ∧ (Con.pre ((C21 p n c f).when (ARes.ret (Value.bool false))) ⟨⟨[(.int IntKind.i64 (p))], [⟨(n), (c)⟩]⟩, [(mvs n f)]⟩) ∧ 
R (.ret (.tuple ⟨[(.int IntKind.i64 ((0 : Int))), (.int IntKind.i64 ((1 : Int)))]⟩))))) ∧
((decide (b ≤ IntKind.i64.wrap ((↑n : Int) - (1 : Int)))) = false → ((((((2 : Nat) ≤ (2 : Nat))) ∧ (((.agg ⟨[(.int IntKind.i64 (p)), (.slice (.some ⟨((0 : Nat)), ((0 : Nat)), .none⟩) (n) (c))]⟩) : Value) = (.agg ⟨[(.int IntKind.i64 (p)), (.slice (.some ⟨((0 : Nat)), ((0 : Nat)), .none⟩) (n) (c))]⟩))) ∧ (True)) ∧ 
((ConOK Tryz.prog ((54 : Nat)) ((C21 p n c f).when (ARes.ret (Value.bool false)))) ∧ (Con.pre ((C21 p n c f).when (ARes.ret (Value.bool false))) ⟨⟨[(.int IntKind.i64 (p))], [⟨(n), (c)⟩]⟩, [(mvs n f)]⟩) ∧ 
R (.ret (.tuple ⟨[(.int IntKind.i64 ((0 : Int))), (.int IntKind.i64 ((1 : Int)))]⟩))))))) ∧
((decide ((0 : Int) ≤ b)) = false → ((((((2 : Nat) ≤ (2 : Nat))) ∧ (((.agg ⟨[(.int IntKind.i64 (p)), (.slice (.some ⟨((0 : Nat)), ((0 : Nat)), .none⟩) (n) (c))]⟩) : Value) = (.agg ⟨[(.int IntKind.i64 (p)), (.slice (.some ⟨((0 : Nat)), ((0 : Nat)), .none⟩) (n) (c))]⟩))) ∧ (True)) ∧ 
((ConOK Tryz.prog ((54 : Nat)) ((C21 p n c f).when (ARes.ret (Value.bool false)))) ∧ (Con.pre ((C21 p n c f).when (ARes.ret (Value.bool false))) ⟨⟨[(.int IntKind.i64 (p))], [⟨(n), (c)⟩]⟩, [(mvs n f)]⟩) ∧ 
R (.ret (.tuple ⟨[(.int IntKind.i64 ((0 : Int))), (.int IntKind.i64 ((1 : Int)))]⟩)))))))) ∧
((decide (a ≤ IntKind.i64.wrap ((↑n : Int) - (1 : Int)))) = false → ((((((2 : Nat) ≤ (2 : Nat))) ∧ (((.agg ⟨[(.int IntKind.i64 (p)), (.slice (.some ⟨((0 : Nat)), ((0 : Nat)), .none⟩) (n) (c))]⟩) : Value) = (.agg ⟨[(.int IntKind.i64 (p)), (.slice (.some ⟨((0 : Nat)), ((0 : Nat)), .none⟩) (n) (c))]⟩))) ∧ (True)) ∧ 
((ConOK Tryz.prog ((54 : Nat)) ((C21 p n c f).when (ARes.ret (Value.bool false)))) ∧ (Con.pre ((C21 p n c f).when (ARes.ret (Value.bool false))) ⟨⟨[(.int IntKind.i64 (p))], [⟨(n), (c)⟩]⟩, [(mvs n f)]⟩) ∧ 
R (.ret (.tuple ⟨[(.int IntKind.i64 ((0 : Int))), (.int IntKind.i64 ((1 : Int)))]⟩))))))) ∧
((decide ((0 : Int) ≤ a)) = false → ((((((2 : Nat) ≤ (2 : Nat))) ∧ (((.agg ⟨[(.int IntKind.i64 (p)), (.slice (.some ⟨((0 : Nat)), ((0 : Nat)), .none⟩) (n) (c))]⟩) : Value) = (.agg ⟨[(.int IntKind.i64 (p)), (.slice (.some ⟨((0 : Nat)), ((0 : Nat)), .none⟩) (n) (c))]⟩))) ∧ (True)) ∧ 
((ConOK Tryz.prog ((54 : Nat)) ((C21 p n c f).when (ARes.ret (Value.bool false)))) ∧ (Con.pre ((C21 p n c f).when (ARes.ret (Value.bool false))) ⟨⟨[(.int IntKind.i64 (p))], [⟨(n), (c)⟩]⟩, [(mvs n f)]⟩) ∧ 
R (.ret (.tuple ⟨[(.int IntKind.i64 ((0 : Int))), (.int IntKind.i64 ((1 : Int)))]⟩))))))) := by kernel_rfl

theorem f8o (p a b : Int) (n c : Nat) (f : Nat → Mv) (R : ARes → Prop)  : (vx.call 8 [hV p n c, I a, I b] (retK R) (m1 (mvs n f)) ((20, Hint.con (C68t p n c f)) :: [(23, .split ([(3, .split ([(18, .split ([(3, .split ((9, Hint.conN (C49 p n c f)) :: (4, .val (.pointer (.some ⟨((11 : Nat)), ((0 : Nat) + a.toNat * (5 : Nat)), .none⟩))) :: (0, .val (.agg ⟨[(.int IntKind.i64 ((f a.toNat).at_)), (.int IntKind.i64 ((f a.toNat).place)), (.int IntKind.i64 ((f a.toNat).lo)), (.int IntKind.i64 ((f a.toNat).hi)), (.int IntKind.i64 ((↑a.toNat : Int)))]⟩)) :: (2, .val (.pointer (.some ⟨((11 : Nat)), ((0 : Nat) + b.toNat * (5 : Nat)), .none⟩))) :: (0, .val (.agg ⟨[(.int IntKind.i64 ((f b.toNat).at_)), (.int IntKind.i64 ((f b.toNat).place)), (.int IntKind.i64 ((f b.toNat).lo)), (.int IntKind.i64 ((f b.toNat).hi)), (.int IntKind.i64 ((↑b.toNat : Int)))]⟩)) :: (10, Hint.con ((C44 true p n c f).when (ARes.pan (Value.iface (28 : TypeId) (I (2 : Int)))))) :: []) ([]))]) ([]))]) ([]))]) ([]))])) =
(((ConOK Tryz.prog ((71 : Nat)) (C68t p n c f)) ∧ (Con.pre (C68t p n c f) ⟨⟨[(.int IntKind.i64 (p))], [⟨(n), (c)⟩]⟩, [(mvs n f)]⟩) ∧ 
(((decide ((0 : Int) ≤ a)) = true → (((decide (a ≤ IntKind.i64.wrap ((↑n : Int) - (1 : Int)))) = true → (((decide ((0 : Int) ≤ b)) = true → (((decide (b ≤ IntKind.i64.wrap ((↑n : Int) - (1 : Int)))) = true → ((ConNOK Tryz.prog ((32 : Nat)) (C49 p n c f)) ∧ (ConN.pre (C49 p n c f) ⟨⟨[(.int IntKind.i64 (p))], [⟨(n), (c)⟩]⟩, [(mvs n f)]⟩) ∧ 
((((((0 : Int) ≤ a)) ∧ ((a < (↑n : Int)))) ∧ (((.pointer (.some ⟨((11 : Nat)), ((0 : Nat) + a.toNat * (5 : Nat)), .none⟩)) : Value) = (.pointer (.some ⟨((11 : Nat)), ((0 : Nat) + a.toNat * (5 : Nat)), .none⟩)))) ∧
(((((0 : Nat) + a.toNat * (5 : Nat) + (5 : Nat) ≤ (jobsC n f).length)) ∧ (((.agg ⟨[(.int IntKind.i64 ((f a.toNat).at_)), (.int IntKind.i64 ((f a.toNat).place)), (.int IntKind.i64 ((f a.toNat).lo)), (.int IntKind.i64 ((f a.toNat).hi)), (.int IntKind.i64 ((↑a.toNat : Int)))]⟩) : Value) = (.agg ⟨(List.take ((5 : Nat)) (List.drop ((0 : Nat) + a.toNat * (5 : Nat)) (jobsC n f)))⟩))) ∧
((((((0 : Int) ≤ b)) ∧ ((b < (↑n : Int)))) ∧ (((.pointer (.some ⟨((11 : Nat)), ((0 : Nat) + b.toNat * (5 : Nat)), .none⟩)) : Value) = (.pointer (.some ⟨((11 : Nat)), ((0 : Nat) + b.toNat * (5 : Nat)), .none⟩)))) ∧
(((((0 : Nat) + b.toNat * (5 : Nat) + (5 : Nat) ≤ (jobsC n f).length)) ∧ (((.agg ⟨[(.int IntKind.i64 ((f b.toNat).at_)), (.int IntKind.i64 ((f b.toNat).place)), (.int IntKind.i64 ((f b.toNat).lo)), (.int IntKind.i64 ((f b.toNat).hi)), (.int IntKind.i64 ((↑b.toNat : Int)))]⟩) : Value) = (.agg ⟨(List.take ((5 : Nat)) (List.drop ((0 : Nat) + b.toNat * (5 : Nat)) (jobsC n f)))⟩))) ∧
((ConOK Tryz.prog ((41 : Nat)) ((C44 true p n c f).when (ARes.pan (Value.iface (28 : TypeId) (I (2 : Int)))))) ∧ (Con.pre ((C44 true p n c f).when (ARes.pan (Value.iface (28 : TypeId) (I (2 : Int))))) ⟨⟨[(.int IntKind.i64 (p))], [⟨(n), (c)⟩]⟩, [(mvs n f)]⟩) ∧ 
R (.ret (.tuple ⟨[(.int IntKind.i64 ((0 : Int))), (.int IntKind.i64 ((2 : Int)))]⟩))))))))) ∧
((decide (b ≤ IntKind.i64.wrap ((↑n : Int) - (1 : Int)))) = false → R (.ret (.tuple ⟨[(.int IntKind.i64 ((0 : Int))), (.int IntKind.i64 ((2 : Int)))]⟩))))) ∧
((decide ((0 : Int) ≤ b)) = false → R (.ret (.tuple ⟨[(.int IntKind.i64 ((0 : Int))), (.int IntKind.i64 ((2 : Int)))]⟩))))) ∧
((decide (a ≤ IntKind.i64.wrap ((↑n : Int) - (1 : Int)))) = false → R (.ret (.tuple ⟨[(.int IntKind.i64 ((0 : Int))), (.int IntKind.i64 ((2 : Int)))]⟩))))) ∧
((decide ((0 : Int) ≤ a)) = false → R (.ret (.tuple ⟨[(.int IntKind.i64 ((0 : Int))), (.int IntKind.i64 ((2 : Int)))]⟩)))))) := by kernel_rfl

theorem f8y (p a b : Int) (n c : Nat) (f : Nat → Mv) (R : ARes → Prop)  : (vx.call 8 [hV p n c, I a, I b] (retK R) (m1 (mvs n f)) ((20, Hint.con ((C68 p n c f).when (ARes.ret (Value.bool false)))) :: [])) =
(((ConOK Tryz.prog ((71 : Nat)) ((C68 p n c f).when (ARes.ret (Value.bool false)))) ∧ (Con.pre ((C68 p n c f).when (ARes.ret (Value.bool false))) ⟨⟨[(.int IntKind.i64 (p))], [⟨(n), (c)⟩]⟩, [(mvs n f)]⟩) ∧ 
R (.ret (.tuple ⟨[(.int IntKind.i64 ((0 : Int))), (.int IntKind.i64 ((1 : Int)))]⟩)))) := by kernel_rfl

theorem loop15z {p m : Int} {n c : Nat} {f : Nat → Mv} (hok : okH p n f = true) : LoopOW Tryz.prog none p15z T15z (h15z p m n c f 0) (.exit 0) T15z (h15z p m n c f n) := by
  have hH := okH_iff hok
  have h7 := hH.n7
  refine loop_forW (Ts := [T15z]) (k := 5) (n := n) (st := fun i => (0, h15z p m n c f i)) (e := .exit 0) rfl vx_sound (by intro T hT; simp only [List.mem_singleton] at hT; subst hT; rfl) (by rw [nglob]; omega) ⟨by simp, trivial⟩ (fun i hi => cl1 (mvs_atom n f))
    (fun i hi R hR => ?_) (fun R hR => ?_) (T0 := T15z) (T1 := T15z) rfl (Nat.le_of_ble_eq_true rfl) (by decide) rfl
  · have hw : IntKind.i64.wrap ((i : Int) + 1) = ((i + 1 : Nat) : Int) := wrapI (by omega) (by omega)
    have hm := hH.mv i hi
    have a1 := hm.at0; have a2 := hm.at1; have a3 := hm.lo1; have a4 := hm.lohi; have a5 := hm.hi1
    have w1 : IntKind.i64.wrap (IntKind.i64.wrap ((f i).at_ + (f i).lo) - 1) = (f i).at_ + (f i).lo - 1 := by rw [wrapI (x := (f i).at_ + (f i).lo) (by omega) (by omega), wrapI (by omega) (by omega)]
    have w2 : IntKind.i64.wrap (IntKind.i64.wrap ((f i).at_ + (f i).hi) - 1) = (f i).at_ + (f i).hi - 1 := by rw [wrapI (x := (f i).at_ + (f i).hi) (by omega) (by omega), wrapI (by omega) (by omega)]
    have d1 : decide (m ≤ (f i).at_ + (f i).lo - 1) = decide (m < (f i).at_ + (f i).lo) := decide_eq_decide.2 (by omega)
    have d2 : decide (m ≤ (f i).at_ + (f i).hi - 1) = decide (m < (f i).at_ + (f i).hi) := decide_eq_decide.2 (by omega)
    have l1 := flatC_bound (k := 4) hi
    have c1 := cntN_le (undB m f (lgS false f)) i
    have c2 := cntN_le (undB m f (lgS true f)) i
    have hu1 : undB m f (lgS false f) i = (decide ((f i).at_ ≤ m) && decide (m < (f i).at_ + (f i).lo)) := rfl
    have hu2 : undB m f (lgS true f) i = (decide ((f i).at_ ≤ m) && decide (m < (f i).at_ + (f i).hi)) := rfl
    have w3 : IntKind.i64.wrap (((cntN (undB m f (lgS false f)) i : Nat) : Int) + 1) = ((cntN (undB m f (lgS false f)) i + 1 : Nat) : Int) := wrapI (by omega) (by omega)
    have w4 : IntKind.i64.wrap (((cntN (undB m f (lgS true f)) i : Nat) : Int) + 1) = ((cntN (undB m f (lgS true f)) i + 1 : Nat) : Int) := wrapI (by omega) (by omega)
    refine ⟨T15z, ?_⟩
    simp only [h15z, cntN, hu1, hu2] at hR ⊢
    generalize hk1 : cntN (undB m f (lgS false f)) i = k1 at hR w3
    generalize hk2 : cntN (undB m f (lgS true f)) i = k2 at hR w4
    refine ⟨_, rfl, (b15z m p k1 k2 n c i (mvs n f) f R).mpr ⟨fun _ => ?_, fun h => absurd hi (by simpa using h)⟩⟩
    rw [w1, w2, d1, d2, hw, w3, w4]
    clear hk1 hk2 hu1 hu2
    repeat' (first | with_reducible apply And.intro | with_reducible intro)
    all_goals first
      | trivial
      | omega
      | rfl
      | (rw [mvs_len]; omega)
      | (rw [mvs_part f hi]; rfl)
      | (simp only [*, Bool.and_true, Bool.and_false, Bool.false_and, Bool.and_self, if_true, if_false, Bool.false_eq_true] at hR; exact hR)
      | (exfalso; simp_all; done)
  · exact ⟨T15z, _, rfl, (b15z m p _ _ n c n (mvs n f) f R).mpr ⟨fun h => absurd (of_decide_eq_true h) (by omega), fun _ => hR⟩⟩
/-- What Busy answers. -/
noncomputable def busR (p m : Int) (n : Nat) (f : Nat → Mv) : Value := if okH p n f then (if decide (0 ≤ m) && decide (m ≤ 220) then busyV m n f else .tuple ⟨[.agg ⟨[I 0, I 0]⟩, I 2]⟩) else .tuple ⟨[.agg ⟨[I 0, I 0]⟩, I 1]⟩
theorem busR_cl (p m : Int) (n : Nat) (f : Nat → Mv) : clR 50 (.ret (busR p m n f)) = true := by
  simp only [busR]
  split
  · split <;> rfl
  · rfl
theorem K15_ok (p m : Int) (n c : Nat) (f : Nat → Mv) (hn : n ≤ 1000000) : ConOK Tryz.prog 15 (C19 p m n c f (busR p m n f)) := by
  refine con_of vx_sound ⟨⟨[I p, I m], [(n, c)]⟩, [mvs n f]⟩ (fun x hx => ?_) rfl (fun _ _ => busR_cl p m n f) (fun x hx => by cases hx; exact mvs_atoms n f) rfl (Nat.le_of_ble_eq_true rfl) (by rw [nglob]; exact Nat.zero_le _)
  cases hx
  have hc := C21_ok p n c f hn
  have key : ∀ R : ARes → Prop, (∀ v, busR p m n f = v → R (.ret v)) → ∃ hs, vx.call 15 [hV p n c, I m] (retK R) (m1 (mvs n f)) hs := by
    intro R hR
    cases hok : okH p n f with
    | true =>
      have hp : ((C21 p n c f).when (.ret (.bool true))).pre ⟨⟨[I p], [(n, c)]⟩, [mvs n f]⟩ := ⟨rfl, by show ARes.ret (.bool (okH p n f)) = _; rw [hok]⟩
      have hl := loop15z (m := m) (c := c) hok
      simp only [busR, hok, if_true] at hR
      refine ⟨_, (f15z p m (cntN (undB m f (lgS false f)) n : Nat) (cntN (undB m f (lgS true f)) n : Nat) n c f R).mpr ⟨fun a => ⟨fun b => ⟨⟨⟨by omega, rfl⟩, trivial⟩, con_when hc _, hp, cl1 (mvs_atom n f), hl, hR _ ?_⟩, fun b => ⟨⟨⟨by omega, rfl⟩, trivial⟩, con_when hc _, hp, hR _ ?_⟩⟩, fun a => ⟨⟨⟨by omega, rfl⟩, trivial⟩, con_when hc _, hp, hR _ ?_⟩⟩⟩
      · rw [a, b]; rfl
      · rw [a, b]; rfl
      · rw [a]; rfl
    | false =>
      have hp : ((C21 p n c f).when (.ret (.bool false))).pre ⟨⟨[I p], [(n, c)]⟩, [mvs n f]⟩ := ⟨rfl, by show ARes.ret (.bool (okH p n f)) = _; rw [hok]⟩
      simp only [busR, hok, Bool.false_eq_true, if_false] at hR
      refine ⟨_, (f15y p m n c f R).mpr ?_⟩
      repeat' (first | with_reducible apply And.intro | with_reducible intro)
      all_goals first | exact con_when hc _ | exact hp | exact hR _ rfl | trivial | omega | rfl
  obtain ⟨hs, h⟩ := key (fun r => r = (C19 p m n c f (busR p m n f)).res ⟨⟨[I p, I m], [(n, c)]⟩, [mvs n f]⟩) fun v hv => by subst hv; rfl
  exact ⟨hs, h⟩
theorem C19n_ok (p m : Int) (n c : Nat) (f : Nat → Mv) (hok : okH p n f = true) (h1 : m < 0) : ConOK Tryz.prog 14 (C19 p m n c f (.tuple ⟨[.agg ⟨[I 0, I 0]⟩, I 2]⟩)) := by
  have h7 := (okH_iff hok).n7
  refine con_of vx_sound ⟨⟨[I p, I m], [(n, c)]⟩, [mvs n f]⟩ (fun x hx => ?_) rfl (fun _ _ => rfl) (fun x hx => by cases hx; exact mvs_atoms n f) rfl (Nat.le_of_ble_eq_true rfl) (by rw [nglob]; exact Nat.zero_le _)
  cases hx
  refine ⟨_, (f19 p m n c f _).mpr ⟨C68t_ok p n c f (by omega), ⟨rfl, hok⟩, fun h => absurd (of_decide_eq_true h) (by omega), fun _ => rfl⟩⟩
theorem K14_ok (p m : Int) (n c : Nat) (f : Nat → Mv) (hn : n ≤ 1000000) : ConOK Tryz.prog 14 (C19 p m n c f (busR p m n f)) := by
  cases hok : okH p n f with
  | false =>
    simp only [busR, hok, Bool.false_eq_true, if_false]
    exact C19a_ok p m n c f hn hok
  | true =>
    simp only [busR, hok, if_true]
    by_cases h0 : m < 0
    · rw [decide_eq_false (show ¬ 0 ≤ m by omega)]
      exact C19n_ok p m n c f hok h0
    · rw [decide_eq_true (show 0 ≤ m by omega)]
      by_cases h1 : 220 < m
      · rw [decide_eq_false (show ¬ m ≤ 220 by omega)]
        exact C19e_ok p m n c f hok h1
      · rw [decide_eq_true (show m ≤ 220 by omega)]
        exact C19_ok p m n c f hok (by omega) (by omega)
/-- What Follows answers. -/
def inB (n : Nat) (a : Int) : Bool := decide (0 ≤ a) && decide (a < n)
noncomputable def folR (p a b : Int) (n : Nat) (f : Nat → Mv) : Value := if okH p n f then (if inB n a && inB n b then .tuple ⟨[I (folV p n f a.toNat b.toNat), I 0]⟩ else .tuple ⟨[I 0, I 2]⟩) else .tuple ⟨[I 0, I 1]⟩
theorem folR_cl (p a b : Int) (n : Nat) (f : Nat → Mv) : clR 50 (.ret (folR p a b n f)) = true := by
  simp only [folR]
  split
  · split <;> rfl
  · rfl
noncomputable def C8 (p a b : Int) (n c : Nat) (f : Nat → Mv) (v : Value) : Con where
  A := .agg (.hole (.slice 0 0 .nil)) (.hole (.hole .nil))
  bs := [.list 1 .ro]
  pre x := x = ⟨⟨[I p, I a, I b], [(n, c)]⟩, [mvs n f]⟩
  res _ := .ret v
theorem K9_ok (p a b : Int) (n c : Nat) (f : Nat → Mv) (hn : n ≤ 1000000) : ConOK Tryz.prog 9 (C8 p a b n c f (folR p a b n f)) := by
  refine con_of vx_sound ⟨⟨[I p, I a, I b], [(n, c)]⟩, [mvs n f]⟩ (fun x hx => ?_) rfl (fun _ _ => folR_cl p a b n f) (fun x hx => by cases hx; exact mvs_atoms n f) rfl (Nat.le_of_ble_eq_true rfl) (by rw [nglob]; exact Nat.zero_le _)
  cases hx
  have hc := C21_ok p n c f hn
  have key : ∀ R : ARes → Prop, (∀ v, folR p a b n f = v → R (.ret v)) → ∃ hs, vx.call 9 [hV p n c, I a, I b] (retK R) (m1 (mvs n f)) hs := by
    intro R hR
    cases hok : okH p n f with
    | false =>
      have hp : ((C21 p n c f).when (.ret (.bool false))).pre ⟨⟨[I p], [(n, c)]⟩, [mvs n f]⟩ := ⟨rfl, by show ARes.ret (.bool (okH p n f)) = _; rw [hok]⟩
      simp only [folR, hok, Bool.false_eq_true, if_false] at hR
      refine ⟨_, (f9y p a b n c f R).mpr ?_⟩
      repeat' (first | with_reducible apply And.intro | with_reducible intro)
      all_goals first | exact con_when hc _ | exact hp | exact hR _ rfl | trivial | omega | rfl
    | true =>
      have hp : ((C21 p n c f).when (.ret (.bool true))).pre ⟨⟨[I p], [(n, c)]⟩, [mvs n f]⟩ := ⟨rfl, by show ARes.ret (.bool (okH p n f)) = _; rw [hok]⟩
      have hH := okH_iff hok
      have h7 := hH.n7
      have hw : IntKind.i64.wrap ((n : Int) - 1) = (n : Int) - 1 := wrapI (by omega) (by omega)
      simp only [folR, hok, if_true] at hR
      cases hin : (inB n a && inB n b) with
      | true =>
        simp only [hin, if_true] at hR
        simp only [inB, Bool.and_eq_true, decide_eq_true_eq] at hin
        obtain ⟨⟨i1, i2⟩, i3, i4⟩ := hin
        obtain ⟨i, rfl⟩ := Int.eq_ofNat_of_zero_le i1
        obtain ⟨j, rfl⟩ := Int.eq_ofNat_of_zero_le i3
        have hi : i < n := by omega
        have hj : j < n := by omega
        have e := folV_eq hH hi hj
        simp only [Int.toNat_natCast] at hR
        refine ⟨_, (f9i p i j n c f R).mpr ?_⟩
        rw [hw]
        repeat' (first | with_reducible apply And.intro | with_reducible intro)
        all_goals first
          | exact con_when hc _
          | exact hp
          | exact K36i_ok true p n c f hok hi hj
          | exact K36i_ok false p n c f hok hi hj
          | trivial
          | omega
          | rfl
          | (exact hR _ (by rw [e]; simp only [*, if_true, if_false, Bool.false_eq_true]; rfl))
          | (exfalso; rename_i h; have h2 := of_decide_eq_false h; omega)
      | false =>
        simp only [hin, Bool.false_eq_true, if_false] at hR
        simp only [inB] at hin
        refine ⟨_, (f9o p a b n c f R).mpr ?_⟩
        rw [hw]
        have ea : decide (a < (n : Int)) = decide (a ≤ (n : Int) - 1) := decide_eq_decide.2 (by omega)
        have eb : decide (b < (n : Int)) = decide (b ≤ (n : Int) - 1) := decide_eq_decide.2 (by omega)
        rw [ea, eb] at hin
        repeat' (first | with_reducible apply And.intro | with_reducible intro)
        all_goals first
          | exact con_when hc _
          | exact hp
          | exact hR _ rfl
          | trivial
          | omega
          | rfl
          | (exfalso; simp_all; done)
  obtain ⟨hs, h⟩ := key (fun r => r = (C8 p a b n c f (folR p a b n f)).res ⟨⟨[I p, I a, I b], [(n, c)]⟩, [mvs n f]⟩) fun v hv => by subst hv; rfl
  exact ⟨hs, h⟩
theorem K8_ok (p a b : Int) (n c : Nat) (f : Nat → Mv) (hn : n ≤ 1000000) : ConOK Tryz.prog 8 (C8 p a b n c f (folR p a b n f)) := by
  cases hok : okH p n f with
  | false =>
    refine con_of vx_sound ⟨⟨[I p, I a, I b], [(n, c)]⟩, [mvs n f]⟩ (fun x hx => ?_) rfl (fun _ _ => folR_cl p a b n f) (fun x hx => by cases hx; exact mvs_atoms n f) rfl (Nat.le_of_ble_eq_true rfl) (by rw [nglob]; exact Nat.zero_le _)
    cases hx
    refine ⟨_, (f8y p a b n c f _).mpr ⟨con_when (C68_ok p n c f hn) _, ⟨rfl, by show ARes.ret (.bool (okH p n f)) = _; rw [hok]⟩, ?_⟩⟩
    simp only [C8, folR, hok, Bool.false_eq_true, if_false]
    rfl
  | true =>
    have hH := okH_iff hok
    have h7 := hH.n7
    have hw : IntKind.i64.wrap ((n : Int) - 1) = (n : Int) - 1 := wrapI (by omega) (by omega)
    cases hin : (inB n a && inB n b) with
    | true =>
      simp only [folR, hok, hin, if_true]
      simp only [inB, Bool.and_eq_true, decide_eq_true_eq] at hin
      obtain ⟨⟨i1, i2⟩, i3, i4⟩ := hin
      obtain ⟨i, rfl⟩ := Int.eq_ofNat_of_zero_le i1
      obtain ⟨j, rfl⟩ := Int.eq_ofNat_of_zero_le i3
      simp only [Int.toNat_natCast]
      exact C18_ok p i j n c f hok (by omega) (by omega) h7
    | false =>
      simp only [folR, hok, hin, if_true, Bool.false_eq_true, if_false]
      simp only [inB] at hin
      refine con_of vx_sound ⟨⟨[I p, I a, I b], [(n, c)]⟩, [mvs n f]⟩ (fun x hx => ?_) rfl (fun _ _ => rfl) (fun x hx => by cases hx; exact mvs_atoms n f) rfl (Nat.le_of_ble_eq_true rfl) (by rw [nglob]; exact Nat.zero_le _)
      cases hx
      refine ⟨_, (f8o p a b n c f _).mpr ?_⟩
      rw [hw]
      have ea : decide (a < (n : Int)) = decide (a ≤ (n : Int) - 1) := decide_eq_decide.2 (by omega)
      have eb : decide (b < (n : Int)) = decide (b ≤ (n : Int) - 1) := decide_eq_decide.2 (by omega)
      rw [ea, eb] at hin
      repeat' (first | with_reducible apply And.intro | with_reducible intro)
      all_goals first
        | exact C68t_ok p n c f (by omega)
        | exact ⟨rfl, hok⟩
        | exact C49_ok p n c f (by omega) (by omega)
        | trivial
        | omega
        | rfl
        | (exfalso; simp_all; done)
end Go.Ab

/- what the package, and the document, answer to any plan. -/
set_option maxRecDepth 100000
namespace Go.Ab
open Go Go.RowKit Go.Proofs
theorem f12e (p : Int) (n c k d : Nat) (f : Nat → Mv) (g : Nat → Int) (R : ARes → Prop)  : (vx.call 12 [hV p n c, slV 1 k d] (retK R) (m2 (mvs n f) (ints k g)) ((19, Hint.con ((C68 p n c f).when (ARes.ret (Value.bool false)))) :: [])) =
(((ConOK Tryz.prog ((71 : Nat)) ((C68 p n c f).when (ARes.ret (Value.bool false)))) ∧ (Con.pre ((C68 p n c f).when (ARes.ret (Value.bool false))) ⟨⟨[(.int IntKind.i64 (p))], [⟨(n), (c)⟩]⟩, [(mvs n f)]⟩) ∧ 
R (.ret (.tuple ⟨[(.slice .none ((0 : Nat)) ((0 : Nat))), (.int IntKind.i64 ((1 : Int)))]⟩)))) := by kernel_rfl

theorem f10e (p : Int) (s : Bool) (n c k d : Nat) (f : Nat → Mv) (g : Nat → Int) (R : ARes → Prop)  : (vx.call 10 [hV p n c, slV 1 k d, .bool s] (retK R) (m2 (mvs n f) (ints k g)) ((21, Hint.con ((C68 p n c f).when (ARes.ret (Value.bool false)))) :: [])) =
(((ConOK Tryz.prog ((71 : Nat)) ((C68 p n c f).when (ARes.ret (Value.bool false)))) ∧ (Con.pre ((C68 p n c f).when (ARes.ret (Value.bool false))) ⟨⟨[(.int IntKind.i64 (p))], [⟨(n), (c)⟩]⟩, [(mvs n f)]⟩) ∧ 
R (.ret (.tuple ⟨[(.int IntKind.i64 ((0 : Int))), (.int IntKind.i64 ((0 : Int))), (.int IntKind.i64 ((1 : Int)))]⟩)))) := by kernel_rfl

theorem f10p (p : Int) (s : Bool) (n c k d : Nat) (f : Nat → Mv) (g : Nat → Int) (R : ARes → Prop)  : (vx.call 10 [hV p n c, slV 1 k d, .bool s] (retK R) (m2 (mvs n f) (ints k g)) ((21, Hint.con (C68t p n c f)) :: (11, Hint.con ((C39 p n c f k d g).when (ARes.ret (Value.bool false)))) :: [])) =
(((ConOK Tryz.prog ((71 : Nat)) (C68t p n c f)) ∧ (Con.pre (C68t p n c f) ⟨⟨[(.int IntKind.i64 (p))], [⟨(n), (c)⟩]⟩, [(mvs n f)]⟩) ∧ 
((ConOK Tryz.prog ((39 : Nat)) ((C39 p n c f k d g).when (ARes.ret (Value.bool false)))) ∧ (Con.pre ((C39 p n c f k d g).when (ARes.ret (Value.bool false))) ⟨⟨[(.int IntKind.i64 (p))], [⟨(n), (c)⟩, ⟨(k), (d)⟩]⟩, [(mvs n f), (ints k g)]⟩) ∧ 
R (.ret (.tuple ⟨[(.int IntKind.i64 ((0 : Int))), (.int IntKind.i64 ((0 : Int))), (.int IntKind.i64 ((2 : Int)))]⟩))))) := by kernel_rfl

theorem n12p (p : Int) (n c : Nat) (f : Nat → Mv) (R : ARes → Prop)  : (vx.call 12 [hV p (n + 1) c, nilS] (retK R) (m1 (mvs (n + 1) f)) ((19, Hint.con (C68t p (n + (1 : Nat)) c f)) :: [])) =
(((ConOK Tryz.prog ((71 : Nat)) (C68t p (n + (1 : Nat)) c f)) ∧ (Con.pre (C68t p (n + (1 : Nat)) c f) ⟨⟨[(.int IntKind.i64 (p))], [⟨(n + (1 : Nat)), (c)⟩]⟩, [(mvs (n + (1 : Nat)) f)]⟩) ∧ 
R (.ret (.tuple ⟨[(.slice .none ((0 : Nat)) ((0 : Nat))), (.int IntKind.i64 ((2 : Int)))]⟩)))) := by kernel_rfl

theorem n12e (p : Int) (n c : Nat) (f : Nat → Mv) (R : ARes → Prop)  : (vx.call 12 [hV p (n + 1) c, nilS] (retK R) (m1 (mvs (n + 1) f)) ((19, Hint.con ((C68 p (n + (1 : Nat)) c f).when (ARes.ret (Value.bool false)))) :: [])) =
(((ConOK Tryz.prog ((71 : Nat)) ((C68 p (n + (1 : Nat)) c f).when (ARes.ret (Value.bool false)))) ∧ (Con.pre ((C68 p (n + (1 : Nat)) c f).when (ARes.ret (Value.bool false))) ⟨⟨[(.int IntKind.i64 (p))], [⟨(n + (1 : Nat)), (c)⟩]⟩, [(mvs (n + (1 : Nat)) f)]⟩) ∧ 
R (.ret (.tuple ⟨[(.slice .none ((0 : Nat)) ((0 : Nat))), (.int IntKind.i64 ((1 : Int)))]⟩)))) := by kernel_rfl

theorem n10p (p : Int) (s : Bool) (n c : Nat) (f : Nat → Mv) (R : ARes → Prop)  : (vx.call 10 [hV p (n + 1) c, nilS, .bool s] (retK R) (m1 (mvs (n + 1) f)) ((21, Hint.con (C68t p (n + (1 : Nat)) c f)) :: [])) =
(((ConOK Tryz.prog ((71 : Nat)) (C68t p (n + (1 : Nat)) c f)) ∧ (Con.pre (C68t p (n + (1 : Nat)) c f) ⟨⟨[(.int IntKind.i64 (p))], [⟨(n + (1 : Nat)), (c)⟩]⟩, [(mvs (n + (1 : Nat)) f)]⟩) ∧ 
R (.ret (.tuple ⟨[(.int IntKind.i64 ((0 : Int))), (.int IntKind.i64 ((0 : Int))), (.int IntKind.i64 ((2 : Int)))]⟩)))) := by kernel_rfl

theorem n10e (p : Int) (s : Bool) (n c : Nat) (f : Nat → Mv) (R : ARes → Prop)  : (vx.call 10 [hV p (n + 1) c, nilS, .bool s] (retK R) (m1 (mvs (n + 1) f)) ((21, Hint.con ((C68 p (n + (1 : Nat)) c f).when (ARes.ret (Value.bool false)))) :: [])) =
(((ConOK Tryz.prog ((71 : Nat)) ((C68 p (n + (1 : Nat)) c f).when (ARes.ret (Value.bool false)))) ∧ (Con.pre ((C68 p (n + (1 : Nat)) c f).when (ARes.ret (Value.bool false))) ⟨⟨[(.int IntKind.i64 (p))], [⟨(n + (1 : Nat)), (c)⟩]⟩, [(mvs (n + (1 : Nat)) f)]⟩) ∧ 
R (.ret (.tuple ⟨[(.int IntKind.i64 ((0 : Int))), (.int IntKind.i64 ((0 : Int))), (.int IntKind.i64 ((1 : Int)))]⟩)))) := by kernel_rfl

theorem n13p (p : Int) (n c : Nat) (f : Nat → Mv) (R : ARes → Prop)  : (vx.call 13 [hV p (n + 1) c, nilS] (retK R) (m1 (mvs (n + 1) f)) ((24, Hint.again) :: (4, Hint.con ((C21 p (n + (1 : Nat)) c f).when (ARes.ret (Value.bool true)))) :: [])) =
(((((((2 : Nat) ≤ (2 : Nat))) ∧ (((.agg ⟨[(.int IntKind.i64 (p)), (.slice (.some ⟨((0 : Nat)), ((0 : Nat)), .none⟩) (n + (1 : Nat)) (c))]⟩) : Value) = (.agg ⟨[(.int IntKind.i64 (p)), (.slice (.some ⟨((0 : Nat)), ((0 : Nat)), .none⟩) (n + (1 : Nat)) (c))]⟩))) ∧ (True)) ∧ 
((ConOK Tryz.prog ((54 : Nat)) ((C21 p (n + (1 : Nat)) c f).when (ARes.ret (Value.bool true)))) ∧ (Con.pre ((C21 p (n + (1 : Nat)) c f).when (ARes.ret (Value.bool true))) ⟨⟨[(.int IntKind.i64 (p))], [⟨(n + (1 : Nat)), (c)⟩]⟩, [(mvs (n + (1 : Nat)) f)]⟩) ∧ 
R (.ret (.tuple ⟨[(.slice .none ((0 : Nat)) ((0 : Nat))), (.int IntKind.i64 ((2 : Int)))]⟩))))) := by kernel_rfl

theorem n13e (p : Int) (n c : Nat) (f : Nat → Mv) (R : ARes → Prop)  : (vx.call 13 [hV p (n + 1) c, nilS] (retK R) (m1 (mvs (n + 1) f)) ((24, Hint.again) :: (4, Hint.con ((C21 p (n + (1 : Nat)) c f).when (ARes.ret (Value.bool false)))) :: [])) =
(((((((2 : Nat) ≤ (2 : Nat))) ∧ (((.agg ⟨[(.int IntKind.i64 (p)), (.slice (.some ⟨((0 : Nat)), ((0 : Nat)), .none⟩) (n + (1 : Nat)) (c))]⟩) : Value) = (.agg ⟨[(.int IntKind.i64 (p)), (.slice (.some ⟨((0 : Nat)), ((0 : Nat)), .none⟩) (n + (1 : Nat)) (c))]⟩))) ∧ (True)) ∧ 
((ConOK Tryz.prog ((54 : Nat)) ((C21 p (n + (1 : Nat)) c f).when (ARes.ret (Value.bool false)))) ∧ (Con.pre ((C21 p (n + (1 : Nat)) c f).when (ARes.ret (Value.bool false))) ⟨⟨[(.int IntKind.i64 (p))], [⟨(n + (1 : Nat)), (c)⟩]⟩, [(mvs (n + (1 : Nat)) f)]⟩) ∧ 
R (.ret (.tuple ⟨[(.slice .none ((0 : Nat)) ((0 : Nat))), (.int IntKind.i64 ((1 : Int)))]⟩))))) := by kernel_rfl

theorem n11p (p : Int) (s : Bool) (n c : Nat) (f : Nat → Mv) (R : ARes → Prop)  : (vx.call 11 [hV p (n + 1) c, nilS, .bool s] (retK R) (m1 (mvs (n + 1) f)) ((25, Hint.again) :: (4, Hint.con ((C21 p (n + (1 : Nat)) c f).when (ARes.ret (Value.bool true)))) :: [])) =
(((((((2 : Nat) ≤ (2 : Nat))) ∧ (((.agg ⟨[(.int IntKind.i64 (p)), (.slice (.some ⟨((0 : Nat)), ((0 : Nat)), .none⟩) (n + (1 : Nat)) (c))]⟩) : Value) = (.agg ⟨[(.int IntKind.i64 (p)), (.slice (.some ⟨((0 : Nat)), ((0 : Nat)), .none⟩) (n + (1 : Nat)) (c))]⟩))) ∧ (True)) ∧ 
((ConOK Tryz.prog ((54 : Nat)) ((C21 p (n + (1 : Nat)) c f).when (ARes.ret (Value.bool true)))) ∧ (Con.pre ((C21 p (n + (1 : Nat)) c f).when (ARes.ret (Value.bool true))) ⟨⟨[(.int IntKind.i64 (p))], [⟨(n + (1 : Nat)), (c)⟩]⟩, [(mvs (n + (1 : Nat)) f)]⟩) ∧ 
R (.ret (.tuple ⟨[(.int IntKind.i64 ((0 : Int))), (.int IntKind.i64 ((0 : Int))), (.int IntKind.i64 ((2 : Int)))]⟩))))) := by kernel_rfl

theorem n11e (p : Int) (s : Bool) (n c : Nat) (f : Nat → Mv) (R : ARes → Prop)  : (vx.call 11 [hV p (n + 1) c, nilS, .bool s] (retK R) (m1 (mvs (n + 1) f)) ((25, Hint.again) :: (4, Hint.con ((C21 p (n + (1 : Nat)) c f).when (ARes.ret (Value.bool false)))) :: [])) =
(((((((2 : Nat) ≤ (2 : Nat))) ∧ (((.agg ⟨[(.int IntKind.i64 (p)), (.slice (.some ⟨((0 : Nat)), ((0 : Nat)), .none⟩) (n + (1 : Nat)) (c))]⟩) : Value) = (.agg ⟨[(.int IntKind.i64 (p)), (.slice (.some ⟨((0 : Nat)), ((0 : Nat)), .none⟩) (n + (1 : Nat)) (c))]⟩))) ∧ (True)) ∧ 
((ConOK Tryz.prog ((54 : Nat)) ((C21 p (n + (1 : Nat)) c f).when (ARes.ret (Value.bool false)))) ∧ (Con.pre ((C21 p (n + (1 : Nat)) c f).when (ARes.ret (Value.bool false))) ⟨⟨[(.int IntKind.i64 (p))], [⟨(n + (1 : Nat)), (c)⟩]⟩, [(mvs (n + (1 : Nat)) f)]⟩) ∧ 
R (.ret (.tuple ⟨[(.int IntKind.i64 ((0 : Int))), (.int IntKind.i64 ((0 : Int))), (.int IntKind.i64 ((1 : Int)))]⟩))))) := by kernel_rfl

/-- Follows, in numbers. -/
noncomputable def folA (p a b : Int) (n : Nat) (f : Nat → Mv) : Int := if okH p n f && (inB n a && inB n b) then folV p n f a.toNat b.toNat else 0
def errI (h q : Bool) : Int := if h then (if q then 0 else 2) else 1
noncomputable def folT (p a b : Int) (n : Nat) (f : Nat → Mv) : Value := .tuple ⟨[I (folA p a b n f), I (errI (okH p n f) (inB n a && inB n b))]⟩
theorem folT_eq (p a b : Int) (n : Nat) (f : Nat → Mv) : folR p a b n f = folT p a b n f := by
  simp only [folR, folT, folA, errI]
  cases okH p n f <;> cases (inB n a && inB n b) <;> rfl
theorem P8_ok (p a b : Int) (n c : Nat) (f : Nat → Mv) (hn : n ≤ 1000000) : ConOK Tryz.prog 8 (C8 p a b n c f (folT p a b n f)) := folT_eq p a b n f ▸ K8_ok p a b n c f hn
theorem P9_ok (p a b : Int) (n c : Nat) (f : Nat → Mv) (hn : n ≤ 1000000) : ConOK Tryz.prog 9 (C8 p a b n c f (folT p a b n f)) := folT_eq p a b n f ▸ K9_ok p a b n c f hn
/-- Busy, in numbers. -/
noncomputable def busA (s : Bool) (p m : Int) (n : Nat) (f : Nat → Mv) : Int := if okH p n f && (decide (0 ≤ m) && decide (m ≤ 220)) then (cntN (undB m f (lgS s f)) n : Nat) else 0
noncomputable def busT (p m : Int) (n : Nat) (f : Nat → Mv) : Value := .tuple ⟨[.agg ⟨[I (busA false p m n f), I (busA true p m n f)]⟩, I (errI (okH p n f) (decide (0 ≤ m) && decide (m ≤ 220)))]⟩
theorem busT_eq (p m : Int) (n : Nat) (f : Nat → Mv) : busR p m n f = busT p m n f := by
  simp only [busR, busT, busA, errI, busyV]
  cases okH p n f <;> cases (decide (0 ≤ m) && decide (m ≤ 220)) <;> rfl
theorem P14_ok (p m : Int) (n c : Nat) (f : Nat → Mv) (hn : n ≤ 1000000) : ConOK Tryz.prog 14 (C19 p m n c f (busT p m n f)) := busT_eq p m n f ▸ K14_ok p m n c f hn
theorem P15_ok (p m : Int) (n c : Nat) (f : Nat → Mv) (hn : n ≤ 1000000) : ConOK Tryz.prog 15 (C19 p m n c f (busT p m n f)) := busT_eq p m n f ▸ K15_ok p m n c f hn
/-- Check, in numbers. -/
noncomputable def chkA (s : Bool) (p : Int) (n k : Nat) (f : Nat → Mv) (g : Nat → Int) : Int := if okH p n f && okP n k g then (match pairS g (ordF s p n f n) k k 0 with | some m => (m.1 : Int) | none => 0) else 0
noncomputable def chkB (s : Bool) (p : Int) (n k : Nat) (f : Nat → Mv) (g : Nat → Int) : Int := if okH p n f && okP n k g then (match pairS g (ordF s p n f n) k k 0 with | some m => (m.2 : Int) | none => 0) else 0
noncomputable def chkE (s : Bool) (p : Int) (n k : Nat) (f : Nat → Mv) (g : Nat → Int) : Int := if okH p n f then (if okP n k g then (match pairS g (ordF s p n f n) k k 0 with | some _ => 0 | none => 4) else 2) else 1
noncomputable def chkT (s : Bool) (p : Int) (n k : Nat) (f : Nat → Mv) (g : Nat → Int) : Value := .tuple ⟨[I (chkA s p n k f g), I (chkB s p n k f g), I (chkE s p n k f g)]⟩
theorem chk_ok (s : Bool) {p : Int} {n k : Nat} {f : Nat → Mv} {g : Nat → Int} (h : okH p n f = true) (q : okP n k g = true) : chkT s p n k f g = checkV s p n k f g := by
  simp only [chkT, chkA, chkB, chkE, checkV, h, q, Bool.and_self, if_true]
  cases pairS g (ordF s p n f n) k k 0 <;> rfl
theorem chk_q (s : Bool) {p : Int} {n k : Nat} {f : Nat → Mv} {g : Nat → Int} (h : okH p n f = true) (q : okP n k g = false) : chkT s p n k f g = .tuple ⟨[I 0, I 0, I 2]⟩ := by
  simp only [chkT, chkA, chkB, chkE, h, q, Bool.and_false, if_true, Bool.false_eq_true, if_false]
theorem chk_h (s : Bool) {p : Int} {n k : Nat} {f : Nat → Mv} {g : Nat → Int} (h : okH p n f = false) : chkT s p n k f g = .tuple ⟨[I 0, I 0, I 1]⟩ := by
  simp only [chkT, chkA, chkB, chkE, h, Bool.false_and, Bool.false_eq_true, if_false]
theorem okP_len {n k : Nat} {g : Nat → Int} (h : okP n k g = true) : k = n := by
  simp only [okP, Bool.and_eq_true] at h
  have := h.1
  simp at this
  omega
theorem P11_ok (s : Bool) (p : Int) (n c k d : Nat) (f : Nat → Mv) (g : Nat → Int) (hn : n ≤ 1000000) (hk : k ≤ 1000000) : ConOK Tryz.prog 11 (C16v s p n c k d f g (chkT s p n k f g)) := by
  cases h : okH p n f with
  | false => rw [chk_h s h]; exact K11a_ok s p n c k d f g hn hk h
  | true =>
    cases q : okP n k g with
    | false => rw [chk_q s h q]; exact K11e_ok s p n c k d f g hk h q
    | true =>
      rw [chk_ok s h q]
      obtain rfl := okP_len q
      exact K11_ok s p k c d f g h q
theorem P10_ok (s : Bool) (p : Int) (n c k d : Nat) (f : Nat → Mv) (g : Nat → Int) (hn : n ≤ 1000000) (hk : k ≤ 1000000) : ConOK Tryz.prog 10 (C16v s p n c k d f g (chkT s p n k f g)) := by
  cases h : okH p n f with
  | false =>
    rw [chk_h s h]
    refine con_of vx_sound ⟨⟨[I p, .bool s], [(n, c), (k, d)]⟩, [mvs n f, ints k g]⟩ (fun x hx => ?_) rfl (fun _ _ => rfl) (fun x hx => by cases hx; exact two_at) rfl (Nat.le_of_ble_eq_true rfl) (by rw [nglob]; exact Nat.zero_le _)
    cases hx
    exact ⟨_, (f10e p s n c k d f g _).mpr ⟨con_when (C68_ok p n c f hn) _, ⟨rfl, by show ARes.ret (.bool (okH p n f)) = _; rw [h]⟩, rfl⟩⟩
  | true =>
    have h7 := (okH_iff h).n7
    cases q : okP n k g with
    | false =>
      rw [chk_q s h q]
      refine con_of vx_sound ⟨⟨[I p, .bool s], [(n, c), (k, d)]⟩, [mvs n f, ints k g]⟩ (fun x hx => ?_) rfl (fun _ _ => rfl) (fun x hx => by cases hx; exact two_at) rfl (Nat.le_of_ble_eq_true rfl) (by rw [nglob]; exact Nat.zero_le _)
      cases hx
      exact ⟨_, (f10p p s n c k d f g _).mpr ⟨C68t_ok p n c f hn, ⟨rfl, h⟩, con_when (C39_ok p n c f k d g hn hk) _, ⟨rfl, by show ARes.ret (.bool (okP n k g)) = _; rw [q]⟩, rfl⟩⟩
    | true =>
      rw [chk_ok s h q]
      obtain rfl := okP_len q
      exact C16_ok s p k c k d f g h q h7 h7
/-- Late, refused. -/
noncomputable def C15w (p : Int) (n c k d : Nat) (f : Nat → Mv) (g : Nat → Int) : Con := { C15e p n c k d f g (ints k g) with res := fun _ => .ret (.tuple ⟨[nilS, I (errI (okH p n f) (okP n k g))]⟩) }
theorem P13_ok (p : Int) (n c k d : Nat) (f : Nat → Mv) (g : Nat → Int) (hn : n ≤ 1000000) (hk : k ≤ 1000000) (hb : (okH p n f && okP n k g) = false) : ConOK Tryz.prog 13 (C15w p n c k d f g) := by
  cases h : okH p n f with
  | false => simp only [C15w, h, errI, Bool.false_eq_true, if_false]; exact K13a_ok p n c k d f g hn hk h
  | true =>
    have q : okP n k g = false := by rw [h] at hb; exact hb
    simp only [C15w, h, q, errI, Bool.false_eq_true, if_false, if_true]
    exact K13e_ok p n c k d f g hk h q
theorem P12_ok (p : Int) (n c k d : Nat) (f : Nat → Mv) (g : Nat → Int) (hn : n ≤ 1000000) (hk : k ≤ 1000000) (hb : (okH p n f && okP n k g) = false) : ConOK Tryz.prog 12 (C15w p n c k d f g) := by
  cases h : okH p n f with
  | false =>
    simp only [C15w, h, errI, Bool.false_eq_true, if_false]
    refine con_of vx_sound ⟨⟨[I p], [(n, c), (k, d)]⟩, [mvs n f, ints k g]⟩ (fun x hx => ?_) rfl (fun _ _ => rfl) (fun x hx => by cases hx; exact two_at) rfl (Nat.le_of_ble_eq_true rfl) (by rw [nglob]; exact Nat.zero_le _)
    cases hx
    exact ⟨_, (f12e p n c k d f g _).mpr ⟨con_when (C68_ok p n c f hn) _, ⟨rfl, by show ARes.ret (.bool (okH p n f)) = _; rw [h]⟩, rfl⟩⟩
  | true =>
    have q : okP n k g = false := by rw [h] at hb; exact hb
    simp only [C15w, h, q, errI, Bool.false_eq_true, if_false, if_true]
    exact C15e_ok p n c k d f g _ rfl hk h q
/-! ### No plan -/
noncomputable def D15 (p : Int) (n c : Nat) (f : Nat → Mv) : Con where
  A := .agg (.hole (.slice 0 0 .nil)) (.val nilS .nil)
  bs := [.list 1 .ro]
  pre x := x = ⟨⟨[I p], [(n, c)]⟩, [mvs n f]⟩
  res _ := .ret (.tuple ⟨[nilS, I (errI (okH p n f) false)]⟩)
noncomputable def D16 (s : Bool) (p : Int) (n c : Nat) (f : Nat → Mv) : Con where
  A := .agg (.hole (.slice 0 0 .nil)) (.val nilS (.hole .nil))
  bs := [.list 1 .ro]
  pre x := x = ⟨⟨[I p, .bool s], [(n, c)]⟩, [mvs n f]⟩
  res _ := .ret (.tuple ⟨[I 0, I 0, I (errI (okH p n f) false)]⟩)
theorem D12_ok (p : Int) (n c : Nat) (f : Nat → Mv) (h0 : 0 < n) (hn : n ≤ 1000000) : ConOK Tryz.prog 12 (D15 p n c f) := by
  obtain ⟨m, rfl⟩ : ∃ m, n = m + 1 := ⟨n - 1, by omega⟩
  refine con_of vx_sound ⟨⟨[I p], [(m + 1, c)]⟩, [mvs (m + 1) f]⟩ (fun x hx => ?_) rfl (fun _ _ => rfl) (fun x hx => by cases hx; exact mvs_atoms _ f) rfl (Nat.le_of_ble_eq_true rfl) (by rw [nglob]; exact Nat.zero_le _)
  cases hx
  cases h : okH p (m + 1) f with
  | false => exact ⟨_, (n12e p m c f _).mpr ⟨con_when (C68_ok p _ c f hn) _, ⟨rfl, by show ARes.ret (.bool (okH p (m + 1) f)) = _; rw [h]⟩, by simp only [D15, h]; rfl⟩⟩
  | true => exact ⟨_, (n12p p m c f _).mpr ⟨C68t_ok p _ c f hn, ⟨rfl, h⟩, by simp only [D15, h]; rfl⟩⟩
theorem D13_ok (p : Int) (n c : Nat) (f : Nat → Mv) (h0 : 0 < n) (hn : n ≤ 1000000) : ConOK Tryz.prog 13 (D15 p n c f) := by
  obtain ⟨m, rfl⟩ : ∃ m, n = m + 1 := ⟨n - 1, by omega⟩
  refine con_of vx_sound ⟨⟨[I p], [(m + 1, c)]⟩, [mvs (m + 1) f]⟩ (fun x hx => ?_) rfl (fun _ _ => rfl) (fun x hx => by cases hx; exact mvs_atoms _ f) rfl (Nat.le_of_ble_eq_true rfl) (by rw [nglob]; exact Nat.zero_le _)
  cases hx
  cases h : okH p (m + 1) f with
  | false =>
    refine ⟨_, (n13e p m c f _).mpr ?_⟩
    repeat' (first | with_reducible apply And.intro | with_reducible intro)
    all_goals first | exact con_when (C21_ok p _ c f hn) _ | exact ⟨rfl, by show ARes.ret (.bool (okH p (m + 1) f)) = _; rw [h]⟩ | (simp only [D15, h]; rfl) | trivial | omega | rfl
  | true =>
    refine ⟨_, (n13p p m c f _).mpr ?_⟩
    repeat' (first | with_reducible apply And.intro | with_reducible intro)
    all_goals first | exact con_when (C21_ok p _ c f hn) _ | exact ⟨rfl, by show ARes.ret (.bool (okH p (m + 1) f)) = _; rw [h]⟩ | (simp only [D15, h]; rfl) | trivial | omega | rfl
theorem D10_ok (s : Bool) (p : Int) (n c : Nat) (f : Nat → Mv) (h0 : 0 < n) (hn : n ≤ 1000000) : ConOK Tryz.prog 10 (D16 s p n c f) := by
  obtain ⟨m, rfl⟩ : ∃ m, n = m + 1 := ⟨n - 1, by omega⟩
  refine con_of vx_sound ⟨⟨[I p, .bool s], [(m + 1, c)]⟩, [mvs (m + 1) f]⟩ (fun x hx => ?_) rfl (fun _ _ => rfl) (fun x hx => by cases hx; exact mvs_atoms _ f) rfl (Nat.le_of_ble_eq_true rfl) (by rw [nglob]; exact Nat.zero_le _)
  cases hx
  cases h : okH p (m + 1) f with
  | false => exact ⟨_, (n10e p s m c f _).mpr ⟨con_when (C68_ok p _ c f hn) _, ⟨rfl, by show ARes.ret (.bool (okH p (m + 1) f)) = _; rw [h]⟩, by simp only [D16, h]; rfl⟩⟩
  | true => exact ⟨_, (n10p p s m c f _).mpr ⟨C68t_ok p _ c f hn, ⟨rfl, h⟩, by simp only [D16, h]; rfl⟩⟩
theorem D11_ok (s : Bool) (p : Int) (n c : Nat) (f : Nat → Mv) (h0 : 0 < n) (hn : n ≤ 1000000) : ConOK Tryz.prog 11 (D16 s p n c f) := by
  obtain ⟨m, rfl⟩ : ∃ m, n = m + 1 := ⟨n - 1, by omega⟩
  refine con_of vx_sound ⟨⟨[I p, .bool s], [(m + 1, c)]⟩, [mvs (m + 1) f]⟩ (fun x hx => ?_) rfl (fun _ _ => rfl) (fun x hx => by cases hx; exact mvs_atoms _ f) rfl (Nat.le_of_ble_eq_true rfl) (by rw [nglob]; exact Nat.zero_le _)
  cases hx
  cases h : okH p (m + 1) f with
  | false =>
    refine ⟨_, (n11e p s m c f _).mpr ?_⟩
    repeat' (first | with_reducible apply And.intro | with_reducible intro)
    all_goals first | exact con_when (C21_ok p _ c f hn) _ | exact ⟨rfl, by show ARes.ret (.bool (okH p (m + 1) f)) = _; rw [h]⟩ | (simp only [D16, h]; rfl) | trivial | omega | rfl
  | true =>
    refine ⟨_, (n11p p s m c f _).mpr ?_⟩
    repeat' (first | with_reducible apply And.intro | with_reducible intro)
    all_goals first | exact con_when (C21_ok p _ c f hn) _ | exact ⟨rfl, by show ARes.ret (.bool (okH p (m + 1) f)) = _; rw [h]⟩ | (simp only [D16, h]; rfl) | trivial | omega | rfl
end Go.Ab

/- the calls' contracts, by what they answer. -/
set_option maxRecDepth 100000
namespace Go.Ab
open Go Go.RowKit Go.Proofs
noncomputable def C15y (p : Int) (n c d : Nat) (f : Nat → Mv) (g : Nat → Int) (A B : Nat → Int) : ConN := { C15 p n c d f g with news := fun _ => [(spansC n A B, 37)] }
noncomputable def C15x (p : Int) (n c k d : Nat) (f : Nat → Mv) (g : Nat → Int) (e : Int) : Con := { C15e p n c k d f g (ints k g) with res := fun _ => .ret (.tuple ⟨[nilS, I e]⟩) }
noncomputable def D15x (p : Int) (n c : Nat) (f : Nat → Mv) (e : Int) : Con := { D15 p n c f with res := fun _ => .ret (.tuple ⟨[nilS, I e]⟩) }
noncomputable def D16x (s : Bool) (p : Int) (n c : Nat) (f : Nat → Mv) (e : Int) : Con := { D16 s p n c f with res := fun _ => .ret (.tuple ⟨[I 0, I 0, I e]⟩) }
noncomputable def m2n (ms : List Value) : Mem := ⟨fillX [.cells ms 1 .ro, .dead] 0 .nil, 2⟩
end Go.Ab

