/- the law, with slices of length 0 of which nothing is known. -/
import Derived.Test.YtamfplmmfbbabaaGreatMY
import Derived.WalkKit
import Derived.ProofKit
import Derived.OpenShut
import Derived.Deep.Slices
import Derived.Deep.Strs
set_option maxRecDepth 100000
namespace Go.Ab
open Go Go.RowKit Go.Proofs
theorem e8d (p a b : Int) (c : Nat) (R : ARes → Prop)  : (vx.call 8 [hV p 0 c, I a, I b] (retK R) md ([(29, .split ([(3, .split ([(41, .split ((3, .val (.bool false)) :: []) ([]))]) ([]))]) ([]))])) =
((((decide ((0 : Int) ≤ p)) = true → (((decide (p ≤ (3 : Int))) = true → (((decide ((0 : Int) ≤ a)) = true → ((((some (.bool (decide (a ≤ IntKind.i64.wrap ((↑(0 : Nat) : Int) - (1 : Int))))) : Option Value) = some (.bool false))) ∧
R (.ret (.tuple ⟨[(.int IntKind.i64 ((0 : Int))), (.int IntKind.i64 ((2 : Int)))]⟩)))) ∧
((decide ((0 : Int) ≤ a)) = false → R (.ret (.tuple ⟨[(.int IntKind.i64 ((0 : Int))), (.int IntKind.i64 ((2 : Int)))]⟩))))) ∧
((decide (p ≤ (3 : Int))) = false → R (.ret (.tuple ⟨[(.int IntKind.i64 ((0 : Int))), (.int IntKind.i64 ((1 : Int)))]⟩))))) ∧
((decide ((0 : Int) ≤ p)) = false → R (.ret (.tuple ⟨[(.int IntKind.i64 ((0 : Int))), (.int IntKind.i64 ((1 : Int)))]⟩))))) := by kernel_rfl

theorem e9d (p a b : Int) (c : Nat) (R : ARes → Prop)  : (vx.call 9 [hV p 0 c, I a, I b] (retK R) md ([(19, .split ((3, .val (.bool false)) :: (3, Hint.again) :: [(15, .split ([(3, .split ([]) ([]))]) ([]))]) ((4, Hint.again) :: [(15, .split ([(3, .split ([]) ([]))]) ([]))]))])) =
((((decide ((0 : Int) ≤ a)) = true → ((((some (.bool (decide (a ≤ IntKind.i64.wrap ((↑(0 : Nat) : Int) - (1 : Int))))) : Option Value) = some (.bool false))) ∧
((((((2 : Nat) ≤ (2 : Nat))) ∧ (((.agg ⟨[(.int IntKind.i64 (p)), (.slice (.some ⟨((0 : Nat)), ((0 : Nat)), .none⟩) ((0 : Nat)) (c))]⟩) : Value) = (.agg ⟨[(.int IntKind.i64 (p)), (.slice (.some ⟨((0 : Nat)), ((0 : Nat)), .none⟩) ((0 : Nat)) (c))]⟩))) ∧ (True)) ∧ 
(((decide ((0 : Int) ≤ p)) = true → (((decide (p ≤ (3 : Int))) = true → R (.ret (.tuple ⟨[(.int IntKind.i64 ((0 : Int))), (.int IntKind.i64 ((2 : Int)))]⟩))) ∧
((decide (p ≤ (3 : Int))) = false → R (.ret (.tuple ⟨[(.int IntKind.i64 ((0 : Int))), (.int IntKind.i64 ((1 : Int)))]⟩))))) ∧
((decide ((0 : Int) ≤ p)) = false → R (.ret (.tuple ⟨[(.int IntKind.i64 ((0 : Int))), (.int IntKind.i64 ((1 : Int)))]⟩))))))) ∧
((decide ((0 : Int) ≤ a)) = false → ((((((2 : Nat) ≤ (2 : Nat))) ∧ (((.agg ⟨[(.int IntKind.i64 (p)), (.slice (.some ⟨((0 : Nat)), ((0 : Nat)), .none⟩) ((0 : Nat)) (c))]⟩) : Value) = (.agg ⟨[(.int IntKind.i64 (p)), (.slice (.some ⟨((0 : Nat)), ((0 : Nat)), .none⟩) ((0 : Nat)) (c))]⟩))) ∧ (True)) ∧ 
(((decide ((0 : Int) ≤ p)) = true → (((decide (p ≤ (3 : Int))) = true → R (.ret (.tuple ⟨[(.int IntKind.i64 ((0 : Int))), (.int IntKind.i64 ((2 : Int)))]⟩))) ∧
((decide (p ≤ (3 : Int))) = false → R (.ret (.tuple ⟨[(.int IntKind.i64 ((0 : Int))), (.int IntKind.i64 ((1 : Int)))]⟩))))) ∧
((decide ((0 : Int) ≤ p)) = false → R (.ret (.tuple ⟨[(.int IntKind.i64 ((0 : Int))), (.int IntKind.i64 ((1 : Int)))]⟩)))))))) := by kernel_rfl

theorem e14d (p m : Int) (c : Nat) (R : ARes → Prop)  : (vx.call 14 [hV p 0 c, I m] (retK R) md ([(28, .split ([(3, .split ([(35, .split ([(3, .split ((29, Hint.again) :: []) ([]))]) ([]))]) ([]))]) ([]))])) =
((((decide ((0 : Int) ≤ p)) = true → (((decide (p ≤ (3 : Int))) = true → (((decide ((0 : Int) ≤ m)) = true → (((decide (m ≤ (220 : Int))) = true → (((((some (.int IntKind.i64 (m)) : Option Value) = some (.int IntKind.i64 (m)))) ∧ (((((2 : Nat) ≤ (2 : Nat))) ∧ (((.agg ⟨[(.int IntKind.i64 (p)), (.slice (.some ⟨((0 : Nat)), ((0 : Nat)), .none⟩) ((0 : Nat)) (c))]⟩) : Value) = (.agg ⟨[(.int IntKind.i64 (p)), (.slice (.some ⟨((0 : Nat)), ((0 : Nat)), .none⟩) ((0 : Nat)) (c))]⟩))) ∧ (True))) ∧ 
R (.ret (.tuple ⟨[(.agg ⟨[(.int IntKind.i64 ((0 : Int))), (.int IntKind.i64 ((0 : Int)))]⟩), (.int IntKind.i64 ((0 : Int)))]⟩)))) ∧
((decide (m ≤ (220 : Int))) = false → R (.ret (.tuple ⟨[(.agg ⟨[(.int IntKind.i64 ((0 : Int))), (.int IntKind.i64 ((0 : Int)))]⟩), (.int IntKind.i64 ((2 : Int)))]⟩))))) ∧
((decide ((0 : Int) ≤ m)) = false → R (.ret (.tuple ⟨[(.agg ⟨[(.int IntKind.i64 ((0 : Int))), (.int IntKind.i64 ((0 : Int)))]⟩), (.int IntKind.i64 ((2 : Int)))]⟩))))) ∧
((decide (p ≤ (3 : Int))) = false → R (.ret (.tuple ⟨[(.agg ⟨[(.int IntKind.i64 ((0 : Int))), (.int IntKind.i64 ((0 : Int)))]⟩), (.int IntKind.i64 ((1 : Int)))]⟩))))) ∧
((decide ((0 : Int) ≤ p)) = false → R (.ret (.tuple ⟨[(.agg ⟨[(.int IntKind.i64 ((0 : Int))), (.int IntKind.i64 ((0 : Int)))]⟩), (.int IntKind.i64 ((1 : Int)))]⟩))))) := by kernel_rfl

theorem e15d (p m : Int) (c : Nat) (R : ARes → Prop)  : (vx.call 15 [hV p 0 c, I m] (retK R) md ([(10, .split ([(3, .split ((2, Hint.again) :: [(13, .split ([(3, .split ([]) ([]))]) ([]))]) ((2, Hint.again) :: [(13, .split ([(3, .split ([]) ([]))]) ([]))]))]) ((3, Hint.again) :: [(13, .split ([(3, .split ([]) ([]))]) ([]))]))])) =
((((decide ((0 : Int) ≤ m)) = true → (((decide (m ≤ (220 : Int))) = true → ((((((2 : Nat) ≤ (2 : Nat))) ∧ (((.agg ⟨[(.int IntKind.i64 (p)), (.slice (.some ⟨((0 : Nat)), ((0 : Nat)), .none⟩) ((0 : Nat)) (c))]⟩) : Value) = (.agg ⟨[(.int IntKind.i64 (p)), (.slice (.some ⟨((0 : Nat)), ((0 : Nat)), .none⟩) ((0 : Nat)) (c))]⟩))) ∧ (True)) ∧ 
(((decide ((0 : Int) ≤ p)) = true → (((decide (p ≤ (3 : Int))) = true → R (.ret (.tuple ⟨[(.agg ⟨[(.int IntKind.i64 ((0 : Int))), (.int IntKind.i64 ((0 : Int)))]⟩), (.int IntKind.i64 ((0 : Int)))]⟩))) ∧
((decide (p ≤ (3 : Int))) = false → R (.ret (.tuple ⟨[(.agg ⟨[(.int IntKind.i64 ((0 : Int))), (.int IntKind.i64 ((0 : Int)))]⟩), (.int IntKind.i64 ((1 : Int)))]⟩))))) ∧
((decide ((0 : Int) ≤ p)) = false → R (.ret (.tuple ⟨[(.agg ⟨[(.int IntKind.i64 ((0 : Int))), (.int IntKind.i64 ((0 : Int)))]⟩), (.int IntKind.i64 ((1 : Int)))]⟩)))))) ∧
((decide (m ≤ (220 : Int))) = false → ((((((2 : Nat) ≤ (2 : Nat))) ∧ (((.agg ⟨[(.int IntKind.i64 (p)), (.slice (.some ⟨((0 : Nat)), ((0 : Nat)), .none⟩) ((0 : Nat)) (c))]⟩) : Value) = (.agg ⟨[(.int IntKind.i64 (p)), (.slice (.some ⟨((0 : Nat)), ((0 : Nat)), .none⟩) ((0 : Nat)) (c))]⟩))) ∧ (True)) ∧ 
(((decide ((0 : Int) ≤ p)) = true → (((decide (p ≤ (3 : Int))) = true → R (.ret (.tuple ⟨[(.agg ⟨[(.int IntKind.i64 ((0 : Int))), (.int IntKind.i64 ((0 : Int)))]⟩), (.int IntKind.i64 ((2 : Int)))]⟩))) ∧
((decide (p ≤ (3 : Int))) = false → R (.ret (.tuple ⟨[(.agg ⟨[(.int IntKind.i64 ((0 : Int))), (.int IntKind.i64 ((0 : Int)))]⟩), (.int IntKind.i64 ((1 : Int)))]⟩))))) ∧
((decide ((0 : Int) ≤ p)) = false → R (.ret (.tuple ⟨[(.agg ⟨[(.int IntKind.i64 ((0 : Int))), (.int IntKind.i64 ((0 : Int)))]⟩), (.int IntKind.i64 ((1 : Int)))]⟩)))))))) ∧
((decide ((0 : Int) ≤ m)) = false → ((((((2 : Nat) ≤ (2 : Nat))) ∧ (((.agg ⟨[(.int IntKind.i64 (p)), (.slice (.some ⟨((0 : Nat)), ((0 : Nat)), .none⟩) ((0 : Nat)) (c))]⟩) : Value) = (.agg ⟨[(.int IntKind.i64 (p)), (.slice (.some ⟨((0 : Nat)), ((0 : Nat)), .none⟩) ((0 : Nat)) (c))]⟩))) ∧ (True)) ∧ 
(((decide ((0 : Int) ≤ p)) = true → (((decide (p ≤ (3 : Int))) = true → R (.ret (.tuple ⟨[(.agg ⟨[(.int IntKind.i64 ((0 : Int))), (.int IntKind.i64 ((0 : Int)))]⟩), (.int IntKind.i64 ((2 : Int)))]⟩))) ∧
((decide (p ≤ (3 : Int))) = false → R (.ret (.tuple ⟨[(.agg ⟨[(.int IntKind.i64 ((0 : Int))), (.int IntKind.i64 ((0 : Int)))]⟩), (.int IntKind.i64 ((1 : Int)))]⟩))))) ∧
((decide ((0 : Int) ≤ p)) = false → R (.ret (.tuple ⟨[(.agg ⟨[(.int IntKind.i64 ((0 : Int))), (.int IntKind.i64 ((0 : Int)))]⟩), (.int IntKind.i64 ((1 : Int)))]⟩)))))))) := by kernel_rfl

theorem e10A (p : Int) (s : Bool) (c : Nat) (R : ARes → Prop)  : (vx.call 10 [hV p 0 c, nilS, .bool s] (retK R) md ([(30, .split ([(3, .split ([(53, .split ((7, Hint.again) :: (28, Hint.again) :: []) ((7, Hint.again) :: (28, Hint.again) :: []))]) ([]))]) ([]))])) =
((((decide ((0 : Int) ≤ p)) = true → (((decide (p ≤ (3 : Int))) = true → (((s) = true → ((((((2 : Nat) ≤ (2 : Nat))) ∧ (((.agg ⟨[(.int IntKind.i64 (p)), (.slice (.some ⟨((0 : Nat)), ((0 : Nat)), .none⟩) ((0 : Nat)) (c))]⟩) : Value) = (.agg ⟨[(.int IntKind.i64 (p)), (.slice (.some ⟨((0 : Nat)), ((0 : Nat)), .none⟩) ((0 : Nat)) (c))]⟩))) ∧ ((((some (.slice .none ((0 : Nat)) ((0 : Nat))) : Option Value) = some (.slice .none ((0 : Nat)) ((0 : Nat))))) ∧ (((((2 : Nat) ≤ (2 : Nat))) ∧ (((.agg ⟨[(.int IntKind.i64 (p)), (.slice (.some ⟨((0 : Nat)), ((0 : Nat)), .none⟩) ((0 : Nat)) (c))]⟩) : Value) = (.agg ⟨[(.int IntKind.i64 (p)), (.slice (.some ⟨((0 : Nat)), ((0 : Nat)), .none⟩) ((0 : Nat)) (c))]⟩))) ∧ (True)))) ∧ 
(((((some (.slice .none ((0 : Nat)) ((0 : Nat))) : Option Value) = some (.slice .none ((0 : Nat)) ((0 : Nat))))) ∧ (((((2 : Nat) ≤ (2 : Nat))) ∧ (((.agg ⟨[(.int IntKind.i64 (p)), (.slice (.some ⟨((0 : Nat)), ((0 : Nat)), .none⟩) ((0 : Nat)) (c))]⟩) : Value) = (.agg ⟨[(.int IntKind.i64 (p)), (.slice (.some ⟨((0 : Nat)), ((0 : Nat)), .none⟩) ((0 : Nat)) (c))]⟩))) ∧ (True))) ∧ 
R (.ret (.tuple ⟨[(.int IntKind.i64 ((0 : Int))), (.int IntKind.i64 ((0 : Int))), (.int IntKind.i64 ((4 : Int)))]⟩))))) ∧
((s) = false → ((((((2 : Nat) ≤ (2 : Nat))) ∧ (((.agg ⟨[(.int IntKind.i64 (p)), (.slice (.some ⟨((0 : Nat)), ((0 : Nat)), .none⟩) ((0 : Nat)) (c))]⟩) : Value) = (.agg ⟨[(.int IntKind.i64 (p)), (.slice (.some ⟨((0 : Nat)), ((0 : Nat)), .none⟩) ((0 : Nat)) (c))]⟩))) ∧ ((((some (.slice .none ((0 : Nat)) ((0 : Nat))) : Option Value) = some (.slice .none ((0 : Nat)) ((0 : Nat))))) ∧ (((((2 : Nat) ≤ (2 : Nat))) ∧ (((.agg ⟨[(.int IntKind.i64 (p)), (.slice (.some ⟨((0 : Nat)), ((0 : Nat)), .none⟩) ((0 : Nat)) (c))]⟩) : Value) = (.agg ⟨[(.int IntKind.i64 (p)), (.slice (.some ⟨((0 : Nat)), ((0 : Nat)), .none⟩) ((0 : Nat)) (c))]⟩))) ∧ (True)))) ∧ 
(((((some (.slice .none ((0 : Nat)) ((0 : Nat))) : Option Value) = some (.slice .none ((0 : Nat)) ((0 : Nat))))) ∧ (((((2 : Nat) ≤ (2 : Nat))) ∧ (((.agg ⟨[(.int IntKind.i64 (p)), (.slice (.some ⟨((0 : Nat)), ((0 : Nat)), .none⟩) ((0 : Nat)) (c))]⟩) : Value) = (.agg ⟨[(.int IntKind.i64 (p)), (.slice (.some ⟨((0 : Nat)), ((0 : Nat)), .none⟩) ((0 : Nat)) (c))]⟩))) ∧ (True))) ∧ 
R (.ret (.tuple ⟨[(.int IntKind.i64 ((0 : Int))), (.int IntKind.i64 ((0 : Int))), (.int IntKind.i64 ((4 : Int)))]⟩))))))) ∧
((decide (p ≤ (3 : Int))) = false → R (.ret (.tuple ⟨[(.int IntKind.i64 ((0 : Int))), (.int IntKind.i64 ((0 : Int))), (.int IntKind.i64 ((1 : Int)))]⟩))))) ∧
((decide ((0 : Int) ≤ p)) = false → R (.ret (.tuple ⟨[(.int IntKind.i64 ((0 : Int))), (.int IntKind.i64 ((0 : Int))), (.int IntKind.i64 ((1 : Int)))]⟩))))) := by kernel_rfl

theorem e10B (p : Int) (s : Bool) (c d : Nat) (R : ARes → Prop)  : (vx.call 10 [hV p 0 c, slV 1 0 d, .bool s] (retK R) mdd ([(30, .split ([(3, .split ([(53, .split ((7, Hint.again) :: (28, Hint.again) :: []) ((7, Hint.again) :: (28, Hint.again) :: []))]) ([]))]) ([]))])) =
((((decide ((0 : Int) ≤ p)) = true → (((decide (p ≤ (3 : Int))) = true → (((s) = true → ((((((2 : Nat) ≤ (2 : Nat))) ∧ (((.agg ⟨[(.int IntKind.i64 (p)), (.slice (.some ⟨((0 : Nat)), ((0 : Nat)), .none⟩) ((0 : Nat)) (c))]⟩) : Value) = (.agg ⟨[(.int IntKind.i64 (p)), (.slice (.some ⟨((0 : Nat)), ((0 : Nat)), .none⟩) ((0 : Nat)) (c))]⟩))) ∧ ((((some (.slice (.some ⟨((1 : Nat)), ((0 : Nat)), .none⟩) ((0 : Nat)) (d)) : Option Value) = some (.slice (.some ⟨((1 : Nat)), ((0 : Nat)), .none⟩) ((0 : Nat)) (d)))) ∧ (((((2 : Nat) ≤ (2 : Nat))) ∧ (((.agg ⟨[(.int IntKind.i64 (p)), (.slice (.some ⟨((0 : Nat)), ((0 : Nat)), .none⟩) ((0 : Nat)) (c))]⟩) : Value) = (.agg ⟨[(.int IntKind.i64 (p)), (.slice (.some ⟨((0 : Nat)), ((0 : Nat)), .none⟩) ((0 : Nat)) (c))]⟩))) ∧ (True)))) ∧ 
(((((some (.slice (.some ⟨((1 : Nat)), ((0 : Nat)), .none⟩) ((0 : Nat)) (d)) : Option Value) = some (.slice (.some ⟨((1 : Nat)), ((0 : Nat)), .none⟩) ((0 : Nat)) (d)))) ∧ (((((2 : Nat) ≤ (2 : Nat))) ∧ (((.agg ⟨[(.int IntKind.i64 (p)), (.slice (.some ⟨((0 : Nat)), ((0 : Nat)), .none⟩) ((0 : Nat)) (c))]⟩) : Value) = (.agg ⟨[(.int IntKind.i64 (p)), (.slice (.some ⟨((0 : Nat)), ((0 : Nat)), .none⟩) ((0 : Nat)) (c))]⟩))) ∧ (True))) ∧ 
R (.ret (.tuple ⟨[(.int IntKind.i64 ((0 : Int))), (.int IntKind.i64 ((0 : Int))), (.int IntKind.i64 ((4 : Int)))]⟩))))) ∧
((s) = false → ((((((2 : Nat) ≤ (2 : Nat))) ∧ (((.agg ⟨[(.int IntKind.i64 (p)), (.slice (.some ⟨((0 : Nat)), ((0 : Nat)), .none⟩) ((0 : Nat)) (c))]⟩) : Value) = (.agg ⟨[(.int IntKind.i64 (p)), (.slice (.some ⟨((0 : Nat)), ((0 : Nat)), .none⟩) ((0 : Nat)) (c))]⟩))) ∧ ((((some (.slice (.some ⟨((1 : Nat)), ((0 : Nat)), .none⟩) ((0 : Nat)) (d)) : Option Value) = some (.slice (.some ⟨((1 : Nat)), ((0 : Nat)), .none⟩) ((0 : Nat)) (d)))) ∧ (((((2 : Nat) ≤ (2 : Nat))) ∧ (((.agg ⟨[(.int IntKind.i64 (p)), (.slice (.some ⟨((0 : Nat)), ((0 : Nat)), .none⟩) ((0 : Nat)) (c))]⟩) : Value) = (.agg ⟨[(.int IntKind.i64 (p)), (.slice (.some ⟨((0 : Nat)), ((0 : Nat)), .none⟩) ((0 : Nat)) (c))]⟩))) ∧ (True)))) ∧ 
(((((some (.slice (.some ⟨((1 : Nat)), ((0 : Nat)), .none⟩) ((0 : Nat)) (d)) : Option Value) = some (.slice (.some ⟨((1 : Nat)), ((0 : Nat)), .none⟩) ((0 : Nat)) (d)))) ∧ (((((2 : Nat) ≤ (2 : Nat))) ∧ (((.agg ⟨[(.int IntKind.i64 (p)), (.slice (.some ⟨((0 : Nat)), ((0 : Nat)), .none⟩) ((0 : Nat)) (c))]⟩) : Value) = (.agg ⟨[(.int IntKind.i64 (p)), (.slice (.some ⟨((0 : Nat)), ((0 : Nat)), .none⟩) ((0 : Nat)) (c))]⟩))) ∧ (True))) ∧ 
R (.ret (.tuple ⟨[(.int IntKind.i64 ((0 : Int))), (.int IntKind.i64 ((0 : Int))), (.int IntKind.i64 ((4 : Int)))]⟩))))))) ∧
((decide (p ≤ (3 : Int))) = false → R (.ret (.tuple ⟨[(.int IntKind.i64 ((0 : Int))), (.int IntKind.i64 ((0 : Int))), (.int IntKind.i64 ((1 : Int)))]⟩))))) ∧
((decide ((0 : Int) ≤ p)) = false → R (.ret (.tuple ⟨[(.int IntKind.i64 ((0 : Int))), (.int IntKind.i64 ((0 : Int))), (.int IntKind.i64 ((1 : Int)))]⟩))))) := by kernel_rfl

theorem e10C (p : Int) (s : Bool) (d : Nat) (R : ARes → Prop)  : (vx.call 10 [hN p, slV 1 0 d, .bool s] (retK R) mdd ([(30, .split ([(3, .split ([(53, .split ((7, Hint.again) :: (28, Hint.again) :: []) ((7, Hint.again) :: (28, Hint.again) :: []))]) ([]))]) ([]))])) =
((((decide ((0 : Int) ≤ p)) = true → (((decide (p ≤ (3 : Int))) = true → (((s) = true → ((((((2 : Nat) ≤ (2 : Nat))) ∧ (((.agg ⟨[(.int IntKind.i64 (p)), (.slice .none ((0 : Nat)) ((0 : Nat)))]⟩) : Value) = (.agg ⟨[(.int IntKind.i64 (p)), (.slice .none ((0 : Nat)) ((0 : Nat)))]⟩))) ∧ ((((some (.slice (.some ⟨((1 : Nat)), ((0 : Nat)), .none⟩) ((0 : Nat)) (d)) : Option Value) = some (.slice (.some ⟨((1 : Nat)), ((0 : Nat)), .none⟩) ((0 : Nat)) (d)))) ∧ (((((2 : Nat) ≤ (2 : Nat))) ∧ (((.agg ⟨[(.int IntKind.i64 (p)), (.slice .none ((0 : Nat)) ((0 : Nat)))]⟩) : Value) = (.agg ⟨[(.int IntKind.i64 (p)), (.slice .none ((0 : Nat)) ((0 : Nat)))]⟩))) ∧ (True)))) ∧ 
(((((some (.slice (.some ⟨((1 : Nat)), ((0 : Nat)), .none⟩) ((0 : Nat)) (d)) : Option Value) = some (.slice (.some ⟨((1 : Nat)), ((0 : Nat)), .none⟩) ((0 : Nat)) (d)))) ∧ (((((2 : Nat) ≤ (2 : Nat))) ∧ (((.agg ⟨[(.int IntKind.i64 (p)), (.slice .none ((0 : Nat)) ((0 : Nat)))]⟩) : Value) = (.agg ⟨[(.int IntKind.i64 (p)), (.slice .none ((0 : Nat)) ((0 : Nat)))]⟩))) ∧ (True))) ∧ 
R (.ret (.tuple ⟨[(.int IntKind.i64 ((0 : Int))), (.int IntKind.i64 ((0 : Int))), (.int IntKind.i64 ((4 : Int)))]⟩))))) ∧
((s) = false → ((((((2 : Nat) ≤ (2 : Nat))) ∧ (((.agg ⟨[(.int IntKind.i64 (p)), (.slice .none ((0 : Nat)) ((0 : Nat)))]⟩) : Value) = (.agg ⟨[(.int IntKind.i64 (p)), (.slice .none ((0 : Nat)) ((0 : Nat)))]⟩))) ∧ ((((some (.slice (.some ⟨((1 : Nat)), ((0 : Nat)), .none⟩) ((0 : Nat)) (d)) : Option Value) = some (.slice (.some ⟨((1 : Nat)), ((0 : Nat)), .none⟩) ((0 : Nat)) (d)))) ∧ (((((2 : Nat) ≤ (2 : Nat))) ∧ (((.agg ⟨[(.int IntKind.i64 (p)), (.slice .none ((0 : Nat)) ((0 : Nat)))]⟩) : Value) = (.agg ⟨[(.int IntKind.i64 (p)), (.slice .none ((0 : Nat)) ((0 : Nat)))]⟩))) ∧ (True)))) ∧ 
(((((some (.slice (.some ⟨((1 : Nat)), ((0 : Nat)), .none⟩) ((0 : Nat)) (d)) : Option Value) = some (.slice (.some ⟨((1 : Nat)), ((0 : Nat)), .none⟩) ((0 : Nat)) (d)))) ∧ (((((2 : Nat) ≤ (2 : Nat))) ∧ (((.agg ⟨[(.int IntKind.i64 (p)), (.slice .none ((0 : Nat)) ((0 : Nat)))]⟩) : Value) = (.agg ⟨[(.int IntKind.i64 (p)), (.slice .none ((0 : Nat)) ((0 : Nat)))]⟩))) ∧ (True))) ∧ 
R (.ret (.tuple ⟨[(.int IntKind.i64 ((0 : Int))), (.int IntKind.i64 ((0 : Int))), (.int IntKind.i64 ((4 : Int)))]⟩))))))) ∧
((decide (p ≤ (3 : Int))) = false → R (.ret (.tuple ⟨[(.int IntKind.i64 ((0 : Int))), (.int IntKind.i64 ((0 : Int))), (.int IntKind.i64 ((1 : Int)))]⟩))))) ∧
((decide ((0 : Int) ≤ p)) = false → R (.ret (.tuple ⟨[(.int IntKind.i64 ((0 : Int))), (.int IntKind.i64 ((0 : Int))), (.int IntKind.i64 ((1 : Int)))]⟩))))) := by kernel_rfl

theorem e11A (p : Int) (s : Bool) (c : Nat) (R : ARes → Prop)  : (vx.call 11 [hV p 0 c, nilS, .bool s] (retK R) md ((25, Hint.again) :: [(13, .split ([(3, .split ([]) ([]))]) ([]))])) =
(((((((2 : Nat) ≤ (2 : Nat))) ∧ (((.agg ⟨[(.int IntKind.i64 (p)), (.slice (.some ⟨((0 : Nat)), ((0 : Nat)), .none⟩) ((0 : Nat)) (c))]⟩) : Value) = (.agg ⟨[(.int IntKind.i64 (p)), (.slice (.some ⟨((0 : Nat)), ((0 : Nat)), .none⟩) ((0 : Nat)) (c))]⟩))) ∧ (True)) ∧ 
(((decide ((0 : Int) ≤ p)) = true → (((decide (p ≤ (3 : Int))) = true → R (.ret (.tuple ⟨[(.int IntKind.i64 ((0 : Int))), (.int IntKind.i64 ((0 : Int))), (.int IntKind.i64 ((4 : Int)))]⟩))) ∧
((decide (p ≤ (3 : Int))) = false → R (.ret (.tuple ⟨[(.int IntKind.i64 ((0 : Int))), (.int IntKind.i64 ((0 : Int))), (.int IntKind.i64 ((1 : Int)))]⟩))))) ∧
((decide ((0 : Int) ≤ p)) = false → R (.ret (.tuple ⟨[(.int IntKind.i64 ((0 : Int))), (.int IntKind.i64 ((0 : Int))), (.int IntKind.i64 ((1 : Int)))]⟩)))))) := by kernel_rfl

theorem e11B (p : Int) (s : Bool) (c d : Nat) (R : ARes → Prop)  : (vx.call 11 [hV p 0 c, slV 1 0 d, .bool s] (retK R) mdd ((25, Hint.again) :: [(13, .split ([(3, .split ([]) ([]))]) ([]))])) =
(((((((2 : Nat) ≤ (2 : Nat))) ∧ (((.agg ⟨[(.int IntKind.i64 (p)), (.slice (.some ⟨((0 : Nat)), ((0 : Nat)), .none⟩) ((0 : Nat)) (c))]⟩) : Value) = (.agg ⟨[(.int IntKind.i64 (p)), (.slice (.some ⟨((0 : Nat)), ((0 : Nat)), .none⟩) ((0 : Nat)) (c))]⟩))) ∧ (True)) ∧ 
(((decide ((0 : Int) ≤ p)) = true → (((decide (p ≤ (3 : Int))) = true → R (.ret (.tuple ⟨[(.int IntKind.i64 ((0 : Int))), (.int IntKind.i64 ((0 : Int))), (.int IntKind.i64 ((4 : Int)))]⟩))) ∧
((decide (p ≤ (3 : Int))) = false → R (.ret (.tuple ⟨[(.int IntKind.i64 ((0 : Int))), (.int IntKind.i64 ((0 : Int))), (.int IntKind.i64 ((1 : Int)))]⟩))))) ∧
((decide ((0 : Int) ≤ p)) = false → R (.ret (.tuple ⟨[(.int IntKind.i64 ((0 : Int))), (.int IntKind.i64 ((0 : Int))), (.int IntKind.i64 ((1 : Int)))]⟩)))))) := by kernel_rfl

theorem e11C (p : Int) (s : Bool) (d : Nat) (R : ARes → Prop)  : (vx.call 11 [hN p, slV 1 0 d, .bool s] (retK R) mdd ((25, Hint.again) :: [(13, .split ([(3, .split ([]) ([]))]) ([]))])) =
(((((((2 : Nat) ≤ (2 : Nat))) ∧ (((.agg ⟨[(.int IntKind.i64 (p)), (.slice .none ((0 : Nat)) ((0 : Nat)))]⟩) : Value) = (.agg ⟨[(.int IntKind.i64 (p)), (.slice .none ((0 : Nat)) ((0 : Nat)))]⟩))) ∧ (True)) ∧ 
(((decide ((0 : Int) ≤ p)) = true → (((decide (p ≤ (3 : Int))) = true → R (.ret (.tuple ⟨[(.int IntKind.i64 ((0 : Int))), (.int IntKind.i64 ((0 : Int))), (.int IntKind.i64 ((4 : Int)))]⟩))) ∧
((decide (p ≤ (3 : Int))) = false → R (.ret (.tuple ⟨[(.int IntKind.i64 ((0 : Int))), (.int IntKind.i64 ((0 : Int))), (.int IntKind.i64 ((1 : Int)))]⟩))))) ∧
((decide ((0 : Int) ≤ p)) = false → R (.ret (.tuple ⟨[(.int IntKind.i64 ((0 : Int))), (.int IntKind.i64 ((0 : Int))), (.int IntKind.i64 ((1 : Int)))]⟩)))))) := by kernel_rfl

theorem e12A (p : Int) (c : Nat) (R : ARes → Prop)  : (vx.call 12 [hV p 0 c, nilS] (retK R) md ([(28, .split ([(3, .split ((135, Hint.again) :: []) ([]))]) ([]))])) =
((((decide ((0 : Int) ≤ p)) = true → (((decide (p ≤ (3 : Int))) = true → ((((((2 : Nat) ≤ (2 : Nat))) ∧ (((.agg ⟨[(.int IntKind.i64 (p)), (.slice (.some ⟨((0 : Nat)), ((0 : Nat)), .none⟩) ((0 : Nat)) (c))]⟩) : Value) = (.agg ⟨[(.int IntKind.i64 (p)), (.slice (.some ⟨((0 : Nat)), ((0 : Nat)), .none⟩) ((0 : Nat)) (c))]⟩))) ∧ (True)) ∧ 
R (.ret (.tuple ⟨[(.slice .none ((0 : Nat)) ((0 : Nat))), (.int IntKind.i64 ((0 : Int)))]⟩)))) ∧
((decide (p ≤ (3 : Int))) = false → R (.ret (.tuple ⟨[(.slice .none ((0 : Nat)) ((0 : Nat))), (.int IntKind.i64 ((1 : Int)))]⟩))))) ∧
((decide ((0 : Int) ≤ p)) = false → R (.ret (.tuple ⟨[(.slice .none ((0 : Nat)) ((0 : Nat))), (.int IntKind.i64 ((1 : Int)))]⟩))))) := by kernel_rfl

theorem e12B (p : Int) (c d : Nat) (R : ARes → Prop)  : (vx.call 12 [hV p 0 c, slV 1 0 d] (retK R) mdd ([(28, .split ([(3, .split ((135, Hint.again) :: []) ([]))]) ([]))])) =
((((decide ((0 : Int) ≤ p)) = true → (((decide (p ≤ (3 : Int))) = true → ((((((2 : Nat) ≤ (2 : Nat))) ∧ (((.agg ⟨[(.int IntKind.i64 (p)), (.slice (.some ⟨((0 : Nat)), ((0 : Nat)), .none⟩) ((0 : Nat)) (c))]⟩) : Value) = (.agg ⟨[(.int IntKind.i64 (p)), (.slice (.some ⟨((0 : Nat)), ((0 : Nat)), .none⟩) ((0 : Nat)) (c))]⟩))) ∧ (True)) ∧ 
R (.ret (.tuple ⟨[(.slice .none ((0 : Nat)) ((0 : Nat))), (.int IntKind.i64 ((0 : Int)))]⟩)))) ∧
((decide (p ≤ (3 : Int))) = false → R (.ret (.tuple ⟨[(.slice .none ((0 : Nat)) ((0 : Nat))), (.int IntKind.i64 ((1 : Int)))]⟩))))) ∧
((decide ((0 : Int) ≤ p)) = false → R (.ret (.tuple ⟨[(.slice .none ((0 : Nat)) ((0 : Nat))), (.int IntKind.i64 ((1 : Int)))]⟩))))) := by kernel_rfl

theorem e12C (p : Int) (d : Nat) (R : ARes → Prop)  : (vx.call 12 [hN p, slV 1 0 d] (retK R) mdd ([(28, .split ([(3, .split ((135, Hint.again) :: []) ([]))]) ([]))])) =
((((decide ((0 : Int) ≤ p)) = true → (((decide (p ≤ (3 : Int))) = true → ((((((2 : Nat) ≤ (2 : Nat))) ∧ (((.agg ⟨[(.int IntKind.i64 (p)), (.slice .none ((0 : Nat)) ((0 : Nat)))]⟩) : Value) = (.agg ⟨[(.int IntKind.i64 (p)), (.slice .none ((0 : Nat)) ((0 : Nat)))]⟩))) ∧ (True)) ∧ 
R (.ret (.tuple ⟨[(.slice .none ((0 : Nat)) ((0 : Nat))), (.int IntKind.i64 ((0 : Int)))]⟩)))) ∧
((decide (p ≤ (3 : Int))) = false → R (.ret (.tuple ⟨[(.slice .none ((0 : Nat)) ((0 : Nat))), (.int IntKind.i64 ((1 : Int)))]⟩))))) ∧
((decide ((0 : Int) ≤ p)) = false → R (.ret (.tuple ⟨[(.slice .none ((0 : Nat)) ((0 : Nat))), (.int IntKind.i64 ((1 : Int)))]⟩))))) := by kernel_rfl

theorem e13A (p : Int) (c : Nat) (R : ARes → Prop)  : (vx.call 13 [hV p 0 c, nilS] (retK R) md ((24, Hint.again) :: [(13, .split ([(3, .split ([]) ([]))]) ([]))])) =
(((((((2 : Nat) ≤ (2 : Nat))) ∧ (((.agg ⟨[(.int IntKind.i64 (p)), (.slice (.some ⟨((0 : Nat)), ((0 : Nat)), .none⟩) ((0 : Nat)) (c))]⟩) : Value) = (.agg ⟨[(.int IntKind.i64 (p)), (.slice (.some ⟨((0 : Nat)), ((0 : Nat)), .none⟩) ((0 : Nat)) (c))]⟩))) ∧ (True)) ∧ 
(((decide ((0 : Int) ≤ p)) = true → (((decide (p ≤ (3 : Int))) = true → R (.ret (.tuple ⟨[(.slice .none ((0 : Nat)) ((0 : Nat))), (.int IntKind.i64 ((0 : Int)))]⟩))) ∧
((decide (p ≤ (3 : Int))) = false → R (.ret (.tuple ⟨[(.slice .none ((0 : Nat)) ((0 : Nat))), (.int IntKind.i64 ((1 : Int)))]⟩))))) ∧
((decide ((0 : Int) ≤ p)) = false → R (.ret (.tuple ⟨[(.slice .none ((0 : Nat)) ((0 : Nat))), (.int IntKind.i64 ((1 : Int)))]⟩)))))) := by kernel_rfl

theorem e13B (p : Int) (c d : Nat) (R : ARes → Prop)  : (vx.call 13 [hV p 0 c, slV 1 0 d] (retK R) mdd ((24, Hint.again) :: [(13, .split ([(3, .split ([]) ([]))]) ([]))])) =
(((((((2 : Nat) ≤ (2 : Nat))) ∧ (((.agg ⟨[(.int IntKind.i64 (p)), (.slice (.some ⟨((0 : Nat)), ((0 : Nat)), .none⟩) ((0 : Nat)) (c))]⟩) : Value) = (.agg ⟨[(.int IntKind.i64 (p)), (.slice (.some ⟨((0 : Nat)), ((0 : Nat)), .none⟩) ((0 : Nat)) (c))]⟩))) ∧ (True)) ∧ 
(((decide ((0 : Int) ≤ p)) = true → (((decide (p ≤ (3 : Int))) = true → R (.ret (.tuple ⟨[(.slice .none ((0 : Nat)) ((0 : Nat))), (.int IntKind.i64 ((0 : Int)))]⟩))) ∧
((decide (p ≤ (3 : Int))) = false → R (.ret (.tuple ⟨[(.slice .none ((0 : Nat)) ((0 : Nat))), (.int IntKind.i64 ((1 : Int)))]⟩))))) ∧
((decide ((0 : Int) ≤ p)) = false → R (.ret (.tuple ⟨[(.slice .none ((0 : Nat)) ((0 : Nat))), (.int IntKind.i64 ((1 : Int)))]⟩)))))) := by kernel_rfl

theorem e13C (p : Int) (d : Nat) (R : ARes → Prop)  : (vx.call 13 [hN p, slV 1 0 d] (retK R) mdd ((24, Hint.again) :: [(13, .split ([(3, .split ([]) ([]))]) ([]))])) =
(((((((2 : Nat) ≤ (2 : Nat))) ∧ (((.agg ⟨[(.int IntKind.i64 (p)), (.slice .none ((0 : Nat)) ((0 : Nat)))]⟩) : Value) = (.agg ⟨[(.int IntKind.i64 (p)), (.slice .none ((0 : Nat)) ((0 : Nat)))]⟩))) ∧ (True)) ∧ 
(((decide ((0 : Int) ≤ p)) = true → (((decide (p ≤ (3 : Int))) = true → R (.ret (.tuple ⟨[(.slice .none ((0 : Nat)) ((0 : Nat))), (.int IntKind.i64 ((0 : Int)))]⟩))) ∧
((decide (p ≤ (3 : Int))) = false → R (.ret (.tuple ⟨[(.slice .none ((0 : Nat)) ((0 : Nat))), (.int IntKind.i64 ((1 : Int)))]⟩))))) ∧
((decide ((0 : Int) ≤ p)) = false → R (.ret (.tuple ⟨[(.slice .none ((0 : Nat)) ((0 : Nat))), (.int IntKind.i64 ((1 : Int)))]⟩)))))) := by kernel_rfl

theorem l3At (p a b m x1 x2 z w x5 x6 x7 : Int) (c : Nat) (R : ARes → Prop)  : (vx.call 3 [hV p 0 c, nilS, I a, I b, I m, .bool true] (retK R) mdd ((20, Hint.con (Q8 p a b c (Value.tuple { toList := [I x1, I x2] }))) :: (8, Hint.con (Q8 p a b c (Value.tuple { toList := [I x1, I x2] }))) :: (8, Hint.con (QA10 true p c z)) :: (10, Hint.con (QA10 true p c z)) :: (9, Hint.con (QA12 p c w)) :: (7, Hint.con (QA12 p c w)) :: (7, Hint.con (Q14 p m c (Value.tuple { toList := [Value.agg { toList := [I x5, I x6] }, I x7] }))) :: (8, Hint.con (Q14 p m c (Value.tuple { toList := [Value.agg { toList := [I x5, I x6] }, I x7] }))) :: (8, .val (.bool true)) :: (3, .val (.bool true)) :: (14, .val (.bool true)) :: (24, .val (.bool true)) :: (4, .val (.bool true)) :: (4, .val (.bool true)) :: (2, Hint.con C12) :: [])) =
(((ConOK Tryz.prog ((8 : Nat)) (Q8 p a b c (Value.tuple { toList := [I x1, I x2] }))) ∧ (Con.pre (Q8 p a b c (Value.tuple { toList := [I x1, I x2] })) ⟨⟨[(.int IntKind.i64 (p)), (.int IntKind.i64 (a)), (.int IntKind.i64 (b))], [⟨((0 : Nat)), (c)⟩]⟩, []⟩) ∧ 
((ConOK Tryz.prog ((9 : Nat)) (Q8 p a b c (Value.tuple { toList := [I x1, I x2] }))) ∧ (Con.pre (Q8 p a b c (Value.tuple { toList := [I x1, I x2] })) ⟨⟨[(.int IntKind.i64 (p)), (.int IntKind.i64 (a)), (.int IntKind.i64 (b))], [⟨((0 : Nat)), (c)⟩]⟩, []⟩) ∧ 
((ConOK Tryz.prog ((10 : Nat)) (QA10 true p c z)) ∧ (Con.pre (QA10 true p c z) ⟨⟨[(.int IntKind.i64 (p)), (.bool true)], [⟨((0 : Nat)), (c)⟩]⟩, []⟩) ∧ 
((ConOK Tryz.prog ((11 : Nat)) (QA10 true p c z)) ∧ (Con.pre (QA10 true p c z) ⟨⟨[(.int IntKind.i64 (p)), (.bool true)], [⟨((0 : Nat)), (c)⟩]⟩, []⟩) ∧ 
((ConOK Tryz.prog ((12 : Nat)) (QA12 p c w)) ∧ (Con.pre (QA12 p c w) ⟨⟨[(.int IntKind.i64 (p))], [⟨((0 : Nat)), (c)⟩]⟩, []⟩) ∧ 
((ConOK Tryz.prog ((13 : Nat)) (QA12 p c w)) ∧ (Con.pre (QA12 p c w) ⟨⟨[(.int IntKind.i64 (p))], [⟨((0 : Nat)), (c)⟩]⟩, []⟩) ∧ 
((ConOK Tryz.prog ((14 : Nat)) (Q14 p m c (Value.tuple { toList := [Value.agg { toList := [I x5, I x6] }, I x7] }))) ∧ (Con.pre (Q14 p m c (Value.tuple { toList := [Value.agg { toList := [I x5, I x6] }, I x7] })) ⟨⟨[(.int IntKind.i64 (p)), (.int IntKind.i64 (m))], [⟨((0 : Nat)), (c)⟩]⟩, []⟩) ∧ 
((ConOK Tryz.prog ((15 : Nat)) (Q14 p m c (Value.tuple { toList := [Value.agg { toList := [I x5, I x6] }, I x7] }))) ∧ (Con.pre (Q14 p m c (Value.tuple { toList := [Value.agg { toList := [I x5, I x6] }, I x7] })) ⟨⟨[(.int IntKind.i64 (p)), (.int IntKind.i64 (m))], [⟨((0 : Nat)), (c)⟩]⟩, []⟩) ∧ 
((((some (.bool (x1 == x1)) : Option Value) = some (.bool true))) ∧
((((some (.bool (x2 == x2)) : Option Value) = some (.bool true))) ∧
((((some (.bool (z == z)) : Option Value) = some (.bool true))) ∧
((((some (.bool (w == w)) : Option Value) = some (.bool true))) ∧
((((some (.bool (x5 == x5 && (fun c => x6 == x6 && c) true)) : Option Value) = some (.bool true))) ∧
((((some (.bool (x7 == x7)) : Option Value) = some (.bool true))) ∧
((ConOK Tryz.prog ((7 : Nat)) (C12)) ∧ (Con.pre (C12) ⟨⟨[], []⟩, []⟩) ∧ 
R (.ret (.bool true)))))))))))))))))) := by kernel_rfl

theorem l3Af (p a b m x1 x2 z w x5 x6 x7 : Int) (c : Nat) (R : ARes → Prop)  : (vx.call 3 [hV p 0 c, nilS, I a, I b, I m, .bool false] (retK R) mdd ((20, Hint.con (Q8 p a b c (Value.tuple { toList := [I x1, I x2] }))) :: (8, Hint.con (Q8 p a b c (Value.tuple { toList := [I x1, I x2] }))) :: (8, Hint.con (QA10 false p c z)) :: (10, Hint.con (QA10 false p c z)) :: (9, Hint.con (QA12 p c w)) :: (7, Hint.con (QA12 p c w)) :: (7, Hint.con (Q14 p m c (Value.tuple { toList := [Value.agg { toList := [I x5, I x6] }, I x7] }))) :: (8, Hint.con (Q14 p m c (Value.tuple { toList := [Value.agg { toList := [I x5, I x6] }, I x7] }))) :: (8, .val (.bool true)) :: (3, .val (.bool true)) :: (14, .val (.bool true)) :: (24, .val (.bool true)) :: (4, .val (.bool true)) :: (4, .val (.bool true)) :: (2, Hint.con C12) :: [])) =
(((ConOK Tryz.prog ((8 : Nat)) (Q8 p a b c (Value.tuple { toList := [I x1, I x2] }))) ∧ (Con.pre (Q8 p a b c (Value.tuple { toList := [I x1, I x2] })) ⟨⟨[(.int IntKind.i64 (p)), (.int IntKind.i64 (a)), (.int IntKind.i64 (b))], [⟨((0 : Nat)), (c)⟩]⟩, []⟩) ∧ 
((ConOK Tryz.prog ((9 : Nat)) (Q8 p a b c (Value.tuple { toList := [I x1, I x2] }))) ∧ (Con.pre (Q8 p a b c (Value.tuple { toList := [I x1, I x2] })) ⟨⟨[(.int IntKind.i64 (p)), (.int IntKind.i64 (a)), (.int IntKind.i64 (b))], [⟨((0 : Nat)), (c)⟩]⟩, []⟩) ∧ 
((ConOK Tryz.prog ((10 : Nat)) (QA10 false p c z)) ∧ (Con.pre (QA10 false p c z) ⟨⟨[(.int IntKind.i64 (p)), (.bool false)], [⟨((0 : Nat)), (c)⟩]⟩, []⟩) ∧ 
((ConOK Tryz.prog ((11 : Nat)) (QA10 false p c z)) ∧ (Con.pre (QA10 false p c z) ⟨⟨[(.int IntKind.i64 (p)), (.bool false)], [⟨((0 : Nat)), (c)⟩]⟩, []⟩) ∧ 
((ConOK Tryz.prog ((12 : Nat)) (QA12 p c w)) ∧ (Con.pre (QA12 p c w) ⟨⟨[(.int IntKind.i64 (p))], [⟨((0 : Nat)), (c)⟩]⟩, []⟩) ∧ 
((ConOK Tryz.prog ((13 : Nat)) (QA12 p c w)) ∧ (Con.pre (QA12 p c w) ⟨⟨[(.int IntKind.i64 (p))], [⟨((0 : Nat)), (c)⟩]⟩, []⟩) ∧ 
((ConOK Tryz.prog ((14 : Nat)) (Q14 p m c (Value.tuple { toList := [Value.agg { toList := [I x5, I x6] }, I x7] }))) ∧ (Con.pre (Q14 p m c (Value.tuple { toList := [Value.agg { toList := [I x5, I x6] }, I x7] })) ⟨⟨[(.int IntKind.i64 (p)), (.int IntKind.i64 (m))], [⟨((0 : Nat)), (c)⟩]⟩, []⟩) ∧ 
((ConOK Tryz.prog ((15 : Nat)) (Q14 p m c (Value.tuple { toList := [Value.agg { toList := [I x5, I x6] }, I x7] }))) ∧ (Con.pre (Q14 p m c (Value.tuple { toList := [Value.agg { toList := [I x5, I x6] }, I x7] })) ⟨⟨[(.int IntKind.i64 (p)), (.int IntKind.i64 (m))], [⟨((0 : Nat)), (c)⟩]⟩, []⟩) ∧ 
((((some (.bool (x1 == x1)) : Option Value) = some (.bool true))) ∧
((((some (.bool (x2 == x2)) : Option Value) = some (.bool true))) ∧
((((some (.bool (z == z)) : Option Value) = some (.bool true))) ∧
((((some (.bool (w == w)) : Option Value) = some (.bool true))) ∧
((((some (.bool (x5 == x5 && (fun c => x6 == x6 && c) true)) : Option Value) = some (.bool true))) ∧
((((some (.bool (x7 == x7)) : Option Value) = some (.bool true))) ∧
((ConOK Tryz.prog ((7 : Nat)) (C12)) ∧ (Con.pre (C12) ⟨⟨[], []⟩, []⟩) ∧ 
R (.ret (.bool true)))))))))))))))))) := by kernel_rfl

theorem l3Bt (p a b m x1 x2 z w x5 x6 x7 : Int) (c d : Nat) (R : ARes → Prop)  : (vx.call 3 [hV p 0 c, slV 1 0 d, I a, I b, I m, .bool true] (retK R) mdd ((20, Hint.con (Q8 p a b c (Value.tuple { toList := [I x1, I x2] }))) :: (8, Hint.con (Q8 p a b c (Value.tuple { toList := [I x1, I x2] }))) :: (8, Hint.con (QB10 true p c d z)) :: (10, Hint.con (QB10 true p c d z)) :: (9, Hint.con (QB12 p c d w)) :: (7, Hint.con (QB12 p c d w)) :: (7, Hint.con (Q14 p m c (Value.tuple { toList := [Value.agg { toList := [I x5, I x6] }, I x7] }))) :: (8, Hint.con (Q14 p m c (Value.tuple { toList := [Value.agg { toList := [I x5, I x6] }, I x7] }))) :: (8, .val (.bool true)) :: (3, .val (.bool true)) :: (14, .val (.bool true)) :: (24, .val (.bool true)) :: (4, .val (.bool true)) :: (4, .val (.bool true)) :: (2, Hint.con C12) :: [])) =
(((ConOK Tryz.prog ((8 : Nat)) (Q8 p a b c (Value.tuple { toList := [I x1, I x2] }))) ∧ (Con.pre (Q8 p a b c (Value.tuple { toList := [I x1, I x2] })) ⟨⟨[(.int IntKind.i64 (p)), (.int IntKind.i64 (a)), (.int IntKind.i64 (b))], [⟨((0 : Nat)), (c)⟩]⟩, []⟩) ∧ 
((ConOK Tryz.prog ((9 : Nat)) (Q8 p a b c (Value.tuple { toList := [I x1, I x2] }))) ∧ (Con.pre (Q8 p a b c (Value.tuple { toList := [I x1, I x2] })) ⟨⟨[(.int IntKind.i64 (p)), (.int IntKind.i64 (a)), (.int IntKind.i64 (b))], [⟨((0 : Nat)), (c)⟩]⟩, []⟩) ∧ 
((ConOK Tryz.prog ((10 : Nat)) (QB10 true p c d z)) ∧ (Con.pre (QB10 true p c d z) ⟨⟨[(.int IntKind.i64 (p)), (.bool true)], [⟨((0 : Nat)), (c)⟩, ⟨((0 : Nat)), (d)⟩]⟩, []⟩) ∧ 
((ConOK Tryz.prog ((11 : Nat)) (QB10 true p c d z)) ∧ (Con.pre (QB10 true p c d z) ⟨⟨[(.int IntKind.i64 (p)), (.bool true)], [⟨((0 : Nat)), (c)⟩, ⟨((0 : Nat)), (d)⟩]⟩, []⟩) ∧ 
((ConOK Tryz.prog ((12 : Nat)) (QB12 p c d w)) ∧ (Con.pre (QB12 p c d w) ⟨⟨[(.int IntKind.i64 (p))], [⟨((0 : Nat)), (c)⟩, ⟨((0 : Nat)), (d)⟩]⟩, []⟩) ∧ 
((ConOK Tryz.prog ((13 : Nat)) (QB12 p c d w)) ∧ (Con.pre (QB12 p c d w) ⟨⟨[(.int IntKind.i64 (p))], [⟨((0 : Nat)), (c)⟩, ⟨((0 : Nat)), (d)⟩]⟩, []⟩) ∧ 
((ConOK Tryz.prog ((14 : Nat)) (Q14 p m c (Value.tuple { toList := [Value.agg { toList := [I x5, I x6] }, I x7] }))) ∧ (Con.pre (Q14 p m c (Value.tuple { toList := [Value.agg { toList := [I x5, I x6] }, I x7] })) ⟨⟨[(.int IntKind.i64 (p)), (.int IntKind.i64 (m))], [⟨((0 : Nat)), (c)⟩]⟩, []⟩) ∧ 
((ConOK Tryz.prog ((15 : Nat)) (Q14 p m c (Value.tuple { toList := [Value.agg { toList := [I x5, I x6] }, I x7] }))) ∧ (Con.pre (Q14 p m c (Value.tuple { toList := [Value.agg { toList := [I x5, I x6] }, I x7] })) ⟨⟨[(.int IntKind.i64 (p)), (.int IntKind.i64 (m))], [⟨((0 : Nat)), (c)⟩]⟩, []⟩) ∧ 
((((some (.bool (x1 == x1)) : Option Value) = some (.bool true))) ∧
((((some (.bool (x2 == x2)) : Option Value) = some (.bool true))) ∧
((((some (.bool (z == z)) : Option Value) = some (.bool true))) ∧
((((some (.bool (w == w)) : Option Value) = some (.bool true))) ∧
((((some (.bool (x5 == x5 && (fun c => x6 == x6 && c) true)) : Option Value) = some (.bool true))) ∧
((((some (.bool (x7 == x7)) : Option Value) = some (.bool true))) ∧
((ConOK Tryz.prog ((7 : Nat)) (C12)) ∧ (Con.pre (C12) ⟨⟨[], []⟩, []⟩) ∧ 
R (.ret (.bool true)))))))))))))))))) := by kernel_rfl

theorem l3Bf (p a b m x1 x2 z w x5 x6 x7 : Int) (c d : Nat) (R : ARes → Prop)  : (vx.call 3 [hV p 0 c, slV 1 0 d, I a, I b, I m, .bool false] (retK R) mdd ((20, Hint.con (Q8 p a b c (Value.tuple { toList := [I x1, I x2] }))) :: (8, Hint.con (Q8 p a b c (Value.tuple { toList := [I x1, I x2] }))) :: (8, Hint.con (QB10 false p c d z)) :: (10, Hint.con (QB10 false p c d z)) :: (9, Hint.con (QB12 p c d w)) :: (7, Hint.con (QB12 p c d w)) :: (7, Hint.con (Q14 p m c (Value.tuple { toList := [Value.agg { toList := [I x5, I x6] }, I x7] }))) :: (8, Hint.con (Q14 p m c (Value.tuple { toList := [Value.agg { toList := [I x5, I x6] }, I x7] }))) :: (8, .val (.bool true)) :: (3, .val (.bool true)) :: (14, .val (.bool true)) :: (24, .val (.bool true)) :: (4, .val (.bool true)) :: (4, .val (.bool true)) :: (2, Hint.con C12) :: [])) =
(((ConOK Tryz.prog ((8 : Nat)) (Q8 p a b c (Value.tuple { toList := [I x1, I x2] }))) ∧ (Con.pre (Q8 p a b c (Value.tuple { toList := [I x1, I x2] })) ⟨⟨[(.int IntKind.i64 (p)), (.int IntKind.i64 (a)), (.int IntKind.i64 (b))], [⟨((0 : Nat)), (c)⟩]⟩, []⟩) ∧ 
((ConOK Tryz.prog ((9 : Nat)) (Q8 p a b c (Value.tuple { toList := [I x1, I x2] }))) ∧ (Con.pre (Q8 p a b c (Value.tuple { toList := [I x1, I x2] })) ⟨⟨[(.int IntKind.i64 (p)), (.int IntKind.i64 (a)), (.int IntKind.i64 (b))], [⟨((0 : Nat)), (c)⟩]⟩, []⟩) ∧ 
((ConOK Tryz.prog ((10 : Nat)) (QB10 false p c d z)) ∧ (Con.pre (QB10 false p c d z) ⟨⟨[(.int IntKind.i64 (p)), (.bool false)], [⟨((0 : Nat)), (c)⟩, ⟨((0 : Nat)), (d)⟩]⟩, []⟩) ∧ 
((ConOK Tryz.prog ((11 : Nat)) (QB10 false p c d z)) ∧ (Con.pre (QB10 false p c d z) ⟨⟨[(.int IntKind.i64 (p)), (.bool false)], [⟨((0 : Nat)), (c)⟩, ⟨((0 : Nat)), (d)⟩]⟩, []⟩) ∧ 
((ConOK Tryz.prog ((12 : Nat)) (QB12 p c d w)) ∧ (Con.pre (QB12 p c d w) ⟨⟨[(.int IntKind.i64 (p))], [⟨((0 : Nat)), (c)⟩, ⟨((0 : Nat)), (d)⟩]⟩, []⟩) ∧ 
((ConOK Tryz.prog ((13 : Nat)) (QB12 p c d w)) ∧ (Con.pre (QB12 p c d w) ⟨⟨[(.int IntKind.i64 (p))], [⟨((0 : Nat)), (c)⟩, ⟨((0 : Nat)), (d)⟩]⟩, []⟩) ∧ 
((ConOK Tryz.prog ((14 : Nat)) (Q14 p m c (Value.tuple { toList := [Value.agg { toList := [I x5, I x6] }, I x7] }))) ∧ (Con.pre (Q14 p m c (Value.tuple { toList := [Value.agg { toList := [I x5, I x6] }, I x7] })) ⟨⟨[(.int IntKind.i64 (p)), (.int IntKind.i64 (m))], [⟨((0 : Nat)), (c)⟩]⟩, []⟩) ∧ 
((ConOK Tryz.prog ((15 : Nat)) (Q14 p m c (Value.tuple { toList := [Value.agg { toList := [I x5, I x6] }, I x7] }))) ∧ (Con.pre (Q14 p m c (Value.tuple { toList := [Value.agg { toList := [I x5, I x6] }, I x7] })) ⟨⟨[(.int IntKind.i64 (p)), (.int IntKind.i64 (m))], [⟨((0 : Nat)), (c)⟩]⟩, []⟩) ∧ 
((((some (.bool (x1 == x1)) : Option Value) = some (.bool true))) ∧
((((some (.bool (x2 == x2)) : Option Value) = some (.bool true))) ∧
((((some (.bool (z == z)) : Option Value) = some (.bool true))) ∧
((((some (.bool (w == w)) : Option Value) = some (.bool true))) ∧
((((some (.bool (x5 == x5 && (fun c => x6 == x6 && c) true)) : Option Value) = some (.bool true))) ∧
((((some (.bool (x7 == x7)) : Option Value) = some (.bool true))) ∧
((ConOK Tryz.prog ((7 : Nat)) (C12)) ∧ (Con.pre (C12) ⟨⟨[], []⟩, []⟩) ∧ 
R (.ret (.bool true)))))))))))))))))) := by kernel_rfl

theorem l3Ct (p a b m x1 x2 z w x5 x6 x7 : Int) (d : Nat) (R : ARes → Prop)  : (vx.call 3 [hN p, slV 1 0 d, I a, I b, I m, .bool true] (retK R) mdd ((20, Hint.con (N8 p a b (Value.tuple { toList := [I x1, I x2] }))) :: (8, Hint.con (N8 p a b (Value.tuple { toList := [I x1, I x2] }))) :: (8, Hint.con (QC10 true p d z)) :: (10, Hint.con (QC10 true p d z)) :: (9, Hint.con (QC12 p d w)) :: (7, Hint.con (QC12 p d w)) :: (7, Hint.con (N14 p m (Value.tuple { toList := [Value.agg { toList := [I x5, I x6] }, I x7] }))) :: (8, Hint.con (N14 p m (Value.tuple { toList := [Value.agg { toList := [I x5, I x6] }, I x7] }))) :: (8, .val (.bool true)) :: (3, .val (.bool true)) :: (14, .val (.bool true)) :: (24, .val (.bool true)) :: (4, .val (.bool true)) :: (4, .val (.bool true)) :: (2, Hint.con C12) :: [])) =
(((ConOK Tryz.prog ((8 : Nat)) (N8 p a b (Value.tuple { toList := [I x1, I x2] }))) ∧ (Con.pre (N8 p a b (Value.tuple { toList := [I x1, I x2] })) ⟨⟨[(.int IntKind.i64 (p)), (.int IntKind.i64 (a)), (.int IntKind.i64 (b))], []⟩, []⟩) ∧ 
((ConOK Tryz.prog ((9 : Nat)) (N8 p a b (Value.tuple { toList := [I x1, I x2] }))) ∧ (Con.pre (N8 p a b (Value.tuple { toList := [I x1, I x2] })) ⟨⟨[(.int IntKind.i64 (p)), (.int IntKind.i64 (a)), (.int IntKind.i64 (b))], []⟩, []⟩) ∧ 
((ConOK Tryz.prog ((10 : Nat)) (QC10 true p d z)) ∧ (Con.pre (QC10 true p d z) ⟨⟨[(.int IntKind.i64 (p)), (.bool true)], [⟨((0 : Nat)), (d)⟩]⟩, []⟩) ∧ 
((ConOK Tryz.prog ((11 : Nat)) (QC10 true p d z)) ∧ (Con.pre (QC10 true p d z) ⟨⟨[(.int IntKind.i64 (p)), (.bool true)], [⟨((0 : Nat)), (d)⟩]⟩, []⟩) ∧ 
((ConOK Tryz.prog ((12 : Nat)) (QC12 p d w)) ∧ (Con.pre (QC12 p d w) ⟨⟨[(.int IntKind.i64 (p))], [⟨((0 : Nat)), (d)⟩]⟩, []⟩) ∧ 
((ConOK Tryz.prog ((13 : Nat)) (QC12 p d w)) ∧ (Con.pre (QC12 p d w) ⟨⟨[(.int IntKind.i64 (p))], [⟨((0 : Nat)), (d)⟩]⟩, []⟩) ∧ 
((ConOK Tryz.prog ((14 : Nat)) (N14 p m (Value.tuple { toList := [Value.agg { toList := [I x5, I x6] }, I x7] }))) ∧ (Con.pre (N14 p m (Value.tuple { toList := [Value.agg { toList := [I x5, I x6] }, I x7] })) ⟨⟨[(.int IntKind.i64 (p)), (.int IntKind.i64 (m))], []⟩, []⟩) ∧ 
((ConOK Tryz.prog ((15 : Nat)) (N14 p m (Value.tuple { toList := [Value.agg { toList := [I x5, I x6] }, I x7] }))) ∧ (Con.pre (N14 p m (Value.tuple { toList := [Value.agg { toList := [I x5, I x6] }, I x7] })) ⟨⟨[(.int IntKind.i64 (p)), (.int IntKind.i64 (m))], []⟩, []⟩) ∧ 
((((some (.bool (x1 == x1)) : Option Value) = some (.bool true))) ∧
((((some (.bool (x2 == x2)) : Option Value) = some (.bool true))) ∧
((((some (.bool (z == z)) : Option Value) = some (.bool true))) ∧
((((some (.bool (w == w)) : Option Value) = some (.bool true))) ∧
((((some (.bool (x5 == x5 && (fun c => x6 == x6 && c) true)) : Option Value) = some (.bool true))) ∧
((((some (.bool (x7 == x7)) : Option Value) = some (.bool true))) ∧
((ConOK Tryz.prog ((7 : Nat)) (C12)) ∧ (Con.pre (C12) ⟨⟨[], []⟩, []⟩) ∧ 
R (.ret (.bool true)))))))))))))))))) := by kernel_rfl

theorem l3Cf (p a b m x1 x2 z w x5 x6 x7 : Int) (d : Nat) (R : ARes → Prop)  : (vx.call 3 [hN p, slV 1 0 d, I a, I b, I m, .bool false] (retK R) mdd ((20, Hint.con (N8 p a b (Value.tuple { toList := [I x1, I x2] }))) :: (8, Hint.con (N8 p a b (Value.tuple { toList := [I x1, I x2] }))) :: (8, Hint.con (QC10 false p d z)) :: (10, Hint.con (QC10 false p d z)) :: (9, Hint.con (QC12 p d w)) :: (7, Hint.con (QC12 p d w)) :: (7, Hint.con (N14 p m (Value.tuple { toList := [Value.agg { toList := [I x5, I x6] }, I x7] }))) :: (8, Hint.con (N14 p m (Value.tuple { toList := [Value.agg { toList := [I x5, I x6] }, I x7] }))) :: (8, .val (.bool true)) :: (3, .val (.bool true)) :: (14, .val (.bool true)) :: (24, .val (.bool true)) :: (4, .val (.bool true)) :: (4, .val (.bool true)) :: (2, Hint.con C12) :: [])) =
(((ConOK Tryz.prog ((8 : Nat)) (N8 p a b (Value.tuple { toList := [I x1, I x2] }))) ∧ (Con.pre (N8 p a b (Value.tuple { toList := [I x1, I x2] })) ⟨⟨[(.int IntKind.i64 (p)), (.int IntKind.i64 (a)), (.int IntKind.i64 (b))], []⟩, []⟩) ∧ 
((ConOK Tryz.prog ((9 : Nat)) (N8 p a b (Value.tuple { toList := [I x1, I x2] }))) ∧ (Con.pre (N8 p a b (Value.tuple { toList := [I x1, I x2] })) ⟨⟨[(.int IntKind.i64 (p)), (.int IntKind.i64 (a)), (.int IntKind.i64 (b))], []⟩, []⟩) ∧ 
((ConOK Tryz.prog ((10 : Nat)) (QC10 false p d z)) ∧ (Con.pre (QC10 false p d z) ⟨⟨[(.int IntKind.i64 (p)), (.bool false)], [⟨((0 : Nat)), (d)⟩]⟩, []⟩) ∧ 
((ConOK Tryz.prog ((11 : Nat)) (QC10 false p d z)) ∧ (Con.pre (QC10 false p d z) ⟨⟨[(.int IntKind.i64 (p)), (.bool false)], [⟨((0 : Nat)), (d)⟩]⟩, []⟩) ∧ 
((ConOK Tryz.prog ((12 : Nat)) (QC12 p d w)) ∧ (Con.pre (QC12 p d w) ⟨⟨[(.int IntKind.i64 (p))], [⟨((0 : Nat)), (d)⟩]⟩, []⟩) ∧ 
((ConOK Tryz.prog ((13 : Nat)) (QC12 p d w)) ∧ (Con.pre (QC12 p d w) ⟨⟨[(.int IntKind.i64 (p))], [⟨((0 : Nat)), (d)⟩]⟩, []⟩) ∧ 
((ConOK Tryz.prog ((14 : Nat)) (N14 p m (Value.tuple { toList := [Value.agg { toList := [I x5, I x6] }, I x7] }))) ∧ (Con.pre (N14 p m (Value.tuple { toList := [Value.agg { toList := [I x5, I x6] }, I x7] })) ⟨⟨[(.int IntKind.i64 (p)), (.int IntKind.i64 (m))], []⟩, []⟩) ∧ 
((ConOK Tryz.prog ((15 : Nat)) (N14 p m (Value.tuple { toList := [Value.agg { toList := [I x5, I x6] }, I x7] }))) ∧ (Con.pre (N14 p m (Value.tuple { toList := [Value.agg { toList := [I x5, I x6] }, I x7] })) ⟨⟨[(.int IntKind.i64 (p)), (.int IntKind.i64 (m))], []⟩, []⟩) ∧ 
((((some (.bool (x1 == x1)) : Option Value) = some (.bool true))) ∧
((((some (.bool (x2 == x2)) : Option Value) = some (.bool true))) ∧
((((some (.bool (z == z)) : Option Value) = some (.bool true))) ∧
((((some (.bool (w == w)) : Option Value) = some (.bool true))) ∧
((((some (.bool (x5 == x5 && (fun c => x6 == x6 && c) true)) : Option Value) = some (.bool true))) ∧
((((some (.bool (x7 == x7)) : Option Value) = some (.bool true))) ∧
((ConOK Tryz.prog ((7 : Nat)) (C12)) ∧ (Con.pre (C12) ⟨⟨[], []⟩, []⟩) ∧ 
R (.ret (.bool true)))))))))))))))))) := by kernel_rfl

theorem Q8_ok (p a b : Int) (c : Nat) : ConOK Tryz.prog 8 (Q8 p a b c (.tuple ⟨[I 0, I (errI (okp p) false)]⟩)) := by
  refine con_of vx_sound ⟨⟨[I p, I a, I b], [(0, c)]⟩, []⟩ (fun x hx => ?_) rfl (fun _ _ => rfl) (fun x hx => by cases hx; exact no_at) rfl (Nat.le_of_ble_eq_true rfl) (by rw [nglob]; exact Nat.zero_le _)
  cases hx
  have key : ∀ R : ARes → Prop, (∀ e, errI (okp p) false = e → R (.ret (.tuple ⟨[I 0, I e]⟩))) → ∃ hs, vx.call 8 [hV p 0 c, I a, I b] (retK R) md hs := by
    intro R hR
    refine ⟨_, (e8d p a b c R).mpr ?_⟩
    repeat' (first | with_reducible apply And.intro | with_reducible intro)
    all_goals first
      | trivial
      | omega
      | rfl
      | (simp; omega)
      | (simp only [show IntKind.i64.wrap (((0 : Nat) : Int) - 1) = -1 from rfl, Option.some.injEq, Value.bool.injEq, decide_eq_false_iff_not, decide_eq_true_eq] at *; omega)
      | (refine hR _ ?_; simp [okp, errI, *]; done)
  obtain ⟨hs, h⟩ := key (fun r => r = (Q8 p a b c (.tuple ⟨[I 0, I (errI (okp p) false)]⟩)).res ⟨⟨[I p, I a, I b], [(0, c)]⟩, []⟩) fun e he => by subst he; rfl
  exact ⟨hs, h⟩
theorem Q9_ok (p a b : Int) (c : Nat) : ConOK Tryz.prog 9 (Q8 p a b c (.tuple ⟨[I 0, I (errI (okp p) false)]⟩)) := by
  refine con_of vx_sound ⟨⟨[I p, I a, I b], [(0, c)]⟩, []⟩ (fun x hx => ?_) rfl (fun _ _ => rfl) (fun x hx => by cases hx; exact no_at) rfl (Nat.le_of_ble_eq_true rfl) (by rw [nglob]; exact Nat.zero_le _)
  cases hx
  have key : ∀ R : ARes → Prop, (∀ e, errI (okp p) false = e → R (.ret (.tuple ⟨[I 0, I e]⟩))) → ∃ hs, vx.call 9 [hV p 0 c, I a, I b] (retK R) md hs := by
    intro R hR
    refine ⟨_, (e9d p a b c R).mpr ?_⟩
    repeat' (first | with_reducible apply And.intro | with_reducible intro)
    all_goals first
      | trivial
      | omega
      | rfl
      | (simp; omega)
      | (simp only [show IntKind.i64.wrap (((0 : Nat) : Int) - 1) = -1 from rfl, Option.some.injEq, Value.bool.injEq, decide_eq_false_iff_not, decide_eq_true_eq] at *; omega)
      | (refine hR _ ?_; simp [okp, errI, *]; done)
  obtain ⟨hs, h⟩ := key (fun r => r = (Q8 p a b c (.tuple ⟨[I 0, I (errI (okp p) false)]⟩)).res ⟨⟨[I p, I a, I b], [(0, c)]⟩, []⟩) fun e he => by subst he; rfl
  exact ⟨hs, h⟩
theorem Q14_ok (p m : Int) (c : Nat) : ConOK Tryz.prog 14 (Q14 p m c (.tuple ⟨[.agg ⟨[I 0, I 0]⟩, I (errI (okp p) (okm m))]⟩)) := by
  refine con_of vx_sound ⟨⟨[I p, I m], [(0, c)]⟩, []⟩ (fun x hx => ?_) rfl (fun _ _ => rfl) (fun x hx => by cases hx; exact no_at) rfl (Nat.le_of_ble_eq_true rfl) (by rw [nglob]; exact Nat.zero_le _)
  cases hx
  have key : ∀ R : ARes → Prop, (∀ e, errI (okp p) (okm m) = e → R (.ret (.tuple ⟨[.agg ⟨[I 0, I 0]⟩, I e]⟩))) → ∃ hs, vx.call 14 [hV p 0 c, I m] (retK R) md hs := by
    intro R hR
    refine ⟨_, (e14d p m c R).mpr ?_⟩
    repeat' (first | with_reducible apply And.intro | with_reducible intro)
    all_goals first
      | trivial
      | omega
      | rfl
      | (simp; omega)
      | (refine hR _ ?_; simp [okp, okm, errI, *]; done)
  obtain ⟨hs, h⟩ := key (fun r => r = (Q14 p m c (.tuple ⟨[.agg ⟨[I 0, I 0]⟩, I (errI (okp p) (okm m))]⟩)).res ⟨⟨[I p, I m], [(0, c)]⟩, []⟩) fun e he => by subst he; rfl
  exact ⟨hs, h⟩
theorem Q15_ok (p m : Int) (c : Nat) : ConOK Tryz.prog 15 (Q14 p m c (.tuple ⟨[.agg ⟨[I 0, I 0]⟩, I (errI (okp p) (okm m))]⟩)) := by
  refine con_of vx_sound ⟨⟨[I p, I m], [(0, c)]⟩, []⟩ (fun x hx => ?_) rfl (fun _ _ => rfl) (fun x hx => by cases hx; exact no_at) rfl (Nat.le_of_ble_eq_true rfl) (by rw [nglob]; exact Nat.zero_le _)
  cases hx
  have key : ∀ R : ARes → Prop, (∀ e, errI (okp p) (okm m) = e → R (.ret (.tuple ⟨[.agg ⟨[I 0, I 0]⟩, I e]⟩))) → ∃ hs, vx.call 15 [hV p 0 c, I m] (retK R) md hs := by
    intro R hR
    refine ⟨_, (e15d p m c R).mpr ?_⟩
    repeat' (first | with_reducible apply And.intro | with_reducible intro)
    all_goals first
      | trivial
      | omega
      | rfl
      | (simp; omega)
      | (refine hR _ ?_; simp [okp, okm, errI, *]; done)
  obtain ⟨hs, h⟩ := key (fun r => r = (Q14 p m c (.tuple ⟨[.agg ⟨[I 0, I 0]⟩, I (errI (okp p) (okm m))]⟩)).res ⟨⟨[I p, I m], [(0, c)]⟩, []⟩) fun e he => by subst he; rfl
  exact ⟨hs, h⟩
theorem QA10_ok (s : Bool) (p : Int) (c : Nat) : ConOK Tryz.prog 10 (QA10 s p c (e04 p)) := by
  refine con_of vx_sound ⟨⟨[I p, .bool s], [(0, c)]⟩, []⟩ (fun x hx => ?_) rfl (fun _ _ => rfl) (fun x hx => by cases hx; exact no_at) rfl (Nat.le_of_ble_eq_true rfl) (by rw [nglob]; exact Nat.zero_le _)
  cases hx
  have key : ∀ R : ARes → Prop, (∀ e, e04 p = e → R (.ret (.tuple ⟨[I 0, I 0, I e]⟩))) → ∃ hs, vx.call 10 [hV p 0 c, nilS, .bool s] (retK R) md hs := by
    intro R hR
    refine ⟨_, (e10A p s c R).mpr ?_⟩
    repeat' (first | with_reducible apply And.intro | with_reducible intro)
    all_goals first
      | trivial
      | omega
      | rfl
      | (simp; omega)
      | (refine hR _ ?_; simp [e04, okp, *]; done)
  obtain ⟨hs, h⟩ := key (fun r => r = (QA10 s p c (e04 p)).res ⟨⟨[I p, .bool s], [(0, c)]⟩, []⟩) fun e he => by subst he; rfl
  exact ⟨hs, h⟩
theorem QB10_ok (s : Bool) (p : Int) (c d : Nat) : ConOK Tryz.prog 10 (QB10 s p c d (e04 p)) := by
  refine con_of vx_sound ⟨⟨[I p, .bool s], [(0, c), (0, d)]⟩, []⟩ (fun x hx => ?_) rfl (fun _ _ => rfl) (fun x hx => by cases hx; exact no_at) rfl (Nat.le_of_ble_eq_true rfl) (by rw [nglob]; exact Nat.zero_le _)
  cases hx
  have key : ∀ R : ARes → Prop, (∀ e, e04 p = e → R (.ret (.tuple ⟨[I 0, I 0, I e]⟩))) → ∃ hs, vx.call 10 [hV p 0 c, slV 1 0 d, .bool s] (retK R) mdd hs := by
    intro R hR
    refine ⟨_, (e10B p s c d R).mpr ?_⟩
    repeat' (first | with_reducible apply And.intro | with_reducible intro)
    all_goals first
      | trivial
      | omega
      | rfl
      | (simp; omega)
      | (refine hR _ ?_; simp [e04, okp, *]; done)
  obtain ⟨hs, h⟩ := key (fun r => r = (QB10 s p c d (e04 p)).res ⟨⟨[I p, .bool s], [(0, c), (0, d)]⟩, []⟩) fun e he => by subst he; rfl
  exact ⟨hs, h⟩
theorem QC10_ok (s : Bool) (p : Int) (d : Nat) : ConOK Tryz.prog 10 (QC10 s p d (e04 p)) := by
  refine con_of vx_sound ⟨⟨[I p, .bool s], [(0, d)]⟩, []⟩ (fun x hx => ?_) rfl (fun _ _ => rfl) (fun x hx => by cases hx; exact no_at) rfl (Nat.le_of_ble_eq_true rfl) (by rw [nglob]; exact Nat.zero_le _)
  cases hx
  have key : ∀ R : ARes → Prop, (∀ e, e04 p = e → R (.ret (.tuple ⟨[I 0, I 0, I e]⟩))) → ∃ hs, vx.call 10 [hN p, slV 1 0 d, .bool s] (retK R) mdd hs := by
    intro R hR
    refine ⟨_, (e10C p s d R).mpr ?_⟩
    repeat' (first | with_reducible apply And.intro | with_reducible intro)
    all_goals first
      | trivial
      | omega
      | rfl
      | (simp; omega)
      | (refine hR _ ?_; simp [e04, okp, *]; done)
  obtain ⟨hs, h⟩ := key (fun r => r = (QC10 s p d (e04 p)).res ⟨⟨[I p, .bool s], [(0, d)]⟩, []⟩) fun e he => by subst he; rfl
  exact ⟨hs, h⟩
theorem QA11_ok (s : Bool) (p : Int) (c : Nat) : ConOK Tryz.prog 11 (QA10 s p c (e04 p)) := by
  refine con_of vx_sound ⟨⟨[I p, .bool s], [(0, c)]⟩, []⟩ (fun x hx => ?_) rfl (fun _ _ => rfl) (fun x hx => by cases hx; exact no_at) rfl (Nat.le_of_ble_eq_true rfl) (by rw [nglob]; exact Nat.zero_le _)
  cases hx
  have key : ∀ R : ARes → Prop, (∀ e, e04 p = e → R (.ret (.tuple ⟨[I 0, I 0, I e]⟩))) → ∃ hs, vx.call 11 [hV p 0 c, nilS, .bool s] (retK R) md hs := by
    intro R hR
    refine ⟨_, (e11A p s c R).mpr ?_⟩
    repeat' (first | with_reducible apply And.intro | with_reducible intro)
    all_goals first
      | trivial
      | omega
      | rfl
      | (simp; omega)
      | (refine hR _ ?_; simp [e04, okp, *]; done)
  obtain ⟨hs, h⟩ := key (fun r => r = (QA10 s p c (e04 p)).res ⟨⟨[I p, .bool s], [(0, c)]⟩, []⟩) fun e he => by subst he; rfl
  exact ⟨hs, h⟩
theorem QB11_ok (s : Bool) (p : Int) (c d : Nat) : ConOK Tryz.prog 11 (QB10 s p c d (e04 p)) := by
  refine con_of vx_sound ⟨⟨[I p, .bool s], [(0, c), (0, d)]⟩, []⟩ (fun x hx => ?_) rfl (fun _ _ => rfl) (fun x hx => by cases hx; exact no_at) rfl (Nat.le_of_ble_eq_true rfl) (by rw [nglob]; exact Nat.zero_le _)
  cases hx
  have key : ∀ R : ARes → Prop, (∀ e, e04 p = e → R (.ret (.tuple ⟨[I 0, I 0, I e]⟩))) → ∃ hs, vx.call 11 [hV p 0 c, slV 1 0 d, .bool s] (retK R) mdd hs := by
    intro R hR
    refine ⟨_, (e11B p s c d R).mpr ?_⟩
    repeat' (first | with_reducible apply And.intro | with_reducible intro)
    all_goals first
      | trivial
      | omega
      | rfl
      | (simp; omega)
      | (refine hR _ ?_; simp [e04, okp, *]; done)
  obtain ⟨hs, h⟩ := key (fun r => r = (QB10 s p c d (e04 p)).res ⟨⟨[I p, .bool s], [(0, c), (0, d)]⟩, []⟩) fun e he => by subst he; rfl
  exact ⟨hs, h⟩
theorem QC11_ok (s : Bool) (p : Int) (d : Nat) : ConOK Tryz.prog 11 (QC10 s p d (e04 p)) := by
  refine con_of vx_sound ⟨⟨[I p, .bool s], [(0, d)]⟩, []⟩ (fun x hx => ?_) rfl (fun _ _ => rfl) (fun x hx => by cases hx; exact no_at) rfl (Nat.le_of_ble_eq_true rfl) (by rw [nglob]; exact Nat.zero_le _)
  cases hx
  have key : ∀ R : ARes → Prop, (∀ e, e04 p = e → R (.ret (.tuple ⟨[I 0, I 0, I e]⟩))) → ∃ hs, vx.call 11 [hN p, slV 1 0 d, .bool s] (retK R) mdd hs := by
    intro R hR
    refine ⟨_, (e11C p s d R).mpr ?_⟩
    repeat' (first | with_reducible apply And.intro | with_reducible intro)
    all_goals first
      | trivial
      | omega
      | rfl
      | (simp; omega)
      | (refine hR _ ?_; simp [e04, okp, *]; done)
  obtain ⟨hs, h⟩ := key (fun r => r = (QC10 s p d (e04 p)).res ⟨⟨[I p, .bool s], [(0, d)]⟩, []⟩) fun e he => by subst he; rfl
  exact ⟨hs, h⟩
theorem QA12_ok (p : Int) (c : Nat) : ConOK Tryz.prog 12 (QA12 p c (errI (okp p) true)) := by
  refine con_of vx_sound ⟨⟨[I p], [(0, c)]⟩, []⟩ (fun x hx => ?_) rfl (fun _ _ => rfl) (fun x hx => by cases hx; exact no_at) rfl (Nat.le_of_ble_eq_true rfl) (by rw [nglob]; exact Nat.zero_le _)
  cases hx
  have key : ∀ R : ARes → Prop, (∀ e, errI (okp p) true = e → R (.ret (.tuple ⟨[nilS, I e]⟩))) → ∃ hs, vx.call 12 [hV p 0 c, nilS] (retK R) md hs := by
    intro R hR
    refine ⟨_, (e12A p c R).mpr ?_⟩
    repeat' (first | with_reducible apply And.intro | with_reducible intro)
    all_goals first
      | trivial
      | omega
      | rfl
      | (simp; omega)
      | (refine hR _ ?_; simp [okp, errI, *]; done)
  obtain ⟨hs, h⟩ := key (fun r => r = (QA12 p c (errI (okp p) true)).res ⟨⟨[I p], [(0, c)]⟩, []⟩) fun e he => by subst he; rfl
  exact ⟨hs, h⟩
theorem QB12_ok (p : Int) (c d : Nat) : ConOK Tryz.prog 12 (QB12 p c d (errI (okp p) true)) := by
  refine con_of vx_sound ⟨⟨[I p], [(0, c), (0, d)]⟩, []⟩ (fun x hx => ?_) rfl (fun _ _ => rfl) (fun x hx => by cases hx; exact no_at) rfl (Nat.le_of_ble_eq_true rfl) (by rw [nglob]; exact Nat.zero_le _)
  cases hx
  have key : ∀ R : ARes → Prop, (∀ e, errI (okp p) true = e → R (.ret (.tuple ⟨[nilS, I e]⟩))) → ∃ hs, vx.call 12 [hV p 0 c, slV 1 0 d] (retK R) mdd hs := by
    intro R hR
    refine ⟨_, (e12B p c d R).mpr ?_⟩
    repeat' (first | with_reducible apply And.intro | with_reducible intro)
    all_goals first
      | trivial
      | omega
      | rfl
      | (simp; omega)
      | (refine hR _ ?_; simp [okp, errI, *]; done)
  obtain ⟨hs, h⟩ := key (fun r => r = (QB12 p c d (errI (okp p) true)).res ⟨⟨[I p], [(0, c), (0, d)]⟩, []⟩) fun e he => by subst he; rfl
  exact ⟨hs, h⟩
theorem QC12_ok (p : Int) (d : Nat) : ConOK Tryz.prog 12 (QC12 p d (errI (okp p) true)) := by
  refine con_of vx_sound ⟨⟨[I p], [(0, d)]⟩, []⟩ (fun x hx => ?_) rfl (fun _ _ => rfl) (fun x hx => by cases hx; exact no_at) rfl (Nat.le_of_ble_eq_true rfl) (by rw [nglob]; exact Nat.zero_le _)
  cases hx
  have key : ∀ R : ARes → Prop, (∀ e, errI (okp p) true = e → R (.ret (.tuple ⟨[nilS, I e]⟩))) → ∃ hs, vx.call 12 [hN p, slV 1 0 d] (retK R) mdd hs := by
    intro R hR
    refine ⟨_, (e12C p d R).mpr ?_⟩
    repeat' (first | with_reducible apply And.intro | with_reducible intro)
    all_goals first
      | trivial
      | omega
      | rfl
      | (simp; omega)
      | (refine hR _ ?_; simp [okp, errI, *]; done)
  obtain ⟨hs, h⟩ := key (fun r => r = (QC12 p d (errI (okp p) true)).res ⟨⟨[I p], [(0, d)]⟩, []⟩) fun e he => by subst he; rfl
  exact ⟨hs, h⟩
theorem QA13_ok (p : Int) (c : Nat) : ConOK Tryz.prog 13 (QA12 p c (errI (okp p) true)) := by
  refine con_of vx_sound ⟨⟨[I p], [(0, c)]⟩, []⟩ (fun x hx => ?_) rfl (fun _ _ => rfl) (fun x hx => by cases hx; exact no_at) rfl (Nat.le_of_ble_eq_true rfl) (by rw [nglob]; exact Nat.zero_le _)
  cases hx
  have key : ∀ R : ARes → Prop, (∀ e, errI (okp p) true = e → R (.ret (.tuple ⟨[nilS, I e]⟩))) → ∃ hs, vx.call 13 [hV p 0 c, nilS] (retK R) md hs := by
    intro R hR
    refine ⟨_, (e13A p c R).mpr ?_⟩
    repeat' (first | with_reducible apply And.intro | with_reducible intro)
    all_goals first
      | trivial
      | omega
      | rfl
      | (simp; omega)
      | (refine hR _ ?_; simp [okp, errI, *]; done)
  obtain ⟨hs, h⟩ := key (fun r => r = (QA12 p c (errI (okp p) true)).res ⟨⟨[I p], [(0, c)]⟩, []⟩) fun e he => by subst he; rfl
  exact ⟨hs, h⟩
theorem QB13_ok (p : Int) (c d : Nat) : ConOK Tryz.prog 13 (QB12 p c d (errI (okp p) true)) := by
  refine con_of vx_sound ⟨⟨[I p], [(0, c), (0, d)]⟩, []⟩ (fun x hx => ?_) rfl (fun _ _ => rfl) (fun x hx => by cases hx; exact no_at) rfl (Nat.le_of_ble_eq_true rfl) (by rw [nglob]; exact Nat.zero_le _)
  cases hx
  have key : ∀ R : ARes → Prop, (∀ e, errI (okp p) true = e → R (.ret (.tuple ⟨[nilS, I e]⟩))) → ∃ hs, vx.call 13 [hV p 0 c, slV 1 0 d] (retK R) mdd hs := by
    intro R hR
    refine ⟨_, (e13B p c d R).mpr ?_⟩
    repeat' (first | with_reducible apply And.intro | with_reducible intro)
    all_goals first
      | trivial
      | omega
      | rfl
      | (simp; omega)
      | (refine hR _ ?_; simp [okp, errI, *]; done)
  obtain ⟨hs, h⟩ := key (fun r => r = (QB12 p c d (errI (okp p) true)).res ⟨⟨[I p], [(0, c), (0, d)]⟩, []⟩) fun e he => by subst he; rfl
  exact ⟨hs, h⟩
theorem QC13_ok (p : Int) (d : Nat) : ConOK Tryz.prog 13 (QC12 p d (errI (okp p) true)) := by
  refine con_of vx_sound ⟨⟨[I p], [(0, d)]⟩, []⟩ (fun x hx => ?_) rfl (fun _ _ => rfl) (fun x hx => by cases hx; exact no_at) rfl (Nat.le_of_ble_eq_true rfl) (by rw [nglob]; exact Nat.zero_le _)
  cases hx
  have key : ∀ R : ARes → Prop, (∀ e, errI (okp p) true = e → R (.ret (.tuple ⟨[nilS, I e]⟩))) → ∃ hs, vx.call 13 [hN p, slV 1 0 d] (retK R) mdd hs := by
    intro R hR
    refine ⟨_, (e13C p d R).mpr ?_⟩
    repeat' (first | with_reducible apply And.intro | with_reducible intro)
    all_goals first
      | trivial
      | omega
      | rfl
      | (simp; omega)
      | (refine hR _ ?_; simp [okp, errI, *]; done)
  obtain ⟨hs, h⟩ := key (fun r => r = (QC12 p d (errI (okp p) true)).res ⟨⟨[I p], [(0, d)]⟩, []⟩) fun e he => by subst he; rfl
  exact ⟨hs, h⟩
theorem zeroA (p a b m : Int) (s : Bool) (c : Nat) : ∃ hs, vx.call 3 [hV p 0 c, nilS, I a, I b, I m, .bool s] (retK fun r => r = .ret (.bool true)) mdd hs := by
  have key : ∀ R : ARes → Prop, R (.ret (.bool true)) → ∃ hs, vx.call 3 [hV p 0 c, nilS, I a, I b, I m, .bool s] (retK R) mdd hs := by
    intro R hR
    have q8 := Q8_ok p a b c
    have q9 := Q9_ok p a b c
    have q10 := QA10_ok s p c
    have q11 := QA11_ok s p c
    have q12 := QA12_ok p c
    have q13 := QA13_ok p c
    have q14 := Q14_ok p m c
    have q15 := Q15_ok p m c
    cases s with
    | true =>
      refine ⟨_, (l3At p a b m 0 (errI (okp p) false) (e04 p) (errI (okp p) true) 0 0 (errI (okp p) (okm m)) c R).mpr ?_⟩
      repeat' (first | with_reducible apply And.intro | with_reducible intro)
      all_goals first | exact q8 | exact q9 | exact q10 | exact q11 | exact q12 | exact q13 | exact q14 | exact q15 | exact C12_ok | exact hR | rfl | (simp; done)
    | false =>
      refine ⟨_, (l3Af p a b m 0 (errI (okp p) false) (e04 p) (errI (okp p) true) 0 0 (errI (okp p) (okm m)) c R).mpr ?_⟩
      repeat' (first | with_reducible apply And.intro | with_reducible intro)
      all_goals first | exact q8 | exact q9 | exact q10 | exact q11 | exact q12 | exact q13 | exact q14 | exact q15 | exact C12_ok | exact hR | rfl | (simp; done)
  exact key _ rfl
theorem zeroB (p a b m : Int) (s : Bool) (c d : Nat) : ∃ hs, vx.call 3 [hV p 0 c, slV 1 0 d, I a, I b, I m, .bool s] (retK fun r => r = .ret (.bool true)) mdd hs := by
  have key : ∀ R : ARes → Prop, R (.ret (.bool true)) → ∃ hs, vx.call 3 [hV p 0 c, slV 1 0 d, I a, I b, I m, .bool s] (retK R) mdd hs := by
    intro R hR
    have q8 := Q8_ok p a b c
    have q9 := Q9_ok p a b c
    have q10 := QB10_ok s p c d
    have q11 := QB11_ok s p c d
    have q12 := QB12_ok p c d
    have q13 := QB13_ok p c d
    have q14 := Q14_ok p m c
    have q15 := Q15_ok p m c
    cases s with
    | true =>
      refine ⟨_, (l3Bt p a b m 0 (errI (okp p) false) (e04 p) (errI (okp p) true) 0 0 (errI (okp p) (okm m)) c d R).mpr ?_⟩
      repeat' (first | with_reducible apply And.intro | with_reducible intro)
      all_goals first | exact q8 | exact q9 | exact q10 | exact q11 | exact q12 | exact q13 | exact q14 | exact q15 | exact C12_ok | exact hR | rfl | (simp; done)
    | false =>
      refine ⟨_, (l3Bf p a b m 0 (errI (okp p) false) (e04 p) (errI (okp p) true) 0 0 (errI (okp p) (okm m)) c d R).mpr ?_⟩
      repeat' (first | with_reducible apply And.intro | with_reducible intro)
      all_goals first | exact q8 | exact q9 | exact q10 | exact q11 | exact q12 | exact q13 | exact q14 | exact q15 | exact C12_ok | exact hR | rfl | (simp; done)
  exact key _ rfl
theorem zeroC (p a b m : Int) (s : Bool) (d : Nat) : ∃ hs, vx.call 3 [hN p, slV 1 0 d, I a, I b, I m, .bool s] (retK fun r => r = .ret (.bool true)) mdd hs := by
  have key : ∀ R : ARes → Prop, R (.ret (.bool true)) → ∃ hs, vx.call 3 [hN p, slV 1 0 d, I a, I b, I m, .bool s] (retK R) mdd hs := by
    intro R hR
    have q8 := N8_ok p a b
    have q9 := N9_ok p a b
    have q10 := QC10_ok s p d
    have q11 := QC11_ok s p d
    have q12 := QC12_ok p d
    have q13 := QC13_ok p d
    have q14 := N14_ok p m
    have q15 := N15_ok p m
    cases s with
    | true =>
      refine ⟨_, (l3Ct p a b m 0 (errI (okp p) false) (e04 p) (errI (okp p) true) 0 0 (errI (okp p) (okm m)) d R).mpr ?_⟩
      repeat' (first | with_reducible apply And.intro | with_reducible intro)
      all_goals first | exact q8 | exact q9 | exact q10 | exact q11 | exact q12 | exact q13 | exact q14 | exact q15 | exact C12_ok | exact hR | rfl | (simp; done)
    | false =>
      refine ⟨_, (l3Cf p a b m 0 (errI (okp p) false) (e04 p) (errI (okp p) true) 0 0 (errI (okp p) (okm m)) d R).mpr ?_⟩
      repeat' (first | with_reducible apply And.intro | with_reducible intro)
      all_goals first | exact q8 | exact q9 | exact q10 | exact q11 | exact q12 | exact q13 | exact q14 | exact q15 | exact C12_ok | exact hR | rfl | (simp; done)
  exact key _ rfl
end Go.Ab

/- a world in which slices that only are read lie: what a run that was reckoned gives there. -/
set_option maxRecDepth 100000
namespace Go.Ab
open Go Go.RowKit Go.Proofs
/-- Where a name's cells lie, and which they are. -/
abbrev RoB := Option (BInfo × List Value × TypeId)
def roX : RoB → XB
  | none => .dead
  | some (_, cs, e) => .cells cs e .ro
noncomputable def roM (x y : RoB) : Mem := ⟨fillX [roX x, roX y] 0 .nil, 2⟩
/-- What the world must hold. -/
def RoHolds (W : World) : RoB → Prop
  | none => True
  | some (f, cs, _) => ∃ c t fr, W.heap[f.blk]? = some (.cells c t fr) ∧ ∀ (j : Nat) v, cs[j]? = some v → atomic v = true ∧ c[f.off + j]? = some v
/-- The naming; where nothing lies any place will do. -/
def roN (x y : RoB) : NMap := fun i => if i = 0 then some ((x.map (·.1)).getD ⟨0, 0, 0⟩) else if i = 1 then some ((y.map (·.1)).getD ⟨0, 0, 0⟩) else none
theorem roM_H (x y : RoB) (i : Nat) : (roM x y).H i = if i = 0 then some (roX x).a else if i = 1 then some (roX y).a else none := by
  simp only [roM, Mem.H]
  rw [fillX_get _ (by simp)]
  match i with
  | 0 => rfl
  | 1 => rfl
  | n + 2 =>
    rw [if_neg (by simp only [List.length_cons, List.length_nil]; omega), if_neg (by omega), if_neg (by omega)]
    rfl
theorem rel_ro {W : World} {x y : RoB} (hx : RoHolds W x) (hy : RoHolds W y) : Rel Tryz.prog W.heap.size (roN x y) (roM x y).H W := by
  have one : ∀ (z : RoB) (f : BInfo), RoHolds W z → (z.map (·.1)).getD ⟨0, 0, 0⟩ = f → BlkRel Tryz.prog W.heap.size (roN x y) W (roX z).a f := by
    intro z f hz hf
    cases z with
    | none => trivial
    | some q =>
      obtain ⟨g, cs, e⟩ := q
      obtain ⟨c, t, fr, h1, h2⟩ := hz
      have hf : g = f := hf
      subst hf
      refine ⟨c, t, fr, h1, fun j v hj => ⟨v, (h2 j v hj).2, VRel.of_atomic (h2 j v hj).1⟩, fun hk => absurd rfl hk, fun _ => (Array.getElem?_eq_some_iff.1 h1).1, fun hk => (by cases hk)⟩
  have own : ∀ z : RoB, (roX z).a.own = false := fun z => by
    cases z with
    | none => rfl
    | some q => rfl
  refine ⟨?_, ?_, ⟨2, fun i hi => ⟨?_, ?_⟩⟩, Nat.le_refl _, fun g hg => ?_, fun _ i hi => ?_⟩
  · intro i b f hb hf
    rw [roM_H] at hb
    simp only [roN] at hf
    by_cases h0 : i = 0
    · rw [if_pos h0] at hb hf
      cases hb; cases hf
      exact one x _ hx rfl
    · rw [if_neg h0] at hb hf
      by_cases h1 : i = 1
      · rw [if_pos h1] at hb hf
        cases hb; cases hf
        exact one y _ hy rfl
      · rw [if_neg h1] at hb; cases hb
  · intro i j b c f g _ hb _ hob
    rw [roM_H] at hb
    by_cases h0 : i = 0
    · rw [if_pos h0] at hb; cases hb
      rw [own] at hob; cases hob
    · rw [if_neg h0] at hb
      by_cases h1 : i = 1
      · rw [if_pos h1] at hb; cases hb
        rw [own] at hob; cases hob
      · rw [if_neg h1] at hb; cases hb
  · simp only [roN]; rw [if_neg (by omega), if_neg (by omega)]
  · rw [roM_H, if_neg (by omega), if_neg (by omega)]
  · rw [nglob] at hg; omega
  · rw [roM_H] at hi
    simp only [roN]
    by_cases h0 : i = 0
    · rw [if_pos h0] at hi; cases hi
    · rw [if_neg h0] at hi ⊢
      by_cases h1 : i = 1
      · rw [if_pos h1] at hi; cases hi
      · rw [if_neg h1]
/-- A run that was reckoned, in such a world. -/
theorem calls_ro {W : World} {x y : RoB} (hx : RoHolds W x) (hy : RoHolds W y) {f : FuncId} {args args' : List Value} (ha : VsRel (roN x y) args args') {b : Bool} (h : ∃ hs, vx.call f args (retK fun r => r = .ret (.bool b)) (roM x y) hs) :
    Calls Tryz.prog f ⟨args'⟩ W fun e W' => e = .returned (.bool b) ∧ Below W.heap.size W W' := by
  obtain ⟨hs, h⟩ := h
  have h2 := (vx_sound.call h).2 W.heap.size (roN x y) W args' (rel_ro hx hy) ha 0
  refine callsIn_wide.1 (CallsIn.mono (h2 : CallsIn Fence.wide 0 Tryz.prog f ⟨args'⟩ W _) ?_)
  rintro e W' ⟨r, H', m', ⟨mm, hs', hk, _⟩, _, _, hb, hq⟩
  have hk : r = .ret (.bool b) := hk
  subst hk
  obtain ⟨v', rfl, hv⟩ := hq
  exact ⟨by rw [hv.eq_of_atomic rfl], hb⟩
end Go.Ab

/- what slices of numbers and of moves that a row hands in are, in a world; what the law's run gives for them. -/
set_option maxRecDepth 100000
namespace Go.Ab
open Go Go.RowKit Go.Proofs Go.ChangeShapes Go.WideShapes Go.Deep

theorem cells33 : Tryz.prog.cellsOf 61 = 4 := by kernel_rfl
theorem cells31 : Tryz.prog.cellsOf 37 = 2 := by kernel_rfl
theorem cells3 : Tryz.prog.cellsOf 3 = 1 := by kernel_rfl
theorem cells22 : Tryz.prog.cellsOf 22 = 1 := by kernel_rfl
theorem cells24 : Tryz.prog.cellsOf 24 = 2 := by kernel_rfl

/-- A cell that is read lies in a block of cells. -/
theorem cell_block {W : World} {a : Addr} {i : Nat} {v : Value} (h : W.cell? (a.add i) = some v) : ∃ c t fr, W.heap[a.block]? = some (.cells c t fr) ∧ c[a.off + i]? = some v ∧ (i = 0 → a.spot = none) := by
  unfold World.cell? Addr.add at h
  by_cases h0 : i = 0
  · subst h0
    rw [if_pos rfl] at h
    split at h
    · rename_i c t fr hc
      split at h
      · cases h
      · rename_i hs
        exact ⟨c, t, fr, hc, h, fun _ => by cases hsp : a.spot with
          | none => rfl
          | some x => rw [hsp] at hs; exact absurd rfl hs⟩
    · cases h
  · rw [if_neg h0] at h
    split at h
    · rename_i c t fr hc
      exact ⟨c, t, fr, hc, h, fun h1 => absurd h1 h0⟩
    · cases h

/-- Where a slice that is not nil lies, and that its cells are these. -/
def SlAt (W : World) (v : Value) (n : Nat) (cs : List Value) (e : TypeId) : Prop :=
  ∃ (b o cap : Nat), v = .slice (some ⟨b, o, none⟩) n cap ∧ n ≤ cap ∧ RoHolds W (some (⟨b, o, 0⟩, cs, e))

section
variable {H : Type} {enc : TypeId × Value → H} {W : World}
theorem int_in {fuel : Nat} {cs : List Value} {x : DataW H × List MemPlace} (h : DataW.trod enc Tryz.prog W 0 (fun _ => true) true fuel 3 cs = some x) : ∃ z : Int, cs = [I z] := by
  obtain ⟨z, h1, _, _⟩ := DataW.trod_int Tryz.underlying3 h
  exact ⟨z, h1⟩

/-- NUMBERS. -/
theorem plan_in {fuel : Nat} {v : Value} {x : DataW H × List MemPlace} (h : DataW.trod enc Tryz.prog W 0 (fun _ => true) true fuel 25 [v] = some x) :
    v = .slice none 0 0 ∨ (∃ a, v = .slice (some a) 0 0) ∨ ∃ (n : Nat) (f : Nat → Int), SlAt W v n (ints n f) 3 := by
  rcases open_slice1 Tryz.underlying25 cells3 h with ⟨h0, _⟩ | ⟨a, len, cap, m, n, V, D, Pl, hv, _, hl, _, hm, _, hx⟩
  · exact Or.inl (List.cons.inj h0).1
  right
  obtain rfl := (List.cons.inj hv).1
  have hm : m = cap := by simpa using hm
  subst hm
  rcases Nat.eq_zero_or_pos m with h0 | h0
  · subst h0
    obtain rfl : len = 0 := by omega
    exact Or.inl ⟨a, rfl⟩
  · right
    have each : ∀ i, i < m → ∃ z : Int, V i = I z := by
      intro i hi
      obtain ⟨z, h1⟩ := int_in (hx i hi).2
      exact ⟨z, (List.cons.inj h1).1⟩
    obtain ⟨f, hf⟩ := choose_lt (α := Int) each
    obtain ⟨c, t, fr, hc, _, hsp⟩ := cell_block (hx 0 h0).1
    have hsp := hsp rfl
    refine ⟨len, f, a.block, a.off, m, ?_, hl, c, t, fr, hc, ?_⟩
    · obtain ⟨b, o, s⟩ := a
      cases hsp
      rfl
    · intro j v hj
      have hjl : j < len := by
        have := (List.getElem?_eq_some_iff.1 hj).1
        have e := flatC_len (n := len) (k := 1) (g := fun i => [I (f i)]) (fun _ _ => rfl)
        unfold ints at this
        omega
      have e := flatC_get (n := len) (k := 1) (g := fun i => [I (f i)]) (fun _ _ => rfl) hjl (j := 0) (by omega)
      have hj : (flatC len fun i => [I (f i)])[j]? = some v := hj
      rw [show j * 1 + 0 = j by omega, hj] at e
      obtain rfl : v = I (f j) := Option.some.inj e
      refine ⟨rfl, ?_⟩
      obtain ⟨c', t', fr', hc', hv', _⟩ := cell_block (hx j (by omega)).1
      rw [hc] at hc'
      cases hc'
      rw [hv', hf j (by omega)]

theorem move_in {fuel : Nat} {cs : List Value} {x : DataW H × List MemPlace} (h : DataW.trod enc Tryz.prog W 0 (fun _ => true) true fuel 61 cs = some x) : ∃ m : Mv, cs = mvV m := by
  obtain ⟨y0, y1, y2, n, _, hl, h0, h1, h2⟩ := trod_struct3 Tryz.underlying61 h
  rw [cells33] at hl
  match cs, hl with
  | [w0, w1, w2, w3], _ =>
    obtain ⟨a, ha⟩ := int_in h0
    obtain ⟨b, hb⟩ := int_in h1
    obtain ⟨z0, z1, k, _, _, k0, k1⟩ := trod_struct2 Tryz.underlying37 h2
    obtain ⟨c, hc⟩ := int_in k0
    obtain ⟨d, hd⟩ := int_in k1
    have ha : [w0] = [I a] := ha
    have hb : [w1] = [I b] := hb
    have hc : [w2] = [I c] := hc
    have hd : [w3] = [I d] := hd
    cases ha; cases hb; cases hc; cases hd
    exact ⟨⟨a, b, c, d⟩, rfl⟩

/-- MOVES. -/
theorem moves_in {fuel : Nat} {v : Value} {x : DataW H × List MemPlace} (h : DataW.trod enc Tryz.prog W 0 (fun _ => true) true fuel 22 [v] = some x) :
    v = .slice none 0 0 ∨ (∃ a, v = .slice (some a) 0 0) ∨ ∃ (n : Nat) (f : Nat → Mv), SlAt W v n (mvs n f) 1 := by
  rcases open_slice Tryz.underlying22 h with ⟨h0, _⟩ | ⟨a, len, cap, m, n, D, Pl, hv, _, hl, _, hm, _, hx⟩
  · exact Or.inl (List.cons.inj h0).1
  right
  obtain rfl := (List.cons.inj hv).1
  have hm : m = cap := by simpa using hm
  subst hm
  rw [cells33] at hx
  rcases Nat.eq_zero_or_pos m with h0 | h0
  · subst h0
    obtain rfl : len = 0 := by omega
    exact Or.inl ⟨a, rfl⟩
  · right
    have each : ∀ i, i < m → ∃ z : Mv, ∀ j, j < 4 → W.cell? ((a.add (i * 4)).add j) = (mvV z)[j]? := by
      intro i hi
      obtain ⟨cs', h1, h2⟩ := hx i hi
      obtain ⟨z, rfl⟩ := move_in h2
      exact ⟨z, (World.cells?_some h1).2.2⟩
    haveI : Inhabited Mv := ⟨⟨0, 0, 0, 0⟩⟩
    obtain ⟨f, hf⟩ := choose_lt (α := Mv) each
    have cellOf : ∀ i j, i < m → j < 4 → W.cell? (a.add (i * 4 + j)) = (mvV (f i))[j]? := fun i j hi hj => by rw [← add_add]; exact hf i hi j hj
    obtain ⟨c, t, fr, hc, _, hsp⟩ := cell_block (show W.cell? (a.add 0) = some (I (f 0).at_) from cellOf 0 0 h0 (by omega))
    have hsp := hsp rfl
    refine ⟨len, f, a.block, a.off, m, ?_, hl, c, t, fr, hc, ?_⟩
    · obtain ⟨b, o, s⟩ := a
      cases hsp
      rfl
    · intro j v hj
      have hlen := flatC_len (n := len) (k := 4) (g := fun i => mvV (f i)) (fun _ _ => rfl)
      have hj : (flatC len fun i => mvV (f i))[j]? = some v := hj
      have hjl : j < len * 4 := by
        have := (List.getElem?_eq_some_iff.1 hj).1
        omega
      have hi : j / 4 < len := by omega
      have hr : j % 4 < 4 := by omega
      have e := flatC_get (n := len) (k := 4) (g := fun i => mvV (f i)) (fun _ _ => rfl) hi hr
      rw [show j / 4 * 4 + j % 4 = j by omega, hj] at e
      have e2 := cellOf (j / 4) (j % 4) (by omega) hr
      rw [show j / 4 * 4 + j % 4 = j by omega, ← e] at e2
      refine ⟨flatC_atomic (n := len) (g := fun i => mvV (f i)) (fun i _ w hw => ?_) v (List.mem_of_getElem? hj), ?_⟩
      · have hw : w ∈ [I (f i).at_, I (f i).place, I (f i).lo, I (f i).hi] := hw
        simp only [List.mem_cons, List.not_mem_nil, or_false] at hw
        rcases hw with rfl | rfl | rfl | rfl <;> rfl
      · obtain ⟨c', t', fr', hc', hv', _⟩ := cell_block e2
        rw [hc] at hc'
        cases hc'
        exact hv'

/-- WHAT A HORSES IS. -/
theorem horses_in {fuel : Nat} {cs : List Value} {x : DataW H × List MemPlace} (h : DataW.trod enc Tryz.prog W 0 (fun _ => true) true fuel 24 cs = some x) :
    ∃ (p : Int) (v : Value), cs = [I p, v] ∧ (v = .slice none 0 0 ∨ (∃ a, v = .slice (some a) 0 0) ∨ ∃ (n : Nat) (f : Nat → Mv), SlAt W v n (mvs n f) 1) := by
  obtain ⟨y0, y1, n, _, hl, h0, h1⟩ := trod_struct2 Tryz.underlying24 h
  rw [cells24] at hl
  match cs, hl with
  | [w0, w1], _ =>
    obtain ⟨p, hp⟩ := int_in h0
    have hp : [w0] = [I p] := hp
    cases hp
    exact ⟨p, w1, rfl, moves_in (show DataW.trod enc Tryz.prog W 0 (fun _ => true) true n 22 [w1] = some y1 from h1)⟩
end

end Go.Ab

/- the law HorseReads, for all that a row hands in. -/
set_option maxRecDepth 100000
namespace Go.Ab
open Go Go.RowKit Go.Proofs
section
variable {W : World} {x y : RoB}
theorem ro_none : VRel (roN x y) nilS (.slice none 0 0) := .atom rfl .nil
theorem ro_zero {i : Nat} {a : Addr} {f : BInfo} (h : roN x y i = some f) (he : f.extra = 0) : VRel (roN x y) (.slice (some ⟨i, 0, none⟩) 0 0) (.slice (some a) 0 0) := by
  have := VsRel.slice (m := roN x y) (i := i) (o := 0) (n := 0) (c := 0) (f := f) (a := a) (l := []) (l' := []) h (Nat.le_refl _) (fun hp => by omega) .nil
  rw [he] at this
  exact this
theorem ro_at {i b o n c : Nat} (h : roN x y i = some ⟨b, o, 0⟩) (hn : n ≤ c) : VRel (roN x y) (.slice (some ⟨i, 0, none⟩) n c) (.slice (some ⟨b, o, none⟩) n c) :=
  VsRel.slice (m := roN x y) (i := i) (o := 0) (n := n) (c := c) (f := ⟨b, o, 0⟩) (a := ⟨b, o, none⟩) (l := []) (l' := []) h hn (fun _ => rfl) .nil
theorem vs6 {p a b m : Int} {s : Bool} {v v' w w' : Value} (hv : VRel (roN x y) v v') (hw : VRel (roN x y) w w') :
    VsRel (roN x y) [.agg ⟨[I p, v]⟩, w, I a, I b, I m, .bool s] [.agg ⟨[I p, v']⟩, w', I a, I b, I m, .bool s] :=
  .agg (.atom rfl hv) (VsRel.cons hw (.atom rfl (.atom rfl (.atom rfl (.atom rfl .nil)))))
/-- THE RUN OF THE LAW, FOR ALL THAT A ROW HANDS IN. -/
theorem run3 {p a b m : Int} {s : Bool} {v w : Value}
    (hv : v = .slice none 0 0 ∨ (∃ a, v = .slice (some a) 0 0) ∨ ∃ (n : Nat) (f : Nat → Mv), SlAt W v n (mvs n f) 1)
    (hw : w = .slice none 0 0 ∨ (∃ a, w = .slice (some a) 0 0) ∨ ∃ (n : Nat) (g : Nat → Int), SlAt W w n (ints n g) 3) :
    Calls Tryz.prog 3 #[.agg #[I p, v], w, I a, I b, I m, .bool s] W fun e W' => e = .returned (.bool true) ∧ Below W.heap.size W W' := by
  rcases hv with rfl | ⟨av, rfl⟩ | ⟨n, f, bo, o, c, rfl, hn, hx⟩
  · rcases hw with rfl | ⟨aw, rfl⟩ | ⟨k, g, bo2, o2, d, rfl, hk, hy⟩
    · exact calls_ro (x := none) (y := none) trivial trivial (vs6 ro_none ro_none) (l3_nothing p a b m s)
    · exact calls_ro (x := none) (y := none) trivial trivial (vs6 ro_none (ro_zero (i := 1) rfl rfl)) (zeroC p a b m s 0)
    · exact calls_ro (x := none) (y := some (⟨bo2, o2, 0⟩, ints k g, 3)) trivial hy (vs6 ro_none (ro_at (i := 1) rfl hk)) (any_nomoves p a b m s k d g)
  · rcases hw with rfl | ⟨aw, rfl⟩ | ⟨k, g, bo2, o2, d, rfl, hk, hy⟩
    · exact calls_ro (x := none) (y := none) trivial trivial (vs6 (ro_zero (i := 0) rfl rfl) ro_none) (zeroA p a b m s 0)
    · exact calls_ro (x := none) (y := none) trivial trivial (vs6 (ro_zero (i := 0) rfl rfl) (ro_zero (i := 1) rfl rfl)) (zeroB p a b m s 0 0)
    · have h0 : RoHolds W (some (⟨bo2, o2, 0⟩, mvs 0 fun _ => ⟨0, 0, 0, 0⟩, 1)) := by
        obtain ⟨c, t, fr, h1, _⟩ := hy
        exact ⟨c, t, fr, h1, fun j v hj => by cases hj⟩
      exact calls_ro (x := some (⟨bo2, o2, 0⟩, mvs 0 fun _ => ⟨0, 0, 0, 0⟩, 1)) (y := some (⟨bo2, o2, 0⟩, ints k g, 3)) h0 hy (vs6 (ro_zero (i := 0) rfl rfl) (ro_at (i := 1) rfl hk)) (any_slices p a b m s 0 0 k d _ g)
  · rcases hw with rfl | ⟨aw, rfl⟩ | ⟨k, g, bo2, o2, d, rfl, hk, hy⟩
    · exact calls_ro (x := some (⟨bo, o, 0⟩, mvs n f, 1)) (y := none) hx trivial (vs6 (ro_at (i := 0) rfl hn) ro_none) (any_noplan p a b m s n c f)
    · have h0 : RoHolds W (some (⟨bo, o, 0⟩, ints 0 fun _ => 0, 3)) := by
        obtain ⟨c, t, fr, h1, _⟩ := hx
        exact ⟨c, t, fr, h1, fun j v hj => by cases hj⟩
      exact calls_ro (x := some (⟨bo, o, 0⟩, mvs n f, 1)) (y := some (⟨bo, o, 0⟩, ints 0 fun _ => 0, 3)) hx h0 (vs6 (ro_at (i := 0) rfl hn) (ro_zero (i := 1) rfl rfl)) (any_slices p a b m s n c 0 0 f _)
    · exact calls_ro (x := some (⟨bo, o, 0⟩, mvs n f, 1)) (y := some (⟨bo2, o2, 0⟩, ints k g, 3)) hx hy (vs6 (ro_at (i := 0) rfl hn) (ro_at (i := 1) rfl hk)) (any_slices p a b m s n c k d f g)
end
end Go.Ab

