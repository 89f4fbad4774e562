/- the law HorseCheck: slices of capacity 0. -/
import Derived.Test.YthfhcnbpgagkdaaMX
set_option maxRecDepth 100000
namespace Go.Ab
open Go Go.RowKit Go.Proofs
theorem e1t (p : Int) (k d : Nat) (bs : List Value) (R : ARes → Prop)  : (vx.call 6 [hV p 0 0, .bool true, slV 1 k d] (retK R) (m2z bs) ([(31, .split ([(3, .split ([(72, .split ([(3, .split ((61, Hint.again) :: (28, Hint.again) :: (72, Hint.con C12) :: []) ([]))]) ([]))]) ((11, Hint.con C12) :: []))]) ((12, Hint.con C12) :: []))])) =
((((decide ((0 : Int) ≤ p)) = true → (((decide (p ≤ (3 : Int))) = true → (((decide ((0 : Int) ≤ p)) = true → (((decide (p ≤ (3 : Int))) = true → ((((((2 : Nat) ≤ (2 : Nat))) ∧ (((.agg ⟨[(.int IntKind.i64 (p)), (.slice (.some ⟨((0 : Nat)), ((0 : Nat)), .none⟩) ((0 : Nat)) ((0 : Nat)))]⟩) : Value) = (.agg ⟨[(.int IntKind.i64 (p)), (.slice (.some ⟨((0 : Nat)), ((0 : Nat)), .none⟩) ((0 : Nat)) ((0 : Nat)))]⟩))) ∧ ((((some (.slice .none ((0 : Nat)) ((0 : Nat))) : Option Value) = some (.slice .none ((0 : Nat)) ((0 : Nat))))) ∧ (((((2 : Nat) ≤ (2 : Nat))) ∧ (((.agg ⟨[(.int IntKind.i64 (p)), (.slice (.some ⟨((0 : Nat)), ((0 : Nat)), .none⟩) ((0 : Nat)) ((0 : Nat)))]⟩) : Value) = (.agg ⟨[(.int IntKind.i64 (p)), (.slice (.some ⟨((0 : Nat)), ((0 : Nat)), .none⟩) ((0 : Nat)) ((0 : Nat)))]⟩))) ∧ (True)))) ∧ 
(((((some (.slice .none ((0 : Nat)) ((0 : Nat))) : Option Value) = some (.slice .none ((0 : Nat)) ((0 : Nat))))) ∧ (((((2 : Nat) ≤ (2 : Nat))) ∧ (((.agg ⟨[(.int IntKind.i64 (p)), (.slice (.some ⟨((0 : Nat)), ((0 : Nat)), .none⟩) ((0 : Nat)) ((0 : Nat)))]⟩) : Value) = (.agg ⟨[(.int IntKind.i64 (p)), (.slice (.some ⟨((0 : Nat)), ((0 : Nat)), .none⟩) ((0 : Nat)) ((0 : Nat)))]⟩))) ∧ (True))) ∧ 
((ConOK Try.prog ((12 : Nat)) (C12)) ∧ (Con.pre (C12) ⟨⟨[], []⟩, []⟩) ∧ 
R (.ret (.bool true)))))) ∧
((decide (p ≤ (3 : Int))) = false → R (.ret (.bool false))))) ∧
((decide ((0 : Int) ≤ p)) = false → R (.ret (.bool false))))) ∧
((decide (p ≤ (3 : Int))) = false → ((ConOK Try.prog ((12 : Nat)) (C12)) ∧ (Con.pre (C12) ⟨⟨[], []⟩, []⟩) ∧ 
R (.ret (.bool true)))))) ∧
((decide ((0 : Int) ≤ p)) = false → ((ConOK Try.prog ((12 : Nat)) (C12)) ∧ (Con.pre (C12) ⟨⟨[], []⟩, []⟩) ∧ 
R (.ret (.bool true)))))) := by kernel_rfl

theorem e1f (p : Int) (k d : Nat) (bs : List Value) (R : ARes → Prop)  : (vx.call 6 [hV p 0 0, .bool false, slV 1 k d] (retK R) (m2z bs) ([(31, .split ([(3, .split ([(72, .split ([(3, .split ((61, Hint.again) :: (28, Hint.again) :: (71, Hint.con C12) :: []) ([]))]) ([]))]) ((11, Hint.con C12) :: []))]) ((12, Hint.con C12) :: []))])) =
((((decide ((0 : Int) ≤ p)) = true → (((decide (p ≤ (3 : Int))) = true → (((decide ((0 : Int) ≤ p)) = true → (((decide (p ≤ (3 : Int))) = true → ((((((2 : Nat) ≤ (2 : Nat))) ∧ (((.agg ⟨[(.int IntKind.i64 (p)), (.slice (.some ⟨((0 : Nat)), ((0 : Nat)), .none⟩) ((0 : Nat)) ((0 : Nat)))]⟩) : Value) = (.agg ⟨[(.int IntKind.i64 (p)), (.slice (.some ⟨((0 : Nat)), ((0 : Nat)), .none⟩) ((0 : Nat)) ((0 : Nat)))]⟩))) ∧ ((((some (.slice .none ((0 : Nat)) ((0 : Nat))) : Option Value) = some (.slice .none ((0 : Nat)) ((0 : Nat))))) ∧ (((((2 : Nat) ≤ (2 : Nat))) ∧ (((.agg ⟨[(.int IntKind.i64 (p)), (.slice (.some ⟨((0 : Nat)), ((0 : Nat)), .none⟩) ((0 : Nat)) ((0 : Nat)))]⟩) : Value) = (.agg ⟨[(.int IntKind.i64 (p)), (.slice (.some ⟨((0 : Nat)), ((0 : Nat)), .none⟩) ((0 : Nat)) ((0 : Nat)))]⟩))) ∧ (True)))) ∧ 
(((((some (.slice .none ((0 : Nat)) ((0 : Nat))) : Option Value) = some (.slice .none ((0 : Nat)) ((0 : Nat))))) ∧ (((((2 : Nat) ≤ (2 : Nat))) ∧ (((.agg ⟨[(.int IntKind.i64 (p)), (.slice (.some ⟨((0 : Nat)), ((0 : Nat)), .none⟩) ((0 : Nat)) ((0 : Nat)))]⟩) : Value) = (.agg ⟨[(.int IntKind.i64 (p)), (.slice (.some ⟨((0 : Nat)), ((0 : Nat)), .none⟩) ((0 : Nat)) ((0 : Nat)))]⟩))) ∧ (True))) ∧ 
((ConOK Try.prog ((12 : Nat)) (C12)) ∧ (Con.pre (C12) ⟨⟨[], []⟩, []⟩) ∧ 
R (.ret (.bool true)))))) ∧
((decide (p ≤ (3 : Int))) = false → R (.ret (.bool false))))) ∧
((decide ((0 : Int) ≤ p)) = false → R (.ret (.bool false))))) ∧
((decide (p ≤ (3 : Int))) = false → ((ConOK Try.prog ((12 : Nat)) (C12)) ∧ (Con.pre (C12) ⟨⟨[], []⟩, []⟩) ∧ 
R (.ret (.bool true)))))) ∧
((decide ((0 : Int) ≤ p)) = false → ((ConOK Try.prog ((12 : Nat)) (C12)) ∧ (Con.pre (C12) ⟨⟨[], []⟩, []⟩) ∧ 
R (.ret (.bool true)))))) := by kernel_rfl

theorem e2t (p : Int) (R : ARes → Prop)  : (vx.call 6 [hV p 0 0, .bool true, nilS] (retK R) m2d ([(31, .split ([(3, .split ([(72, .split ([(3, .split ((61, Hint.again) :: (28, Hint.again) :: (72, Hint.con C12) :: []) ([]))]) ([]))]) ((11, Hint.con C12) :: []))]) ((12, Hint.con C12) :: []))])) =
((((decide ((0 : Int) ≤ p)) = true → (((decide (p ≤ (3 : Int))) = true → (((decide ((0 : Int) ≤ p)) = true → (((decide (p ≤ (3 : Int))) = true → ((((((2 : Nat) ≤ (2 : Nat))) ∧ (((.agg ⟨[(.int IntKind.i64 (p)), (.slice (.some ⟨((0 : Nat)), ((0 : Nat)), .none⟩) ((0 : Nat)) ((0 : Nat)))]⟩) : Value) = (.agg ⟨[(.int IntKind.i64 (p)), (.slice (.some ⟨((0 : Nat)), ((0 : Nat)), .none⟩) ((0 : Nat)) ((0 : Nat)))]⟩))) ∧ ((((some (.slice .none ((0 : Nat)) ((0 : Nat))) : Option Value) = some (.slice .none ((0 : Nat)) ((0 : Nat))))) ∧ (((((2 : Nat) ≤ (2 : Nat))) ∧ (((.agg ⟨[(.int IntKind.i64 (p)), (.slice (.some ⟨((0 : Nat)), ((0 : Nat)), .none⟩) ((0 : Nat)) ((0 : Nat)))]⟩) : Value) = (.agg ⟨[(.int IntKind.i64 (p)), (.slice (.some ⟨((0 : Nat)), ((0 : Nat)), .none⟩) ((0 : Nat)) ((0 : Nat)))]⟩))) ∧ (True)))) ∧ 
(((((some (.slice .none ((0 : Nat)) ((0 : Nat))) : Option Value) = some (.slice .none ((0 : Nat)) ((0 : Nat))))) ∧ (((((2 : Nat) ≤ (2 : Nat))) ∧ (((.agg ⟨[(.int IntKind.i64 (p)), (.slice (.some ⟨((0 : Nat)), ((0 : Nat)), .none⟩) ((0 : Nat)) ((0 : Nat)))]⟩) : Value) = (.agg ⟨[(.int IntKind.i64 (p)), (.slice (.some ⟨((0 : Nat)), ((0 : Nat)), .none⟩) ((0 : Nat)) ((0 : Nat)))]⟩))) ∧ (True))) ∧ 
((ConOK Try.prog ((12 : Nat)) (C12)) ∧ (Con.pre (C12) ⟨⟨[], []⟩, []⟩) ∧ 
R (.ret (.bool true)))))) ∧
((decide (p ≤ (3 : Int))) = false → R (.ret (.bool false))))) ∧
((decide ((0 : Int) ≤ p)) = false → R (.ret (.bool false))))) ∧
((decide (p ≤ (3 : Int))) = false → ((ConOK Try.prog ((12 : Nat)) (C12)) ∧ (Con.pre (C12) ⟨⟨[], []⟩, []⟩) ∧ 
R (.ret (.bool true)))))) ∧
((decide ((0 : Int) ≤ p)) = false → ((ConOK Try.prog ((12 : Nat)) (C12)) ∧ (Con.pre (C12) ⟨⟨[], []⟩, []⟩) ∧ 
R (.ret (.bool true)))))) := by kernel_rfl

theorem e2f (p : Int) (R : ARes → Prop)  : (vx.call 6 [hV p 0 0, .bool false, nilS] (retK R) m2d ([(31, .split ([(3, .split ([(72, .split ([(3, .split ((61, Hint.again) :: (28, Hint.again) :: (71, Hint.con C12) :: []) ([]))]) ([]))]) ((11, Hint.con C12) :: []))]) ((12, Hint.con C12) :: []))])) =
((((decide ((0 : Int) ≤ p)) = true → (((decide (p ≤ (3 : Int))) = true → (((decide ((0 : Int) ≤ p)) = true → (((decide (p ≤ (3 : Int))) = true → ((((((2 : Nat) ≤ (2 : Nat))) ∧ (((.agg ⟨[(.int IntKind.i64 (p)), (.slice (.some ⟨((0 : Nat)), ((0 : Nat)), .none⟩) ((0 : Nat)) ((0 : Nat)))]⟩) : Value) = (.agg ⟨[(.int IntKind.i64 (p)), (.slice (.some ⟨((0 : Nat)), ((0 : Nat)), .none⟩) ((0 : Nat)) ((0 : Nat)))]⟩))) ∧ ((((some (.slice .none ((0 : Nat)) ((0 : Nat))) : Option Value) = some (.slice .none ((0 : Nat)) ((0 : Nat))))) ∧ (((((2 : Nat) ≤ (2 : Nat))) ∧ (((.agg ⟨[(.int IntKind.i64 (p)), (.slice (.some ⟨((0 : Nat)), ((0 : Nat)), .none⟩) ((0 : Nat)) ((0 : Nat)))]⟩) : Value) = (.agg ⟨[(.int IntKind.i64 (p)), (.slice (.some ⟨((0 : Nat)), ((0 : Nat)), .none⟩) ((0 : Nat)) ((0 : Nat)))]⟩))) ∧ (True)))) ∧ 
(((((some (.slice .none ((0 : Nat)) ((0 : Nat))) : Option Value) = some (.slice .none ((0 : Nat)) ((0 : Nat))))) ∧ (((((2 : Nat) ≤ (2 : Nat))) ∧ (((.agg ⟨[(.int IntKind.i64 (p)), (.slice (.some ⟨((0 : Nat)), ((0 : Nat)), .none⟩) ((0 : Nat)) ((0 : Nat)))]⟩) : Value) = (.agg ⟨[(.int IntKind.i64 (p)), (.slice (.some ⟨((0 : Nat)), ((0 : Nat)), .none⟩) ((0 : Nat)) ((0 : Nat)))]⟩))) ∧ (True))) ∧ 
((ConOK Try.prog ((12 : Nat)) (C12)) ∧ (Con.pre (C12) ⟨⟨[], []⟩, []⟩) ∧ 
R (.ret (.bool true)))))) ∧
((decide (p ≤ (3 : Int))) = false → R (.ret (.bool false))))) ∧
((decide ((0 : Int) ≤ p)) = false → R (.ret (.bool false))))) ∧
((decide (p ≤ (3 : Int))) = false → ((ConOK Try.prog ((12 : Nat)) (C12)) ∧ (Con.pre (C12) ⟨⟨[], []⟩, []⟩) ∧ 
R (.ret (.bool true)))))) ∧
((decide ((0 : Int) ≤ p)) = false → ((ConOK Try.prog ((12 : Nat)) (C12)) ∧ (Con.pre (C12) ⟨⟨[], []⟩, []⟩) ∧ 
R (.ret (.bool true)))))) := by kernel_rfl

theorem e3t (p : Int) (R : ARes → Prop)  : (vx.call 6 [hV p 0 0, .bool true, slV 1 0 0] (retK R) m2d ([(31, .split ([(3, .split ([(72, .split ([(3, .split ((61, Hint.again) :: (28, Hint.again) :: (72, Hint.con C12) :: []) ([]))]) ([]))]) ((11, Hint.con C12) :: []))]) ((12, Hint.con C12) :: []))])) =
((((decide ((0 : Int) ≤ p)) = true → (((decide (p ≤ (3 : Int))) = true → (((decide ((0 : Int) ≤ p)) = true → (((decide (p ≤ (3 : Int))) = true → ((((((2 : Nat) ≤ (2 : Nat))) ∧ (((.agg ⟨[(.int IntKind.i64 (p)), (.slice (.some ⟨((0 : Nat)), ((0 : Nat)), .none⟩) ((0 : Nat)) ((0 : Nat)))]⟩) : Value) = (.agg ⟨[(.int IntKind.i64 (p)), (.slice (.some ⟨((0 : Nat)), ((0 : Nat)), .none⟩) ((0 : Nat)) ((0 : Nat)))]⟩))) ∧ ((((some (.slice .none ((0 : Nat)) ((0 : Nat))) : Option Value) = some (.slice .none ((0 : Nat)) ((0 : Nat))))) ∧ (((((2 : Nat) ≤ (2 : Nat))) ∧ (((.agg ⟨[(.int IntKind.i64 (p)), (.slice (.some ⟨((0 : Nat)), ((0 : Nat)), .none⟩) ((0 : Nat)) ((0 : Nat)))]⟩) : Value) = (.agg ⟨[(.int IntKind.i64 (p)), (.slice (.some ⟨((0 : Nat)), ((0 : Nat)), .none⟩) ((0 : Nat)) ((0 : Nat)))]⟩))) ∧ (True)))) ∧ 
(((((some (.slice .none ((0 : Nat)) ((0 : Nat))) : Option Value) = some (.slice .none ((0 : Nat)) ((0 : Nat))))) ∧ (((((2 : Nat) ≤ (2 : Nat))) ∧ (((.agg ⟨[(.int IntKind.i64 (p)), (.slice (.some ⟨((0 : Nat)), ((0 : Nat)), .none⟩) ((0 : Nat)) ((0 : Nat)))]⟩) : Value) = (.agg ⟨[(.int IntKind.i64 (p)), (.slice (.some ⟨((0 : Nat)), ((0 : Nat)), .none⟩) ((0 : Nat)) ((0 : Nat)))]⟩))) ∧ (True))) ∧ 
((ConOK Try.prog ((12 : Nat)) (C12)) ∧ (Con.pre (C12) ⟨⟨[], []⟩, []⟩) ∧ 
R (.ret (.bool true)))))) ∧
((decide (p ≤ (3 : Int))) = false → R (.ret (.bool false))))) ∧
((decide ((0 : Int) ≤ p)) = false → R (.ret (.bool false))))) ∧
((decide (p ≤ (3 : Int))) = false → ((ConOK Try.prog ((12 : Nat)) (C12)) ∧ (Con.pre (C12) ⟨⟨[], []⟩, []⟩) ∧ 
R (.ret (.bool true)))))) ∧
((decide ((0 : Int) ≤ p)) = false → ((ConOK Try.prog ((12 : Nat)) (C12)) ∧ (Con.pre (C12) ⟨⟨[], []⟩, []⟩) ∧ 
R (.ret (.bool true)))))) := by kernel_rfl

theorem e3f (p : Int) (R : ARes → Prop)  : (vx.call 6 [hV p 0 0, .bool false, slV 1 0 0] (retK R) m2d ([(31, .split ([(3, .split ([(72, .split ([(3, .split ((61, Hint.again) :: (28, Hint.again) :: (71, Hint.con C12) :: []) ([]))]) ([]))]) ((11, Hint.con C12) :: []))]) ((12, Hint.con C12) :: []))])) =
((((decide ((0 : Int) ≤ p)) = true → (((decide (p ≤ (3 : Int))) = true → (((decide ((0 : Int) ≤ p)) = true → (((decide (p ≤ (3 : Int))) = true → ((((((2 : Nat) ≤ (2 : Nat))) ∧ (((.agg ⟨[(.int IntKind.i64 (p)), (.slice (.some ⟨((0 : Nat)), ((0 : Nat)), .none⟩) ((0 : Nat)) ((0 : Nat)))]⟩) : Value) = (.agg ⟨[(.int IntKind.i64 (p)), (.slice (.some ⟨((0 : Nat)), ((0 : Nat)), .none⟩) ((0 : Nat)) ((0 : Nat)))]⟩))) ∧ ((((some (.slice .none ((0 : Nat)) ((0 : Nat))) : Option Value) = some (.slice .none ((0 : Nat)) ((0 : Nat))))) ∧ (((((2 : Nat) ≤ (2 : Nat))) ∧ (((.agg ⟨[(.int IntKind.i64 (p)), (.slice (.some ⟨((0 : Nat)), ((0 : Nat)), .none⟩) ((0 : Nat)) ((0 : Nat)))]⟩) : Value) = (.agg ⟨[(.int IntKind.i64 (p)), (.slice (.some ⟨((0 : Nat)), ((0 : Nat)), .none⟩) ((0 : Nat)) ((0 : Nat)))]⟩))) ∧ (True)))) ∧ 
(((((some (.slice .none ((0 : Nat)) ((0 : Nat))) : Option Value) = some (.slice .none ((0 : Nat)) ((0 : Nat))))) ∧ (((((2 : Nat) ≤ (2 : Nat))) ∧ (((.agg ⟨[(.int IntKind.i64 (p)), (.slice (.some ⟨((0 : Nat)), ((0 : Nat)), .none⟩) ((0 : Nat)) ((0 : Nat)))]⟩) : Value) = (.agg ⟨[(.int IntKind.i64 (p)), (.slice (.some ⟨((0 : Nat)), ((0 : Nat)), .none⟩) ((0 : Nat)) ((0 : Nat)))]⟩))) ∧ (True))) ∧ 
((ConOK Try.prog ((12 : Nat)) (C12)) ∧ (Con.pre (C12) ⟨⟨[], []⟩, []⟩) ∧ 
R (.ret (.bool true)))))) ∧
((decide (p ≤ (3 : Int))) = false → R (.ret (.bool false))))) ∧
((decide ((0 : Int) ≤ p)) = false → R (.ret (.bool false))))) ∧
((decide (p ≤ (3 : Int))) = false → ((ConOK Try.prog ((12 : Nat)) (C12)) ∧ (Con.pre (C12) ⟨⟨[], []⟩, []⟩) ∧ 
R (.ret (.bool true)))))) ∧
((decide ((0 : Int) ≤ p)) = false → ((ConOK Try.prog ((12 : Nat)) (C12)) ∧ (Con.pre (C12) ⟨⟨[], []⟩, []⟩) ∧ 
R (.ret (.bool true)))))) := by kernel_rfl

theorem e4t (p : Int) (R : ARes → Prop)  : (vx.call 6 [hN p, .bool true, slV 1 0 0] (retK R) m2d ([(31, .split ([(3, .split ([(72, .split ([(3, .split ((61, Hint.again) :: (28, Hint.again) :: (72, Hint.con C12) :: []) ([]))]) ([]))]) ((11, Hint.con C12) :: []))]) ((12, Hint.con C12) :: []))])) =
((((decide ((0 : Int) ≤ p)) = true → (((decide (p ≤ (3 : Int))) = true → (((decide ((0 : Int) ≤ p)) = true → (((decide (p ≤ (3 : Int))) = true → ((((((2 : Nat) ≤ (2 : Nat))) ∧ (((.agg ⟨[(.int IntKind.i64 (p)), (.slice .none ((0 : Nat)) ((0 : Nat)))]⟩) : Value) = (.agg ⟨[(.int IntKind.i64 (p)), (.slice .none ((0 : Nat)) ((0 : Nat)))]⟩))) ∧ ((((some (.slice .none ((0 : Nat)) ((0 : Nat))) : Option Value) = some (.slice .none ((0 : Nat)) ((0 : Nat))))) ∧ (((((2 : Nat) ≤ (2 : Nat))) ∧ (((.agg ⟨[(.int IntKind.i64 (p)), (.slice .none ((0 : Nat)) ((0 : Nat)))]⟩) : Value) = (.agg ⟨[(.int IntKind.i64 (p)), (.slice .none ((0 : Nat)) ((0 : Nat)))]⟩))) ∧ (True)))) ∧ 
(((((some (.slice .none ((0 : Nat)) ((0 : Nat))) : Option Value) = some (.slice .none ((0 : Nat)) ((0 : Nat))))) ∧ (((((2 : Nat) ≤ (2 : Nat))) ∧ (((.agg ⟨[(.int IntKind.i64 (p)), (.slice .none ((0 : Nat)) ((0 : Nat)))]⟩) : Value) = (.agg ⟨[(.int IntKind.i64 (p)), (.slice .none ((0 : Nat)) ((0 : Nat)))]⟩))) ∧ (True))) ∧ 
((ConOK Try.prog ((12 : Nat)) (C12)) ∧ (Con.pre (C12) ⟨⟨[], []⟩, []⟩) ∧ 
R (.ret (.bool true)))))) ∧
((decide (p ≤ (3 : Int))) = false → R (.ret (.bool false))))) ∧
((decide ((0 : Int) ≤ p)) = false → R (.ret (.bool false))))) ∧
((decide (p ≤ (3 : Int))) = false → ((ConOK Try.prog ((12 : Nat)) (C12)) ∧ (Con.pre (C12) ⟨⟨[], []⟩, []⟩) ∧ 
R (.ret (.bool true)))))) ∧
((decide ((0 : Int) ≤ p)) = false → ((ConOK Try.prog ((12 : Nat)) (C12)) ∧ (Con.pre (C12) ⟨⟨[], []⟩, []⟩) ∧ 
R (.ret (.bool true)))))) := by kernel_rfl

theorem e4f (p : Int) (R : ARes → Prop)  : (vx.call 6 [hN p, .bool false, slV 1 0 0] (retK R) m2d ([(31, .split ([(3, .split ([(72, .split ([(3, .split ((61, Hint.again) :: (28, Hint.again) :: (71, Hint.con C12) :: []) ([]))]) ([]))]) ((11, Hint.con C12) :: []))]) ((12, Hint.con C12) :: []))])) =
((((decide ((0 : Int) ≤ p)) = true → (((decide (p ≤ (3 : Int))) = true → (((decide ((0 : Int) ≤ p)) = true → (((decide (p ≤ (3 : Int))) = true → ((((((2 : Nat) ≤ (2 : Nat))) ∧ (((.agg ⟨[(.int IntKind.i64 (p)), (.slice .none ((0 : Nat)) ((0 : Nat)))]⟩) : Value) = (.agg ⟨[(.int IntKind.i64 (p)), (.slice .none ((0 : Nat)) ((0 : Nat)))]⟩))) ∧ ((((some (.slice .none ((0 : Nat)) ((0 : Nat))) : Option Value) = some (.slice .none ((0 : Nat)) ((0 : Nat))))) ∧ (((((2 : Nat) ≤ (2 : Nat))) ∧ (((.agg ⟨[(.int IntKind.i64 (p)), (.slice .none ((0 : Nat)) ((0 : Nat)))]⟩) : Value) = (.agg ⟨[(.int IntKind.i64 (p)), (.slice .none ((0 : Nat)) ((0 : Nat)))]⟩))) ∧ (True)))) ∧ 
(((((some (.slice .none ((0 : Nat)) ((0 : Nat))) : Option Value) = some (.slice .none ((0 : Nat)) ((0 : Nat))))) ∧ (((((2 : Nat) ≤ (2 : Nat))) ∧ (((.agg ⟨[(.int IntKind.i64 (p)), (.slice .none ((0 : Nat)) ((0 : Nat)))]⟩) : Value) = (.agg ⟨[(.int IntKind.i64 (p)), (.slice .none ((0 : Nat)) ((0 : Nat)))]⟩))) ∧ (True))) ∧ 
((ConOK Try.prog ((12 : Nat)) (C12)) ∧ (Con.pre (C12) ⟨⟨[], []⟩, []⟩) ∧ 
R (.ret (.bool true)))))) ∧
((decide (p ≤ (3 : Int))) = false → R (.ret (.bool false))))) ∧
((decide ((0 : Int) ≤ p)) = false → R (.ret (.bool false))))) ∧
((decide (p ≤ (3 : Int))) = false → ((ConOK Try.prog ((12 : Nat)) (C12)) ∧ (Con.pre (C12) ⟨⟨[], []⟩, []⟩) ∧ 
R (.ret (.bool true)))))) ∧
((decide ((0 : Int) ≤ p)) = false → ((ConOK Try.prog ((12 : Nat)) (C12)) ∧ (Con.pre (C12) ⟨⟨[], []⟩, []⟩) ∧ 
R (.ret (.bool true)))))) := by kernel_rfl

theorem e1t_ok (p : Int) (k d : Nat) (bs : List Value) : ∃ hs, vx.call 6 [hV p 0 0, .bool true, slV 1 k d] (retK fun r => r = .ret (.bool true)) (m2z bs) hs := by
  have key : ∀ R : ARes → Prop, R (.ret (.bool true)) → ∃ hs, vx.call 6 [hV p 0 0, .bool true, slV 1 k d] (retK R) (m2z bs) hs := by
    intro R hR
    refine ⟨_, (e1t p k d bs R).mpr ?_⟩
    repeat' (first | with_reducible apply And.intro | with_reducible intro)
    all_goals first | exact C12_ok | exact hR | omega | trivial | rfl | (exfalso; simp_all; done)
  exact key _ rfl
theorem e2t_ok (p : Int) : ∃ hs, vx.call 6 [hV p 0 0, .bool true, nilS] (retK fun r => r = .ret (.bool true)) m2d hs := by
  have key : ∀ R : ARes → Prop, R (.ret (.bool true)) → ∃ hs, vx.call 6 [hV p 0 0, .bool true, nilS] (retK R) m2d hs := by
    intro R hR
    refine ⟨_, (e2t p R).mpr ?_⟩
    repeat' (first | with_reducible apply And.intro | with_reducible intro)
    all_goals first | exact C12_ok | exact hR | omega | trivial | rfl | (exfalso; simp_all; done)
  exact key _ rfl
theorem e3t_ok (p : Int) : ∃ hs, vx.call 6 [hV p 0 0, .bool true, slV 1 0 0] (retK fun r => r = .ret (.bool true)) m2d hs := by
  have key : ∀ R : ARes → Prop, R (.ret (.bool true)) → ∃ hs, vx.call 6 [hV p 0 0, .bool true, slV 1 0 0] (retK R) m2d hs := by
    intro R hR
    refine ⟨_, (e3t p R).mpr ?_⟩
    repeat' (first | with_reducible apply And.intro | with_reducible intro)
    all_goals first | exact C12_ok | exact hR | omega | trivial | rfl | (exfalso; simp_all; done)
  exact key _ rfl
theorem e4t_ok (p : Int) : ∃ hs, vx.call 6 [hN p, .bool true, slV 1 0 0] (retK fun r => r = .ret (.bool true)) m2d hs := by
  have key : ∀ R : ARes → Prop, R (.ret (.bool true)) → ∃ hs, vx.call 6 [hN p, .bool true, slV 1 0 0] (retK R) m2d hs := by
    intro R hR
    refine ⟨_, (e4t p R).mpr ?_⟩
    repeat' (first | with_reducible apply And.intro | with_reducible intro)
    all_goals first | exact C12_ok | exact hR | omega | trivial | rfl | (exfalso; simp_all; done)
  exact key _ rfl
theorem e1f_ok (p : Int) (k d : Nat) (bs : List Value) : ∃ hs, vx.call 6 [hV p 0 0, .bool false, slV 1 k d] (retK fun r => r = .ret (.bool true)) (m2z bs) hs := by
  have key : ∀ R : ARes → Prop, R (.ret (.bool true)) → ∃ hs, vx.call 6 [hV p 0 0, .bool false, slV 1 k d] (retK R) (m2z bs) hs := by
    intro R hR
    refine ⟨_, (e1f p k d bs R).mpr ?_⟩
    repeat' (first | with_reducible apply And.intro | with_reducible intro)
    all_goals first | exact C12_ok | exact hR | omega | trivial | rfl | (exfalso; simp_all; done)
  exact key _ rfl
theorem e2f_ok (p : Int) : ∃ hs, vx.call 6 [hV p 0 0, .bool false, nilS] (retK fun r => r = .ret (.bool true)) m2d hs := by
  have key : ∀ R : ARes → Prop, R (.ret (.bool true)) → ∃ hs, vx.call 6 [hV p 0 0, .bool false, nilS] (retK R) m2d hs := by
    intro R hR
    refine ⟨_, (e2f p R).mpr ?_⟩
    repeat' (first | with_reducible apply And.intro | with_reducible intro)
    all_goals first | exact C12_ok | exact hR | omega | trivial | rfl | (exfalso; simp_all; done)
  exact key _ rfl
theorem e3f_ok (p : Int) : ∃ hs, vx.call 6 [hV p 0 0, .bool false, slV 1 0 0] (retK fun r => r = .ret (.bool true)) m2d hs := by
  have key : ∀ R : ARes → Prop, R (.ret (.bool true)) → ∃ hs, vx.call 6 [hV p 0 0, .bool false, slV 1 0 0] (retK R) m2d hs := by
    intro R hR
    refine ⟨_, (e3f p R).mpr ?_⟩
    repeat' (first | with_reducible apply And.intro | with_reducible intro)
    all_goals first | exact C12_ok | exact hR | omega | trivial | rfl | (exfalso; simp_all; done)
  exact key _ rfl
theorem e4f_ok (p : Int) : ∃ hs, vx.call 6 [hN p, .bool false, slV 1 0 0] (retK fun r => r = .ret (.bool true)) m2d hs := by
  have key : ∀ R : ARes → Prop, R (.ret (.bool true)) → ∃ hs, vx.call 6 [hN p, .bool false, slV 1 0 0] (retK R) m2d hs := by
    intro R hR
    refine ⟨_, (e4f p R).mpr ?_⟩
    repeat' (first | with_reducible apply And.intro | with_reducible intro)
    all_goals first | exact C12_ok | exact hR | omega | trivial | rfl | (exfalso; simp_all; done)
  exact key _ rfl
end Go.Ab

