/- the law HorseCheck: no moves. -/
import Derived.Test.YthfhcnbpgagkdaaMX
set_option maxRecDepth 100000
namespace Go.Ab
open Go Go.RowKit Go.Proofs
theorem z6 (p : Int) (c k d : Nat) (ms bs : List Value) (R : ARes → Prop)  : (vx.call 6 [hV p 0 c, .bool true, slV 1 k d] (retK R) (m2b ms bs) ([(31, .split ([(3, .split ([(72, .split ([(3, .split ((61, Hint.again) :: (28, Hint.again) :: (72, Hint.con C12) :: []) ([]))]) ([]))]) ((11, Hint.con C12) :: []))]) ((12, Hint.con C12) :: []))])) =
((((decide ((0 : Int) ≤ p)) = true → (((decide (p ≤ (3 : Int))) = true → (((decide ((0 : Int) ≤ p)) = true → (((decide (p ≤ (3 : Int))) = true → ((((((2 : Nat) ≤ (2 : Nat))) ∧ (((.agg ⟨[(.int IntKind.i64 (p)), (.slice (.some ⟨((0 : Nat)), ((0 : Nat)), .none⟩) ((0 : Nat)) (c))]⟩) : Value) = (.agg ⟨[(.int IntKind.i64 (p)), (.slice (.some ⟨((0 : Nat)), ((0 : Nat)), .none⟩) ((0 : Nat)) (c))]⟩))) ∧ ((((some (.slice .none ((0 : Nat)) ((0 : Nat))) : Option Value) = some (.slice .none ((0 : Nat)) ((0 : Nat))))) ∧ (((((2 : Nat) ≤ (2 : Nat))) ∧ (((.agg ⟨[(.int IntKind.i64 (p)), (.slice (.some ⟨((0 : Nat)), ((0 : Nat)), .none⟩) ((0 : Nat)) (c))]⟩) : Value) = (.agg ⟨[(.int IntKind.i64 (p)), (.slice (.some ⟨((0 : Nat)), ((0 : Nat)), .none⟩) ((0 : Nat)) (c))]⟩))) ∧ (True)))) ∧ 
(((((some (.slice .none ((0 : Nat)) ((0 : Nat))) : Option Value) = some (.slice .none ((0 : Nat)) ((0 : Nat))))) ∧ (((((2 : Nat) ≤ (2 : Nat))) ∧ (((.agg ⟨[(.int IntKind.i64 (p)), (.slice (.some ⟨((0 : Nat)), ((0 : Nat)), .none⟩) ((0 : Nat)) (c))]⟩) : Value) = (.agg ⟨[(.int IntKind.i64 (p)), (.slice (.some ⟨((0 : Nat)), ((0 : Nat)), .none⟩) ((0 : Nat)) (c))]⟩))) ∧ (True))) ∧ 
((ConOK Try.prog ((12 : Nat)) (C12)) ∧ (Con.pre (C12) ⟨⟨[], []⟩, []⟩) ∧ 
R (.ret (.bool true)))))) ∧
((decide (p ≤ (3 : Int))) = false → R (.ret (.bool false))))) ∧
((decide ((0 : Int) ≤ p)) = false → R (.ret (.bool false))))) ∧
((decide (p ≤ (3 : Int))) = false → ((ConOK Try.prog ((12 : Nat)) (C12)) ∧ (Con.pre (C12) ⟨⟨[], []⟩, []⟩) ∧ 
R (.ret (.bool true)))))) ∧
((decide ((0 : Int) ≤ p)) = false → ((ConOK Try.prog ((12 : Nat)) (C12)) ∧ (Con.pre (C12) ⟨⟨[], []⟩, []⟩) ∧ 
R (.ret (.bool true)))))) := by kernel_rfl

theorem z6f (p : Int) (c k d : Nat) (ms bs : List Value) (R : ARes → Prop)  : (vx.call 6 [hV p 0 c, .bool false, slV 1 k d] (retK R) (m2b ms bs) ([(31, .split ([(3, .split ([(72, .split ([(3, .split ((61, Hint.again) :: (28, Hint.again) :: (71, Hint.con C12) :: []) ([]))]) ([]))]) ((11, Hint.con C12) :: []))]) ((12, Hint.con C12) :: []))])) =
((((decide ((0 : Int) ≤ p)) = true → (((decide (p ≤ (3 : Int))) = true → (((decide ((0 : Int) ≤ p)) = true → (((decide (p ≤ (3 : Int))) = true → ((((((2 : Nat) ≤ (2 : Nat))) ∧ (((.agg ⟨[(.int IntKind.i64 (p)), (.slice (.some ⟨((0 : Nat)), ((0 : Nat)), .none⟩) ((0 : Nat)) (c))]⟩) : Value) = (.agg ⟨[(.int IntKind.i64 (p)), (.slice (.some ⟨((0 : Nat)), ((0 : Nat)), .none⟩) ((0 : Nat)) (c))]⟩))) ∧ ((((some (.slice .none ((0 : Nat)) ((0 : Nat))) : Option Value) = some (.slice .none ((0 : Nat)) ((0 : Nat))))) ∧ (((((2 : Nat) ≤ (2 : Nat))) ∧ (((.agg ⟨[(.int IntKind.i64 (p)), (.slice (.some ⟨((0 : Nat)), ((0 : Nat)), .none⟩) ((0 : Nat)) (c))]⟩) : Value) = (.agg ⟨[(.int IntKind.i64 (p)), (.slice (.some ⟨((0 : Nat)), ((0 : Nat)), .none⟩) ((0 : Nat)) (c))]⟩))) ∧ (True)))) ∧ 
(((((some (.slice .none ((0 : Nat)) ((0 : Nat))) : Option Value) = some (.slice .none ((0 : Nat)) ((0 : Nat))))) ∧ (((((2 : Nat) ≤ (2 : Nat))) ∧ (((.agg ⟨[(.int IntKind.i64 (p)), (.slice (.some ⟨((0 : Nat)), ((0 : Nat)), .none⟩) ((0 : Nat)) (c))]⟩) : Value) = (.agg ⟨[(.int IntKind.i64 (p)), (.slice (.some ⟨((0 : Nat)), ((0 : Nat)), .none⟩) ((0 : Nat)) (c))]⟩))) ∧ (True))) ∧ 
((ConOK Try.prog ((12 : Nat)) (C12)) ∧ (Con.pre (C12) ⟨⟨[], []⟩, []⟩) ∧ 
R (.ret (.bool true)))))) ∧
((decide (p ≤ (3 : Int))) = false → R (.ret (.bool false))))) ∧
((decide ((0 : Int) ≤ p)) = false → R (.ret (.bool false))))) ∧
((decide (p ≤ (3 : Int))) = false → ((ConOK Try.prog ((12 : Nat)) (C12)) ∧ (Con.pre (C12) ⟨⟨[], []⟩, []⟩) ∧ 
R (.ret (.bool true)))))) ∧
((decide ((0 : Int) ≤ p)) = false → ((ConOK Try.prog ((12 : Nat)) (C12)) ∧ (Con.pre (C12) ⟨⟨[], []⟩, []⟩) ∧ 
R (.ret (.bool true)))))) := by kernel_rfl

theorem z6n (p : Int) (c : Nat) (ms : List Value) (R : ARes → Prop)  : (vx.call 6 [hV p 0 c, .bool true, nilS] (retK R) (m2n ms) ([(31, .split ([(3, .split ([(72, .split ([(3, .split ((61, Hint.again) :: (28, Hint.again) :: (72, Hint.con C12) :: []) ([]))]) ([]))]) ((11, Hint.con C12) :: []))]) ((12, Hint.con C12) :: []))])) =
((((decide ((0 : Int) ≤ p)) = true → (((decide (p ≤ (3 : Int))) = true → (((decide ((0 : Int) ≤ p)) = true → (((decide (p ≤ (3 : Int))) = true → ((((((2 : Nat) ≤ (2 : Nat))) ∧ (((.agg ⟨[(.int IntKind.i64 (p)), (.slice (.some ⟨((0 : Nat)), ((0 : Nat)), .none⟩) ((0 : Nat)) (c))]⟩) : Value) = (.agg ⟨[(.int IntKind.i64 (p)), (.slice (.some ⟨((0 : Nat)), ((0 : Nat)), .none⟩) ((0 : Nat)) (c))]⟩))) ∧ ((((some (.slice .none ((0 : Nat)) ((0 : Nat))) : Option Value) = some (.slice .none ((0 : Nat)) ((0 : Nat))))) ∧ (((((2 : Nat) ≤ (2 : Nat))) ∧ (((.agg ⟨[(.int IntKind.i64 (p)), (.slice (.some ⟨((0 : Nat)), ((0 : Nat)), .none⟩) ((0 : Nat)) (c))]⟩) : Value) = (.agg ⟨[(.int IntKind.i64 (p)), (.slice (.some ⟨((0 : Nat)), ((0 : Nat)), .none⟩) ((0 : Nat)) (c))]⟩))) ∧ (True)))) ∧ 
(((((some (.slice .none ((0 : Nat)) ((0 : Nat))) : Option Value) = some (.slice .none ((0 : Nat)) ((0 : Nat))))) ∧ (((((2 : Nat) ≤ (2 : Nat))) ∧ (((.agg ⟨[(.int IntKind.i64 (p)), (.slice (.some ⟨((0 : Nat)), ((0 : Nat)), .none⟩) ((0 : Nat)) (c))]⟩) : Value) = (.agg ⟨[(.int IntKind.i64 (p)), (.slice (.some ⟨((0 : Nat)), ((0 : Nat)), .none⟩) ((0 : Nat)) (c))]⟩))) ∧ (True))) ∧ 
((ConOK Try.prog ((12 : Nat)) (C12)) ∧ (Con.pre (C12) ⟨⟨[], []⟩, []⟩) ∧ 
R (.ret (.bool true)))))) ∧
((decide (p ≤ (3 : Int))) = false → R (.ret (.bool false))))) ∧
((decide ((0 : Int) ≤ p)) = false → R (.ret (.bool false))))) ∧
((decide (p ≤ (3 : Int))) = false → ((ConOK Try.prog ((12 : Nat)) (C12)) ∧ (Con.pre (C12) ⟨⟨[], []⟩, []⟩) ∧ 
R (.ret (.bool true)))))) ∧
((decide ((0 : Int) ≤ p)) = false → ((ConOK Try.prog ((12 : Nat)) (C12)) ∧ (Con.pre (C12) ⟨⟨[], []⟩, []⟩) ∧ 
R (.ret (.bool true)))))) := by kernel_rfl

theorem z6nf (p : Int) (c : Nat) (ms : List Value) (R : ARes → Prop)  : (vx.call 6 [hV p 0 c, .bool false, nilS] (retK R) (m2n ms) ([(31, .split ([(3, .split ([(72, .split ([(3, .split ((61, Hint.again) :: (28, Hint.again) :: (71, Hint.con C12) :: []) ([]))]) ([]))]) ((11, Hint.con C12) :: []))]) ((12, Hint.con C12) :: []))])) =
((((decide ((0 : Int) ≤ p)) = true → (((decide (p ≤ (3 : Int))) = true → (((decide ((0 : Int) ≤ p)) = true → (((decide (p ≤ (3 : Int))) = true → ((((((2 : Nat) ≤ (2 : Nat))) ∧ (((.agg ⟨[(.int IntKind.i64 (p)), (.slice (.some ⟨((0 : Nat)), ((0 : Nat)), .none⟩) ((0 : Nat)) (c))]⟩) : Value) = (.agg ⟨[(.int IntKind.i64 (p)), (.slice (.some ⟨((0 : Nat)), ((0 : Nat)), .none⟩) ((0 : Nat)) (c))]⟩))) ∧ ((((some (.slice .none ((0 : Nat)) ((0 : Nat))) : Option Value) = some (.slice .none ((0 : Nat)) ((0 : Nat))))) ∧ (((((2 : Nat) ≤ (2 : Nat))) ∧ (((.agg ⟨[(.int IntKind.i64 (p)), (.slice (.some ⟨((0 : Nat)), ((0 : Nat)), .none⟩) ((0 : Nat)) (c))]⟩) : Value) = (.agg ⟨[(.int IntKind.i64 (p)), (.slice (.some ⟨((0 : Nat)), ((0 : Nat)), .none⟩) ((0 : Nat)) (c))]⟩))) ∧ (True)))) ∧ 
(((((some (.slice .none ((0 : Nat)) ((0 : Nat))) : Option Value) = some (.slice .none ((0 : Nat)) ((0 : Nat))))) ∧ (((((2 : Nat) ≤ (2 : Nat))) ∧ (((.agg ⟨[(.int IntKind.i64 (p)), (.slice (.some ⟨((0 : Nat)), ((0 : Nat)), .none⟩) ((0 : Nat)) (c))]⟩) : Value) = (.agg ⟨[(.int IntKind.i64 (p)), (.slice (.some ⟨((0 : Nat)), ((0 : Nat)), .none⟩) ((0 : Nat)) (c))]⟩))) ∧ (True))) ∧ 
((ConOK Try.prog ((12 : Nat)) (C12)) ∧ (Con.pre (C12) ⟨⟨[], []⟩, []⟩) ∧ 
R (.ret (.bool true)))))) ∧
((decide (p ≤ (3 : Int))) = false → R (.ret (.bool false))))) ∧
((decide ((0 : Int) ≤ p)) = false → R (.ret (.bool false))))) ∧
((decide (p ≤ (3 : Int))) = false → ((ConOK Try.prog ((12 : Nat)) (C12)) ∧ (Con.pre (C12) ⟨⟨[], []⟩, []⟩) ∧ 
R (.ret (.bool true)))))) ∧
((decide ((0 : Int) ≤ p)) = false → ((ConOK Try.prog ((12 : Nat)) (C12)) ∧ (Con.pre (C12) ⟨⟨[], []⟩, []⟩) ∧ 
R (.ret (.bool true)))))) := by kernel_rfl

theorem y6 (p : Int) (k d : Nat) (bs : List Value) (R : ARes → Prop)  : (vx.call 6 [hN p, .bool true, slV 1 k d] (retK R) (m2z bs) ([(31, .split ([(3, .split ([(72, .split ([(3, .split ((61, Hint.again) :: (28, Hint.again) :: (72, Hint.con C12) :: []) ([]))]) ([]))]) ((11, Hint.con C12) :: []))]) ((12, Hint.con C12) :: []))])) =
((((decide ((0 : Int) ≤ p)) = true → (((decide (p ≤ (3 : Int))) = true → (((decide ((0 : Int) ≤ p)) = true → (((decide (p ≤ (3 : Int))) = true → ((((((2 : Nat) ≤ (2 : Nat))) ∧ (((.agg ⟨[(.int IntKind.i64 (p)), (.slice .none ((0 : Nat)) ((0 : Nat)))]⟩) : Value) = (.agg ⟨[(.int IntKind.i64 (p)), (.slice .none ((0 : Nat)) ((0 : Nat)))]⟩))) ∧ ((((some (.slice .none ((0 : Nat)) ((0 : Nat))) : Option Value) = some (.slice .none ((0 : Nat)) ((0 : Nat))))) ∧ (((((2 : Nat) ≤ (2 : Nat))) ∧ (((.agg ⟨[(.int IntKind.i64 (p)), (.slice .none ((0 : Nat)) ((0 : Nat)))]⟩) : Value) = (.agg ⟨[(.int IntKind.i64 (p)), (.slice .none ((0 : Nat)) ((0 : Nat)))]⟩))) ∧ (True)))) ∧ 
(((((some (.slice .none ((0 : Nat)) ((0 : Nat))) : Option Value) = some (.slice .none ((0 : Nat)) ((0 : Nat))))) ∧ (((((2 : Nat) ≤ (2 : Nat))) ∧ (((.agg ⟨[(.int IntKind.i64 (p)), (.slice .none ((0 : Nat)) ((0 : Nat)))]⟩) : Value) = (.agg ⟨[(.int IntKind.i64 (p)), (.slice .none ((0 : Nat)) ((0 : Nat)))]⟩))) ∧ (True))) ∧ 
((ConOK Try.prog ((12 : Nat)) (C12)) ∧ (Con.pre (C12) ⟨⟨[], []⟩, []⟩) ∧ 
R (.ret (.bool true)))))) ∧
((decide (p ≤ (3 : Int))) = false → R (.ret (.bool false))))) ∧
((decide ((0 : Int) ≤ p)) = false → R (.ret (.bool false))))) ∧
((decide (p ≤ (3 : Int))) = false → ((ConOK Try.prog ((12 : Nat)) (C12)) ∧ (Con.pre (C12) ⟨⟨[], []⟩, []⟩) ∧ 
R (.ret (.bool true)))))) ∧
((decide ((0 : Int) ≤ p)) = false → ((ConOK Try.prog ((12 : Nat)) (C12)) ∧ (Con.pre (C12) ⟨⟨[], []⟩, []⟩) ∧ 
R (.ret (.bool true)))))) := by kernel_rfl

theorem y6f (p : Int) (k d : Nat) (bs : List Value) (R : ARes → Prop)  : (vx.call 6 [hN p, .bool false, slV 1 k d] (retK R) (m2z bs) ([(31, .split ([(3, .split ([(72, .split ([(3, .split ((61, Hint.again) :: (28, Hint.again) :: (71, Hint.con C12) :: []) ([]))]) ([]))]) ((11, Hint.con C12) :: []))]) ((12, Hint.con C12) :: []))])) =
((((decide ((0 : Int) ≤ p)) = true → (((decide (p ≤ (3 : Int))) = true → (((decide ((0 : Int) ≤ p)) = true → (((decide (p ≤ (3 : Int))) = true → ((((((2 : Nat) ≤ (2 : Nat))) ∧ (((.agg ⟨[(.int IntKind.i64 (p)), (.slice .none ((0 : Nat)) ((0 : Nat)))]⟩) : Value) = (.agg ⟨[(.int IntKind.i64 (p)), (.slice .none ((0 : Nat)) ((0 : Nat)))]⟩))) ∧ ((((some (.slice .none ((0 : Nat)) ((0 : Nat))) : Option Value) = some (.slice .none ((0 : Nat)) ((0 : Nat))))) ∧ (((((2 : Nat) ≤ (2 : Nat))) ∧ (((.agg ⟨[(.int IntKind.i64 (p)), (.slice .none ((0 : Nat)) ((0 : Nat)))]⟩) : Value) = (.agg ⟨[(.int IntKind.i64 (p)), (.slice .none ((0 : Nat)) ((0 : Nat)))]⟩))) ∧ (True)))) ∧ 
(((((some (.slice .none ((0 : Nat)) ((0 : Nat))) : Option Value) = some (.slice .none ((0 : Nat)) ((0 : Nat))))) ∧ (((((2 : Nat) ≤ (2 : Nat))) ∧ (((.agg ⟨[(.int IntKind.i64 (p)), (.slice .none ((0 : Nat)) ((0 : Nat)))]⟩) : Value) = (.agg ⟨[(.int IntKind.i64 (p)), (.slice .none ((0 : Nat)) ((0 : Nat)))]⟩))) ∧ (True))) ∧ 
((ConOK Try.prog ((12 : Nat)) (C12)) ∧ (Con.pre (C12) ⟨⟨[], []⟩, []⟩) ∧ 
R (.ret (.bool true)))))) ∧
((decide (p ≤ (3 : Int))) = false → R (.ret (.bool false))))) ∧
((decide ((0 : Int) ≤ p)) = false → R (.ret (.bool false))))) ∧
((decide (p ≤ (3 : Int))) = false → ((ConOK Try.prog ((12 : Nat)) (C12)) ∧ (Con.pre (C12) ⟨⟨[], []⟩, []⟩) ∧ 
R (.ret (.bool true)))))) ∧
((decide ((0 : Int) ≤ p)) = false → ((ConOK Try.prog ((12 : Nat)) (C12)) ∧ (Con.pre (C12) ⟨⟨[], []⟩, []⟩) ∧ 
R (.ret (.bool true)))))) := by kernel_rfl

theorem y6n (p : Int) (R : ARes → Prop)  : (vx.call 6 [hN p, .bool true, nilS] (retK R) m2d ([(31, .split ([(3, .split ([(72, .split ([(3, .split ((61, Hint.again) :: (28, Hint.again) :: (72, Hint.con C12) :: []) ([]))]) ([]))]) ((11, Hint.con C12) :: []))]) ((12, Hint.con C12) :: []))])) =
((((decide ((0 : Int) ≤ p)) = true → (((decide (p ≤ (3 : Int))) = true → (((decide ((0 : Int) ≤ p)) = true → (((decide (p ≤ (3 : Int))) = true → ((((((2 : Nat) ≤ (2 : Nat))) ∧ (((.agg ⟨[(.int IntKind.i64 (p)), (.slice .none ((0 : Nat)) ((0 : Nat)))]⟩) : Value) = (.agg ⟨[(.int IntKind.i64 (p)), (.slice .none ((0 : Nat)) ((0 : Nat)))]⟩))) ∧ ((((some (.slice .none ((0 : Nat)) ((0 : Nat))) : Option Value) = some (.slice .none ((0 : Nat)) ((0 : Nat))))) ∧ (((((2 : Nat) ≤ (2 : Nat))) ∧ (((.agg ⟨[(.int IntKind.i64 (p)), (.slice .none ((0 : Nat)) ((0 : Nat)))]⟩) : Value) = (.agg ⟨[(.int IntKind.i64 (p)), (.slice .none ((0 : Nat)) ((0 : Nat)))]⟩))) ∧ (True)))) ∧ 
(((((some (.slice .none ((0 : Nat)) ((0 : Nat))) : Option Value) = some (.slice .none ((0 : Nat)) ((0 : Nat))))) ∧ (((((2 : Nat) ≤ (2 : Nat))) ∧ (((.agg ⟨[(.int IntKind.i64 (p)), (.slice .none ((0 : Nat)) ((0 : Nat)))]⟩) : Value) = (.agg ⟨[(.int IntKind.i64 (p)), (.slice .none ((0 : Nat)) ((0 : Nat)))]⟩))) ∧ (True))) ∧ 
((ConOK Try.prog ((12 : Nat)) (C12)) ∧ (Con.pre (C12) ⟨⟨[], []⟩, []⟩) ∧ 
R (.ret (.bool true)))))) ∧
((decide (p ≤ (3 : Int))) = false → R (.ret (.bool false))))) ∧
((decide ((0 : Int) ≤ p)) = false → R (.ret (.bool false))))) ∧
((decide (p ≤ (3 : Int))) = false → ((ConOK Try.prog ((12 : Nat)) (C12)) ∧ (Con.pre (C12) ⟨⟨[], []⟩, []⟩) ∧ 
R (.ret (.bool true)))))) ∧
((decide ((0 : Int) ≤ p)) = false → ((ConOK Try.prog ((12 : Nat)) (C12)) ∧ (Con.pre (C12) ⟨⟨[], []⟩, []⟩) ∧ 
R (.ret (.bool true)))))) := by kernel_rfl

theorem y6nf (p : Int) (R : ARes → Prop)  : (vx.call 6 [hN p, .bool false, nilS] (retK R) m2d ([(31, .split ([(3, .split ([(72, .split ([(3, .split ((61, Hint.again) :: (28, Hint.again) :: (71, Hint.con C12) :: []) ([]))]) ([]))]) ((11, Hint.con C12) :: []))]) ((12, Hint.con C12) :: []))])) =
((((decide ((0 : Int) ≤ p)) = true → (((decide (p ≤ (3 : Int))) = true → (((decide ((0 : Int) ≤ p)) = true → (((decide (p ≤ (3 : Int))) = true → ((((((2 : Nat) ≤ (2 : Nat))) ∧ (((.agg ⟨[(.int IntKind.i64 (p)), (.slice .none ((0 : Nat)) ((0 : Nat)))]⟩) : Value) = (.agg ⟨[(.int IntKind.i64 (p)), (.slice .none ((0 : Nat)) ((0 : Nat)))]⟩))) ∧ ((((some (.slice .none ((0 : Nat)) ((0 : Nat))) : Option Value) = some (.slice .none ((0 : Nat)) ((0 : Nat))))) ∧ (((((2 : Nat) ≤ (2 : Nat))) ∧ (((.agg ⟨[(.int IntKind.i64 (p)), (.slice .none ((0 : Nat)) ((0 : Nat)))]⟩) : Value) = (.agg ⟨[(.int IntKind.i64 (p)), (.slice .none ((0 : Nat)) ((0 : Nat)))]⟩))) ∧ (True)))) ∧ 
(((((some (.slice .none ((0 : Nat)) ((0 : Nat))) : Option Value) = some (.slice .none ((0 : Nat)) ((0 : Nat))))) ∧ (((((2 : Nat) ≤ (2 : Nat))) ∧ (((.agg ⟨[(.int IntKind.i64 (p)), (.slice .none ((0 : Nat)) ((0 : Nat)))]⟩) : Value) = (.agg ⟨[(.int IntKind.i64 (p)), (.slice .none ((0 : Nat)) ((0 : Nat)))]⟩))) ∧ (True))) ∧ 
((ConOK Try.prog ((12 : Nat)) (C12)) ∧ (Con.pre (C12) ⟨⟨[], []⟩, []⟩) ∧ 
R (.ret (.bool true)))))) ∧
((decide (p ≤ (3 : Int))) = false → R (.ret (.bool false))))) ∧
((decide ((0 : Int) ≤ p)) = false → R (.ret (.bool false))))) ∧
((decide (p ≤ (3 : Int))) = false → ((ConOK Try.prog ((12 : Nat)) (C12)) ∧ (Con.pre (C12) ⟨⟨[], []⟩, []⟩) ∧ 
R (.ret (.bool true)))))) ∧
((decide ((0 : Int) ≤ p)) = false → ((ConOK Try.prog ((12 : Nat)) (C12)) ∧ (Con.pre (C12) ⟨⟨[], []⟩, []⟩) ∧ 
R (.ret (.bool true)))))) := by kernel_rfl

theorem z6_ok (p : Int) (c k d : Nat) (ms bs : List Value) : ∃ hs, vx.call 6 [hV p 0 c, .bool true, slV 1 k d] (retK fun r => r = .ret (.bool true)) (m2b ms bs) hs := by
  have key : ∀ R : ARes → Prop, R (.ret (.bool true)) → ∃ hs, vx.call 6 [hV p 0 c, .bool true, slV 1 k d] (retK R) (m2b ms bs) hs := by
    intro R hR
    refine ⟨_, (z6 p c k d ms bs R).mpr ?_⟩
    repeat' (first | with_reducible apply And.intro | with_reducible intro)
    all_goals first | exact C12_ok | exact hR | omega | trivial | rfl | (exfalso; simp_all; done)
  exact key _ rfl
theorem z6f_ok (p : Int) (c k d : Nat) (ms bs : List Value) : ∃ hs, vx.call 6 [hV p 0 c, .bool false, slV 1 k d] (retK fun r => r = .ret (.bool true)) (m2b ms bs) hs := by
  have key : ∀ R : ARes → Prop, R (.ret (.bool true)) → ∃ hs, vx.call 6 [hV p 0 c, .bool false, slV 1 k d] (retK R) (m2b ms bs) hs := by
    intro R hR
    refine ⟨_, (z6f p c k d ms bs R).mpr ?_⟩
    repeat' (first | with_reducible apply And.intro | with_reducible intro)
    all_goals first | exact C12_ok | exact hR | omega | trivial | rfl | (exfalso; simp_all; done)
  exact key _ rfl
theorem z6n_ok (p : Int) (c : Nat) (ms : List Value) : ∃ hs, vx.call 6 [hV p 0 c, .bool true, nilS] (retK fun r => r = .ret (.bool true)) (m2n ms) hs := by
  have key : ∀ R : ARes → Prop, R (.ret (.bool true)) → ∃ hs, vx.call 6 [hV p 0 c, .bool true, nilS] (retK R) (m2n ms) hs := by
    intro R hR
    refine ⟨_, (z6n p c ms R).mpr ?_⟩
    repeat' (first | with_reducible apply And.intro | with_reducible intro)
    all_goals first | exact C12_ok | exact hR | omega | trivial | rfl | (exfalso; simp_all; done)
  exact key _ rfl
theorem z6nf_ok (p : Int) (c : Nat) (ms : List Value) : ∃ hs, vx.call 6 [hV p 0 c, .bool false, nilS] (retK fun r => r = .ret (.bool true)) (m2n ms) hs := by
  have key : ∀ R : ARes → Prop, R (.ret (.bool true)) → ∃ hs, vx.call 6 [hV p 0 c, .bool false, nilS] (retK R) (m2n ms) hs := by
    intro R hR
    refine ⟨_, (z6nf p c ms R).mpr ?_⟩
    repeat' (first | with_reducible apply And.intro | with_reducible intro)
    all_goals first | exact C12_ok | exact hR | omega | trivial | rfl | (exfalso; simp_all; done)
  exact key _ rfl
theorem y6_ok (p : Int) (k d : Nat) (bs : List Value) : ∃ hs, vx.call 6 [hN p, .bool true, slV 1 k d] (retK fun r => r = .ret (.bool true)) (m2z bs) hs := by
  have key : ∀ R : ARes → Prop, R (.ret (.bool true)) → ∃ hs, vx.call 6 [hN p, .bool true, slV 1 k d] (retK R) (m2z bs) hs := by
    intro R hR
    refine ⟨_, (y6 p k d bs R).mpr ?_⟩
    repeat' (first | with_reducible apply And.intro | with_reducible intro)
    all_goals first | exact C12_ok | exact hR | omega | trivial | rfl | (exfalso; simp_all; done)
  exact key _ rfl
theorem y6f_ok (p : Int) (k d : Nat) (bs : List Value) : ∃ hs, vx.call 6 [hN p, .bool false, slV 1 k d] (retK fun r => r = .ret (.bool true)) (m2z bs) hs := by
  have key : ∀ R : ARes → Prop, R (.ret (.bool true)) → ∃ hs, vx.call 6 [hN p, .bool false, slV 1 k d] (retK R) (m2z bs) hs := by
    intro R hR
    refine ⟨_, (y6f p k d bs R).mpr ?_⟩
    repeat' (first | with_reducible apply And.intro | with_reducible intro)
    all_goals first | exact C12_ok | exact hR | omega | trivial | rfl | (exfalso; simp_all; done)
  exact key _ rfl
theorem y6n_ok (p : Int) : ∃ hs, vx.call 6 [hN p, .bool true, nilS] (retK fun r => r = .ret (.bool true)) m2d hs := by
  have key : ∀ R : ARes → Prop, R (.ret (.bool true)) → ∃ hs, vx.call 6 [hN p, .bool true, nilS] (retK R) m2d hs := by
    intro R hR
    refine ⟨_, (y6n p R).mpr ?_⟩
    repeat' (first | with_reducible apply And.intro | with_reducible intro)
    all_goals first | exact C12_ok | exact hR | omega | trivial | rfl | (exfalso; simp_all; done)
  exact key _ rfl
theorem y6nf_ok (p : Int) : ∃ hs, vx.call 6 [hN p, .bool false, nilS] (retK fun r => r = .ret (.bool true)) m2d hs := by
  have key : ∀ R : ARes → Prop, R (.ret (.bool true)) → ∃ hs, vx.call 6 [hN p, .bool false, nilS] (retK R) m2d hs := by
    intro R hR
    refine ⟨_, (y6nf p R).mpr ?_⟩
    repeat' (first | with_reducible apply And.intro | with_reducible intro)
    all_goals first | exact C12_ok | exact hR | omega | trivial | rfl | (exfalso; simp_all; done)
  exact key _ rfl
end Go.Ab

