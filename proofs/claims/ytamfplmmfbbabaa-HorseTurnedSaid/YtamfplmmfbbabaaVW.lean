/- the law HorseTurned: all forms of its arguments. -/
import Derived.Test.YtamfplmmfbbabaaVT
import Derived.Test.YtamfplmmfbbabaaVU
import Derived.Test.YtamfplmmfbbabaaVV
import Derived.Test.YtamfplmmfbbabaaUZ
import Derived.WalkKit
import Derived.ProofKit
import Derived.OpenShut
import Derived.Deep.Slices
import Derived.Deep.Strs
set_option maxRecDepth 100000
namespace Go.Ab
open Go Go.RowKit Go.Proofs
theorem x10 (p nu : Int) (n c k d : Nat) (sure : Bool) (f : Nat → Mv) (bs : Nat → Int) (R : ARes → Prop) : (vx.call 10 [hV p n c, slV 1 k d, .bool sure, .int .u8 nu] (retK R) (m2b (mvs n f) (u8s k bs)) ([(17, .split ((7, Hint.con C12) :: []) ((4, Hint.con ((C21 p n c f).when (ARes.ret (Value.bool false)))) :: (4, Hint.con C12) :: []))])) =
((((decide ((if (↑(0 : Nat) : Int) > (↑n : Int) then (↑(0 : Nat) : Int) else (↑n : Int)) > (40 : Int))) = true → ((ConOK Try.prog 12 (C12)) ∧ (Con.pre (C12) ⟨⟨[], []⟩, []⟩) ∧
R (.ret (.bool true)))) ∧
((decide ((if (↑(0 : Nat) : Int) > (↑n : Int) then (↑(0 : Nat) : Int) else (↑n : Int)) > (40 : Int))) = false → ((ConOK Try.prog 21 ((C21 p n c f).when (ARes.ret (Value.bool false)))) ∧ (Con.pre ((C21 p n c f).when (ARes.ret (Value.bool false))) ⟨⟨[(.int .i64 p)], [⟨n, c⟩]⟩, [(mvs n f)]⟩) ∧
((ConOK Try.prog 12 (C12)) ∧ (Con.pre (C12) ⟨⟨[], []⟩, []⟩) ∧
R (.ret (.bool true))))))) := by kernel_rfl
theorem x10z (p nu : Int) (n c : Nat) (sure : Bool) (f : Nat → Mv) (R : ARes → Prop) : (vx.call 10 [hV p n c, nilS, .bool sure, .int .u8 nu] (retK R) (m2n (mvs n f)) ([(17, .split ((7, Hint.con C12) :: []) ((4, Hint.con ((C21 p n c f).when (ARes.ret (Value.bool false)))) :: (4, Hint.con C12) :: []))])) =
((((decide ((if (↑(0 : Nat) : Int) > (↑n : Int) then (↑(0 : Nat) : Int) else (↑n : Int)) > (40 : Int))) = true → ((ConOK Try.prog 12 (C12)) ∧ (Con.pre (C12) ⟨⟨[], []⟩, []⟩) ∧
R (.ret (.bool true)))) ∧
((decide ((if (↑(0 : Nat) : Int) > (↑n : Int) then (↑(0 : Nat) : Int) else (↑n : Int)) > (40 : Int))) = false → ((ConOK Try.prog 21 ((C21 p n c f).when (ARes.ret (Value.bool false)))) ∧ (Con.pre ((C21 p n c f).when (ARes.ret (Value.bool false))) ⟨⟨[(.int .i64 p)], [⟨n, c⟩]⟩, [(mvs n f)]⟩) ∧
((ConOK Try.prog 12 (C12)) ∧ (Con.pre (C12) ⟨⟨[], []⟩, []⟩) ∧
R (.ret (.bool true))))))) := by kernel_rfl
theorem z23wt (p mz : Int) (c : Nat) (R : ARes → Prop) : (vx.call 23 [hC p c, I mz, .bool true] (retK R) (m1v .dead) ((29, .val (.bool true)) :: (3, .val (.bool true)) :: (35, .val (.bool true)) :: (3, .val (.bool true)) :: (18, Hint.again) :: (28, Hint.again) :: [])) =
(((((some (.bool (decide ((0 : Int) ≤ p))) : Option Value) = some (.bool true))) ∧
((((some (.bool (decide (p ≤ (3 : Int)))) : Option Value) = some (.bool true))) ∧
((((some (.bool (decide ((0 : Int) ≤ mz))) : Option Value) = some (.bool true))) ∧
((((some (.bool (decide (mz ≤ (7 : Int)))) : Option Value) = some (.bool true))) ∧
(((((some (.int .i64 mz) : Option Value) = some (.int .i64 mz))) ∧ (((((2 : Nat) ≤ (2 : Nat))) ∧ (((.agg ⟨[(.int .i64 p), (.slice (.some ⟨0, 0, .none⟩) ((0 : Nat)) (c))]⟩) : Value) = (.agg ⟨[(.int .i64 p), (.slice (.some ⟨0, 0, .none⟩) ((0 : Nat)) (c))]⟩))) ∧ (((((2 : Nat) ≤ (2 : Nat))) ∧ (((.agg ⟨[(.int .i64 p), (.slice (.some ⟨0, 0, .none⟩) ((0 : Nat)) (c))]⟩) : Value) = (.agg ⟨[(.int .i64 p), (.slice (.some ⟨0, 0, .none⟩) ((0 : Nat)) (c))]⟩))) ∧ (True)))) ∧
(((((some (.int .i64 mz) : Option Value) = some (.int .i64 mz))) ∧ (((((2 : Nat) ≤ (2 : Nat))) ∧ (((.agg ⟨[(.int .i64 p), (.slice (.some ⟨0, 0, .none⟩) ((0 : Nat)) (c))]⟩) : Value) = (.agg ⟨[(.int .i64 p), (.slice (.some ⟨0, 0, .none⟩) ((0 : Nat)) (c))]⟩))) ∧ (True))) ∧
R (.ret (.tuple ⟨[(.int .i64 (IntKind.i64.wrap (IntKind.i64.wrap ((1 : Int) * (2 : Int) ^ (0 : Nat)) - (1 : Int)))), (.int .i64 0)]⟩))))))))) := by kernel_rfl
theorem z23wf (p mz : Int) (c : Nat) (R : ARes → Prop) : (vx.call 23 [hC p c, I mz, .bool false] (retK R) (m1v .dead) ((29, .val (.bool true)) :: (3, .val (.bool true)) :: (35, .val (.bool true)) :: (3, .val (.bool true)) :: (18, Hint.again) :: (28, Hint.again) :: [])) =
(((((some (.bool (decide ((0 : Int) ≤ p))) : Option Value) = some (.bool true))) ∧
((((some (.bool (decide (p ≤ (3 : Int)))) : Option Value) = some (.bool true))) ∧
((((some (.bool (decide ((0 : Int) ≤ mz))) : Option Value) = some (.bool true))) ∧
((((some (.bool (decide (mz ≤ (7 : Int)))) : Option Value) = some (.bool true))) ∧
(((((some (.int .i64 mz) : Option Value) = some (.int .i64 mz))) ∧ (((((2 : Nat) ≤ (2 : Nat))) ∧ (((.agg ⟨[(.int .i64 p), (.slice (.some ⟨0, 0, .none⟩) ((0 : Nat)) (c))]⟩) : Value) = (.agg ⟨[(.int .i64 p), (.slice (.some ⟨0, 0, .none⟩) ((0 : Nat)) (c))]⟩))) ∧ (((((2 : Nat) ≤ (2 : Nat))) ∧ (((.agg ⟨[(.int .i64 p), (.slice (.some ⟨0, 0, .none⟩) ((0 : Nat)) (c))]⟩) : Value) = (.agg ⟨[(.int .i64 p), (.slice (.some ⟨0, 0, .none⟩) ((0 : Nat)) (c))]⟩))) ∧ (True)))) ∧
(((((some (.int .i64 mz) : Option Value) = some (.int .i64 mz))) ∧ (((((2 : Nat) ≤ (2 : Nat))) ∧ (((.agg ⟨[(.int .i64 p), (.slice (.some ⟨0, 0, .none⟩) ((0 : Nat)) (c))]⟩) : Value) = (.agg ⟨[(.int .i64 p), (.slice (.some ⟨0, 0, .none⟩) ((0 : Nat)) (c))]⟩))) ∧ (True))) ∧
R (.ret (.tuple ⟨[(.int .i64 (IntKind.i64.wrap (IntKind.i64.wrap ((1 : Int) * (2 : Int) ^ (0 : Nat)) - (1 : Int)))), (.int .i64 0)]⟩))))))))) := by kernel_rfl
theorem z24wt (p : Int) (c : Nat) (R : Hx → Prop) : (vx.call 24 [hC p c, .bool true] (retN (rowT3 1 3) R) (m1v .dead) ((29, .val (.bool true)) :: (3, .val (.bool true)) :: (37, Hint.again) :: (28, Hint.again) :: (22, Hint.con (C83z fun x => (0 : Int))) :: [(58, Hint.tm (0 : Nat) [((1 : Nat), (24 : Nat))])])) =
(((((some (.bool (decide ((0 : Int) ≤ p))) : Option Value) = some (.bool true))) ∧
((((some (.bool (decide (p ≤ (3 : Int)))) : Option Value) = some (.bool true))) ∧
((((((2 : Nat) ≤ (2 : Nat))) ∧ (((.agg ⟨[(.int .i64 p), (.slice (.some ⟨0, 0, .none⟩) ((0 : Nat)) (c))]⟩) : Value) = (.agg ⟨[(.int .i64 p), (.slice (.some ⟨0, 0, .none⟩) ((0 : Nat)) (c))]⟩))) ∧ (((((2 : Nat) ≤ (2 : Nat))) ∧ (((.agg ⟨[(.int .i64 p), (.slice (.some ⟨0, 0, .none⟩) ((0 : Nat)) (c))]⟩) : Value) = (.agg ⟨[(.int .i64 p), (.slice (.some ⟨0, 0, .none⟩) ((0 : Nat)) (c))]⟩))) ∧ (True))) ∧
((((((2 : Nat) ≤ (2 : Nat))) ∧ (((.agg ⟨[(.int .i64 p), (.slice (.some ⟨0, 0, .none⟩) ((0 : Nat)) (c))]⟩) : Value) = (.agg ⟨[(.int .i64 p), (.slice (.some ⟨0, 0, .none⟩) ((0 : Nat)) (c))]⟩))) ∧ (True)) ∧
((ConOK Try.prog 83 (C83z fun x => (0 : Int))) ∧ (Con.pre (C83z fun x => (0 : Int)) ⟨⟨[(.int .i64 0), (.int .i64 0), (.int .i64 0), (.int .i64 0), (.int .i64 0), (.int .i64 0), (.int .i64 0)], []⟩, []⟩) ∧
R ⟨⟨[(.int .i64 0), (.int .i64 0)], [⟨((0 : Nat)), ((0 : Nat))⟩]⟩, [[]]⟩)))))) := by kernel_rfl
theorem z24wf (p : Int) (c : Nat) (R : Hx → Prop) : (vx.call 24 [hC p c, .bool false] (retN (rowT3 1 3) R) (m1v .dead) ((29, .val (.bool true)) :: (3, .val (.bool true)) :: (37, Hint.again) :: (28, Hint.again) :: (22, Hint.con (C83z fun x => (0 : Int))) :: [(58, Hint.tm (0 : Nat) [((1 : Nat), (24 : Nat))])])) =
(((((some (.bool (decide ((0 : Int) ≤ p))) : Option Value) = some (.bool true))) ∧
((((some (.bool (decide (p ≤ (3 : Int)))) : Option Value) = some (.bool true))) ∧
((((((2 : Nat) ≤ (2 : Nat))) ∧ (((.agg ⟨[(.int .i64 p), (.slice (.some ⟨0, 0, .none⟩) ((0 : Nat)) (c))]⟩) : Value) = (.agg ⟨[(.int .i64 p), (.slice (.some ⟨0, 0, .none⟩) ((0 : Nat)) (c))]⟩))) ∧ (((((2 : Nat) ≤ (2 : Nat))) ∧ (((.agg ⟨[(.int .i64 p), (.slice (.some ⟨0, 0, .none⟩) ((0 : Nat)) (c))]⟩) : Value) = (.agg ⟨[(.int .i64 p), (.slice (.some ⟨0, 0, .none⟩) ((0 : Nat)) (c))]⟩))) ∧ (True))) ∧
((((((2 : Nat) ≤ (2 : Nat))) ∧ (((.agg ⟨[(.int .i64 p), (.slice (.some ⟨0, 0, .none⟩) ((0 : Nat)) (c))]⟩) : Value) = (.agg ⟨[(.int .i64 p), (.slice (.some ⟨0, 0, .none⟩) ((0 : Nat)) (c))]⟩))) ∧ (True)) ∧
((ConOK Try.prog 83 (C83z fun x => (0 : Int))) ∧ (Con.pre (C83z fun x => (0 : Int)) ⟨⟨[(.int .i64 0), (.int .i64 0), (.int .i64 0), (.int .i64 0), (.int .i64 0), (.int .i64 0), (.int .i64 0)], []⟩, []⟩) ∧
R ⟨⟨[(.int .i64 0), (.int .i64 0)], [⟨((0 : Nat)), ((0 : Nat))⟩]⟩, [[]]⟩)))))) := by kernel_rfl
theorem z27nt (p : Int) (R : ARes → Prop) : (vx.call 27 [.agg ⟨[I p, nilS]⟩, nilS, .bool true] (retK R) ⟨.nil, 0⟩ ((36, .val (.bool true)) :: (3, .val (.bool true)) :: (61, Hint.again) :: (28, Hint.again) :: [])) =
(((((some (.bool (decide ((0 : Int) ≤ p))) : Option Value) = some (.bool true))) ∧
((((some (.bool (decide (p ≤ (3 : Int)))) : Option Value) = some (.bool true))) ∧
((((((2 : Nat) ≤ (2 : Nat))) ∧ (((.agg ⟨[(.int .i64 p), (.slice .none ((0 : Nat)) ((0 : Nat)))]⟩) : Value) = (.agg ⟨[(.int .i64 p), (.slice .none ((0 : Nat)) ((0 : Nat)))]⟩))) ∧ ((((some (.slice .none ((0 : Nat)) ((0 : Nat))) : Option Value) = some (.slice .none ((0 : Nat)) ((0 : Nat))))) ∧ (((((2 : Nat) ≤ (2 : Nat))) ∧ (((.agg ⟨[(.int .i64 p), (.slice .none ((0 : Nat)) ((0 : Nat)))]⟩) : Value) = (.agg ⟨[(.int .i64 p), (.slice .none ((0 : Nat)) ((0 : Nat)))]⟩))) ∧ (True)))) ∧
(((((some (.slice .none ((0 : Nat)) ((0 : Nat))) : Option Value) = some (.slice .none ((0 : Nat)) ((0 : Nat))))) ∧ (((((2 : Nat) ≤ (2 : Nat))) ∧ (((.agg ⟨[(.int .i64 p), (.slice .none ((0 : Nat)) ((0 : Nat)))]⟩) : Value) = (.agg ⟨[(.int .i64 p), (.slice .none ((0 : Nat)) ((0 : Nat)))]⟩))) ∧ (True))) ∧
R (.ret (.bool true))))))) := by kernel_rfl
theorem z27nf (p : Int) (R : ARes → Prop) : (vx.call 27 [.agg ⟨[I p, nilS]⟩, nilS, .bool false] (retK R) ⟨.nil, 0⟩ ((36, .val (.bool true)) :: (3, .val (.bool true)) :: (61, Hint.again) :: (28, Hint.again) :: [])) =
(((((some (.bool (decide ((0 : Int) ≤ p))) : Option Value) = some (.bool true))) ∧
((((some (.bool (decide (p ≤ (3 : Int)))) : Option Value) = some (.bool true))) ∧
((((((2 : Nat) ≤ (2 : Nat))) ∧ (((.agg ⟨[(.int .i64 p), (.slice .none ((0 : Nat)) ((0 : Nat)))]⟩) : Value) = (.agg ⟨[(.int .i64 p), (.slice .none ((0 : Nat)) ((0 : Nat)))]⟩))) ∧ ((((some (.slice .none ((0 : Nat)) ((0 : Nat))) : Option Value) = some (.slice .none ((0 : Nat)) ((0 : Nat))))) ∧ (((((2 : Nat) ≤ (2 : Nat))) ∧ (((.agg ⟨[(.int .i64 p), (.slice .none ((0 : Nat)) ((0 : Nat)))]⟩) : Value) = (.agg ⟨[(.int .i64 p), (.slice .none ((0 : Nat)) ((0 : Nat)))]⟩))) ∧ (True)))) ∧
(((((some (.slice .none ((0 : Nat)) ((0 : Nat))) : Option Value) = some (.slice .none ((0 : Nat)) ((0 : Nat))))) ∧ (((((2 : Nat) ≤ (2 : Nat))) ∧ (((.agg ⟨[(.int .i64 p), (.slice .none ((0 : Nat)) ((0 : Nat)))]⟩) : Value) = (.agg ⟨[(.int .i64 p), (.slice .none ((0 : Nat)) ((0 : Nat)))]⟩))) ∧ (True))) ∧
R (.ret (.bool true))))))) := by kernel_rfl
theorem z27wt (p : Int) (c : Nat) (R : ARes → Prop) : (vx.call 27 [hC p c, nilS, .bool true] (retK R) (m1v .dead) ((36, .val (.bool true)) :: (3, .val (.bool true)) :: (61, Hint.again) :: (28, Hint.again) :: [])) =
(((((some (.bool (decide ((0 : Int) ≤ p))) : Option Value) = some (.bool true))) ∧
((((some (.bool (decide (p ≤ (3 : Int)))) : Option Value) = some (.bool true))) ∧
((((((2 : Nat) ≤ (2 : Nat))) ∧ (((.agg ⟨[(.int .i64 p), (.slice (.some ⟨0, 0, .none⟩) ((0 : Nat)) (c))]⟩) : Value) = (.agg ⟨[(.int .i64 p), (.slice (.some ⟨0, 0, .none⟩) ((0 : Nat)) (c))]⟩))) ∧ ((((some (.slice .none ((0 : Nat)) ((0 : Nat))) : Option Value) = some (.slice .none ((0 : Nat)) ((0 : Nat))))) ∧ (((((2 : Nat) ≤ (2 : Nat))) ∧ (((.agg ⟨[(.int .i64 p), (.slice (.some ⟨0, 0, .none⟩) ((0 : Nat)) (c))]⟩) : Value) = (.agg ⟨[(.int .i64 p), (.slice (.some ⟨0, 0, .none⟩) ((0 : Nat)) (c))]⟩))) ∧ (True)))) ∧
(((((some (.slice .none ((0 : Nat)) ((0 : Nat))) : Option Value) = some (.slice .none ((0 : Nat)) ((0 : Nat))))) ∧ (((((2 : Nat) ≤ (2 : Nat))) ∧ (((.agg ⟨[(.int .i64 p), (.slice (.some ⟨0, 0, .none⟩) ((0 : Nat)) (c))]⟩) : Value) = (.agg ⟨[(.int .i64 p), (.slice (.some ⟨0, 0, .none⟩) ((0 : Nat)) (c))]⟩))) ∧ (True))) ∧
R (.ret (.bool true))))))) := by kernel_rfl
theorem z27wf (p : Int) (c : Nat) (R : ARes → Prop) : (vx.call 27 [hC p c, nilS, .bool false] (retK R) (m1v .dead) ((36, .val (.bool true)) :: (3, .val (.bool true)) :: (61, Hint.again) :: (28, Hint.again) :: [])) =
(((((some (.bool (decide ((0 : Int) ≤ p))) : Option Value) = some (.bool true))) ∧
((((some (.bool (decide (p ≤ (3 : Int)))) : Option Value) = some (.bool true))) ∧
((((((2 : Nat) ≤ (2 : Nat))) ∧ (((.agg ⟨[(.int .i64 p), (.slice (.some ⟨0, 0, .none⟩) ((0 : Nat)) (c))]⟩) : Value) = (.agg ⟨[(.int .i64 p), (.slice (.some ⟨0, 0, .none⟩) ((0 : Nat)) (c))]⟩))) ∧ ((((some (.slice .none ((0 : Nat)) ((0 : Nat))) : Option Value) = some (.slice .none ((0 : Nat)) ((0 : Nat))))) ∧ (((((2 : Nat) ≤ (2 : Nat))) ∧ (((.agg ⟨[(.int .i64 p), (.slice (.some ⟨0, 0, .none⟩) ((0 : Nat)) (c))]⟩) : Value) = (.agg ⟨[(.int .i64 p), (.slice (.some ⟨0, 0, .none⟩) ((0 : Nat)) (c))]⟩))) ∧ (True)))) ∧
(((((some (.slice .none ((0 : Nat)) ((0 : Nat))) : Option Value) = some (.slice .none ((0 : Nat)) ((0 : Nat))))) ∧ (((((2 : Nat) ≤ (2 : Nat))) ∧ (((.agg ⟨[(.int .i64 p), (.slice (.some ⟨0, 0, .none⟩) ((0 : Nat)) (c))]⟩) : Value) = (.agg ⟨[(.int .i64 p), (.slice (.some ⟨0, 0, .none⟩) ((0 : Nat)) (c))]⟩))) ∧ (True))) ∧
R (.ret (.bool true))))))) := by kernel_rfl
theorem z25nt (p : Int) (R : ARes → Prop) : (vx.call 25 [.agg ⟨[I p, nilS]⟩, .bool true] (retK R) ⟨.nil, 0⟩ ((28, .val (.bool true)) :: (3, .val (.bool true)) :: (37, Hint.again) :: (28, Hint.again) :: [])) =
(((((some (.bool (decide ((0 : Int) ≤ p))) : Option Value) = some (.bool true))) ∧
((((some (.bool (decide (p ≤ (3 : Int)))) : Option Value) = some (.bool true))) ∧
((((((2 : Nat) ≤ (2 : Nat))) ∧ (((.agg ⟨[(.int .i64 p), (.slice .none ((0 : Nat)) ((0 : Nat)))]⟩) : Value) = (.agg ⟨[(.int .i64 p), (.slice .none ((0 : Nat)) ((0 : Nat)))]⟩))) ∧ (((((2 : Nat) ≤ (2 : Nat))) ∧ (((.agg ⟨[(.int .i64 p), (.slice .none ((0 : Nat)) ((0 : Nat)))]⟩) : Value) = (.agg ⟨[(.int .i64 p), (.slice .none ((0 : Nat)) ((0 : Nat)))]⟩))) ∧ (True))) ∧
((((((2 : Nat) ≤ (2 : Nat))) ∧ (((.agg ⟨[(.int .i64 p), (.slice .none ((0 : Nat)) ((0 : Nat)))]⟩) : Value) = (.agg ⟨[(.int .i64 p), (.slice .none ((0 : Nat)) ((0 : Nat)))]⟩))) ∧ (True)) ∧
R (.ret (.tuple ⟨[(.int .i64 0), (.int .i64 0)]⟩))))))) := by kernel_rfl
theorem z25nf (p : Int) (R : ARes → Prop) : (vx.call 25 [.agg ⟨[I p, nilS]⟩, .bool false] (retK R) ⟨.nil, 0⟩ ((28, .val (.bool true)) :: (3, .val (.bool true)) :: (37, Hint.again) :: (28, Hint.again) :: [])) =
(((((some (.bool (decide ((0 : Int) ≤ p))) : Option Value) = some (.bool true))) ∧
((((some (.bool (decide (p ≤ (3 : Int)))) : Option Value) = some (.bool true))) ∧
((((((2 : Nat) ≤ (2 : Nat))) ∧ (((.agg ⟨[(.int .i64 p), (.slice .none ((0 : Nat)) ((0 : Nat)))]⟩) : Value) = (.agg ⟨[(.int .i64 p), (.slice .none ((0 : Nat)) ((0 : Nat)))]⟩))) ∧ (((((2 : Nat) ≤ (2 : Nat))) ∧ (((.agg ⟨[(.int .i64 p), (.slice .none ((0 : Nat)) ((0 : Nat)))]⟩) : Value) = (.agg ⟨[(.int .i64 p), (.slice .none ((0 : Nat)) ((0 : Nat)))]⟩))) ∧ (True))) ∧
((((((2 : Nat) ≤ (2 : Nat))) ∧ (((.agg ⟨[(.int .i64 p), (.slice .none ((0 : Nat)) ((0 : Nat)))]⟩) : Value) = (.agg ⟨[(.int .i64 p), (.slice .none ((0 : Nat)) ((0 : Nat)))]⟩))) ∧ (True)) ∧
R (.ret (.tuple ⟨[(.int .i64 0), (.int .i64 0)]⟩))))))) := by kernel_rfl
theorem z25wt (p : Int) (c : Nat) (R : ARes → Prop) : (vx.call 25 [hC p c, .bool true] (retK R) (m1v .dead) ((28, .val (.bool true)) :: (3, .val (.bool true)) :: (37, Hint.again) :: (28, Hint.again) :: [])) =
(((((some (.bool (decide ((0 : Int) ≤ p))) : Option Value) = some (.bool true))) ∧
((((some (.bool (decide (p ≤ (3 : Int)))) : Option Value) = some (.bool true))) ∧
((((((2 : Nat) ≤ (2 : Nat))) ∧ (((.agg ⟨[(.int .i64 p), (.slice (.some ⟨0, 0, .none⟩) ((0 : Nat)) (c))]⟩) : Value) = (.agg ⟨[(.int .i64 p), (.slice (.some ⟨0, 0, .none⟩) ((0 : Nat)) (c))]⟩))) ∧ (((((2 : Nat) ≤ (2 : Nat))) ∧ (((.agg ⟨[(.int .i64 p), (.slice (.some ⟨0, 0, .none⟩) ((0 : Nat)) (c))]⟩) : Value) = (.agg ⟨[(.int .i64 p), (.slice (.some ⟨0, 0, .none⟩) ((0 : Nat)) (c))]⟩))) ∧ (True))) ∧
((((((2 : Nat) ≤ (2 : Nat))) ∧ (((.agg ⟨[(.int .i64 p), (.slice (.some ⟨0, 0, .none⟩) ((0 : Nat)) (c))]⟩) : Value) = (.agg ⟨[(.int .i64 p), (.slice (.some ⟨0, 0, .none⟩) ((0 : Nat)) (c))]⟩))) ∧ (True)) ∧
R (.ret (.tuple ⟨[(.int .i64 0), (.int .i64 0)]⟩))))))) := by kernel_rfl
theorem z25wf (p : Int) (c : Nat) (R : ARes → Prop) : (vx.call 25 [hC p c, .bool false] (retK R) (m1v .dead) ((28, .val (.bool true)) :: (3, .val (.bool true)) :: (37, Hint.again) :: (28, Hint.again) :: [])) =
(((((some (.bool (decide ((0 : Int) ≤ p))) : Option Value) = some (.bool true))) ∧
((((some (.bool (decide (p ≤ (3 : Int)))) : Option Value) = some (.bool true))) ∧
((((((2 : Nat) ≤ (2 : Nat))) ∧ (((.agg ⟨[(.int .i64 p), (.slice (.some ⟨0, 0, .none⟩) ((0 : Nat)) (c))]⟩) : Value) = (.agg ⟨[(.int .i64 p), (.slice (.some ⟨0, 0, .none⟩) ((0 : Nat)) (c))]⟩))) ∧ (((((2 : Nat) ≤ (2 : Nat))) ∧ (((.agg ⟨[(.int .i64 p), (.slice (.some ⟨0, 0, .none⟩) ((0 : Nat)) (c))]⟩) : Value) = (.agg ⟨[(.int .i64 p), (.slice (.some ⟨0, 0, .none⟩) ((0 : Nat)) (c))]⟩))) ∧ (True))) ∧
((((((2 : Nat) ≤ (2 : Nat))) ∧ (((.agg ⟨[(.int .i64 p), (.slice (.some ⟨0, 0, .none⟩) ((0 : Nat)) (c))]⟩) : Value) = (.agg ⟨[(.int .i64 p), (.slice (.some ⟨0, 0, .none⟩) ((0 : Nat)) (c))]⟩))) ∧ (True)) ∧
R (.ret (.tuple ⟨[(.int .i64 0), (.int .i64 0)]⟩))))))) := by kernel_rfl
theorem z27mt (p : Int) (R : ARes → Prop) : (vx.call 27 [.agg ⟨[I p, nilS]⟩, slV 0 0 0, .bool true] (retK R) (m1v .dead) ((36, .val (.bool true)) :: (3, .val (.bool true)) :: (61, Hint.again) :: (28, Hint.again) :: [])) =
(((((some (.bool (decide ((0 : Int) ≤ p))) : Option Value) = some (.bool true))) ∧
((((some (.bool (decide (p ≤ (3 : Int)))) : Option Value) = some (.bool true))) ∧
((((((2 : Nat) ≤ (2 : Nat))) ∧ (((.agg ⟨[(.int .i64 p), (.slice .none ((0 : Nat)) ((0 : Nat)))]⟩) : Value) = (.agg ⟨[(.int .i64 p), (.slice .none ((0 : Nat)) ((0 : Nat)))]⟩))) ∧ ((((some (.slice (.some ⟨0, 0, .none⟩) ((0 : Nat)) ((0 : Nat))) : Option Value) = some (.slice (.some ⟨0, 0, .none⟩) ((0 : Nat)) ((0 : Nat))))) ∧ (((((2 : Nat) ≤ (2 : Nat))) ∧ (((.agg ⟨[(.int .i64 p), (.slice .none ((0 : Nat)) ((0 : Nat)))]⟩) : Value) = (.agg ⟨[(.int .i64 p), (.slice .none ((0 : Nat)) ((0 : Nat)))]⟩))) ∧ (True)))) ∧
(((((some (.slice (.some ⟨0, 0, .none⟩) ((0 : Nat)) ((0 : Nat))) : Option Value) = some (.slice (.some ⟨0, 0, .none⟩) ((0 : Nat)) ((0 : Nat))))) ∧ (((((2 : Nat) ≤ (2 : Nat))) ∧ (((.agg ⟨[(.int .i64 p), (.slice .none ((0 : Nat)) ((0 : Nat)))]⟩) : Value) = (.agg ⟨[(.int .i64 p), (.slice .none ((0 : Nat)) ((0 : Nat)))]⟩))) ∧ (True))) ∧
R (.ret (.bool true))))))) := by kernel_rfl
theorem z27mf (p : Int) (R : ARes → Prop) : (vx.call 27 [.agg ⟨[I p, nilS]⟩, slV 0 0 0, .bool false] (retK R) (m1v .dead) ((36, .val (.bool true)) :: (3, .val (.bool true)) :: (61, Hint.again) :: (28, Hint.again) :: [])) =
(((((some (.bool (decide ((0 : Int) ≤ p))) : Option Value) = some (.bool true))) ∧
((((some (.bool (decide (p ≤ (3 : Int)))) : Option Value) = some (.bool true))) ∧
((((((2 : Nat) ≤ (2 : Nat))) ∧ (((.agg ⟨[(.int .i64 p), (.slice .none ((0 : Nat)) ((0 : Nat)))]⟩) : Value) = (.agg ⟨[(.int .i64 p), (.slice .none ((0 : Nat)) ((0 : Nat)))]⟩))) ∧ ((((some (.slice (.some ⟨0, 0, .none⟩) ((0 : Nat)) ((0 : Nat))) : Option Value) = some (.slice (.some ⟨0, 0, .none⟩) ((0 : Nat)) ((0 : Nat))))) ∧ (((((2 : Nat) ≤ (2 : Nat))) ∧ (((.agg ⟨[(.int .i64 p), (.slice .none ((0 : Nat)) ((0 : Nat)))]⟩) : Value) = (.agg ⟨[(.int .i64 p), (.slice .none ((0 : Nat)) ((0 : Nat)))]⟩))) ∧ (True)))) ∧
(((((some (.slice (.some ⟨0, 0, .none⟩) ((0 : Nat)) ((0 : Nat))) : Option Value) = some (.slice (.some ⟨0, 0, .none⟩) ((0 : Nat)) ((0 : Nat))))) ∧ (((((2 : Nat) ≤ (2 : Nat))) ∧ (((.agg ⟨[(.int .i64 p), (.slice .none ((0 : Nat)) ((0 : Nat)))]⟩) : Value) = (.agg ⟨[(.int .i64 p), (.slice .none ((0 : Nat)) ((0 : Nat)))]⟩))) ∧ (True))) ∧
R (.ret (.bool true))))))) := by kernel_rfl
theorem z19n (p m : Int) (R : ARes → Prop) : (vx.call 19 [.agg ⟨[I p, nilS]⟩, I m] (retK R) ⟨.nil, 0⟩ ((28, .val (.bool true)) :: (3, .val (.bool true)) :: [(35, .split ([(3, .split ((29, Hint.again) :: []) ([]))]) ([]))])) =
(((((some (.bool (decide ((0 : Int) ≤ p))) : Option Value) = some (.bool true))) ∧
((((some (.bool (decide (p ≤ (3 : Int)))) : Option Value) = some (.bool true))) ∧
(((decide ((0 : Int) ≤ m)) = true → (((decide (m ≤ (220 : Int))) = true → (((((some (.int .i64 m) : Option Value) = some (.int .i64 m))) ∧ (((((2 : Nat) ≤ (2 : Nat))) ∧ (((.agg ⟨[(.int .i64 p), (.slice .none ((0 : Nat)) ((0 : Nat)))]⟩) : Value) = (.agg ⟨[(.int .i64 p), (.slice .none ((0 : Nat)) ((0 : Nat)))]⟩))) ∧ (True))) ∧
R (.ret (.tuple ⟨[(.agg ⟨[(.int .i64 0), (.int .i64 0)]⟩), (.int .i64 0)]⟩)))) ∧
((decide (m ≤ (220 : Int))) = false → R (.ret (.tuple ⟨[(.agg ⟨[(.int .i64 0), (.int .i64 0)]⟩), (.int .i64 2)]⟩))))) ∧
((decide ((0 : Int) ≤ m)) = false → R (.ret (.tuple ⟨[(.agg ⟨[(.int .i64 0), (.int .i64 0)]⟩), (.int .i64 2)]⟩))))))) := by kernel_rfl
theorem z19w (p m : Int) (c : Nat) (R : ARes → Prop) : (vx.call 19 [hC p c, I m] (retK R) (m1v .dead) ((28, .val (.bool true)) :: (3, .val (.bool true)) :: [(35, .split ([(3, .split ((29, Hint.again) :: []) ([]))]) ([]))])) =
(((((some (.bool (decide ((0 : Int) ≤ p))) : Option Value) = some (.bool true))) ∧
((((some (.bool (decide (p ≤ (3 : Int)))) : Option Value) = some (.bool true))) ∧
(((decide ((0 : Int) ≤ m)) = true → (((decide (m ≤ (220 : Int))) = true → (((((some (.int .i64 m) : Option Value) = some (.int .i64 m))) ∧ (((((2 : Nat) ≤ (2 : Nat))) ∧ (((.agg ⟨[(.int .i64 p), (.slice (.some ⟨0, 0, .none⟩) ((0 : Nat)) (c))]⟩) : Value) = (.agg ⟨[(.int .i64 p), (.slice (.some ⟨0, 0, .none⟩) ((0 : Nat)) (c))]⟩))) ∧ (True))) ∧
R (.ret (.tuple ⟨[(.agg ⟨[(.int .i64 0), (.int .i64 0)]⟩), (.int .i64 0)]⟩)))) ∧
((decide (m ≤ (220 : Int))) = false → R (.ret (.tuple ⟨[(.agg ⟨[(.int .i64 0), (.int .i64 0)]⟩), (.int .i64 2)]⟩))))) ∧
((decide ((0 : Int) ≤ m)) = false → R (.ret (.tuple ⟨[(.agg ⟨[(.int .i64 0), (.int .i64 0)]⟩), (.int .i64 2)]⟩))))))) := by kernel_rfl
theorem y10nt (p nu be : Int) (w : Value) (b0 b1 : XB) (R : ARes → Prop) : (vx.call 10 [.agg ⟨[I p, nilS]⟩, w, .bool true, .int .u8 nu] (retK R) (m2v b0 b1) ((31, .val (.bool true)) :: (3, .val (.bool true)) :: (65, Hint.conN (C24n true p)) :: (9, Hint.conN (C24n true p)) :: (9, Hint.con (C25n true p)) :: (7, Hint.con (C25n true p)) :: (10, Hint.con (C23n true p ((IntKind.i64.wrap nu).tmod (8 : Int)))) :: (10, Hint.con (C23n true p ((IntKind.i64.wrap nu).tmod (8 : Int)))) :: (8, Hint.con (C19n p (IntKind.i64.wrap nu) be)) :: (9, Hint.con (C19n p (IntKind.i64.wrap nu) be)) :: (33, Hint.con (C29 (0 : Nat))) :: (0, Hint.con (C29 (0 : Nat))) :: (20, Hint.con (C29 (0 : Nat))) :: (0, Hint.con (C29 (0 : Nat))) :: (10, .val (.bool false)) :: (8, Hint.con (C27n true p)) :: (0, Hint.again) :: (0, Hint.con (C27m true p)) :: (20, Hint.conN (C24n true p)) :: (38, Hint.con C12) :: [])) =
(((((some (.bool (decide ((0 : Int) ≤ p))) : Option Value) = some (.bool true))) ∧
((((some (.bool (decide (p ≤ (3 : Int)))) : Option Value) = some (.bool true))) ∧
((ConNOK Try.prog 24 (C24n true p)) ∧ (ConN.pre (C24n true p) ⟨⟨[(.int .i64 p), (.bool true)], []⟩, []⟩) ∧
((ConNOK Try.prog 24 (C24n true p)) ∧ (ConN.pre (C24n true p) ⟨⟨[(.int .i64 p), (.bool true)], []⟩, []⟩) ∧
((ConOK Try.prog 25 (C25n true p)) ∧ (Con.pre (C25n true p) ⟨⟨[(.int .i64 p), (.bool true)], []⟩, []⟩) ∧
((ConOK Try.prog 25 (C25n true p)) ∧ (Con.pre (C25n true p) ⟨⟨[(.int .i64 p), (.bool true)], []⟩, []⟩) ∧
((ConOK Try.prog 23 (C23n true p ((IntKind.i64.wrap nu).tmod (OfNat.ofNat (8 : Nat))))) ∧ (Con.pre (C23n true p ((IntKind.i64.wrap nu).tmod (OfNat.ofNat (8 : Nat)))) ⟨⟨[(.int .i64 p), (.int .i64 ((IntKind.i64.wrap nu).tmod (8 : Int))), (.bool true)], []⟩, []⟩) ∧
((ConOK Try.prog 23 (C23n true p ((IntKind.i64.wrap nu).tmod (OfNat.ofNat (8 : Nat))))) ∧ (Con.pre (C23n true p ((IntKind.i64.wrap nu).tmod (OfNat.ofNat (8 : Nat)))) ⟨⟨[(.int .i64 p), (.int .i64 ((IntKind.i64.wrap nu).tmod (8 : Int))), (.bool true)], []⟩, []⟩) ∧
((ConOK Try.prog 19 (C19n p (IntKind.i64.wrap nu) be)) ∧ (Con.pre (C19n p (IntKind.i64.wrap nu) be) ⟨⟨[(.int .i64 p), (.int .i64 (IntKind.i64.wrap nu))], []⟩, []⟩) ∧
((ConOK Try.prog 19 (C19n p (IntKind.i64.wrap nu) be)) ∧ (Con.pre (C19n p (IntKind.i64.wrap nu) be) ⟨⟨[(.int .i64 p), (.int .i64 (IntKind.i64.wrap nu))], []⟩, []⟩) ∧
((ConOK Try.prog 29 (C29 (0 : Nat))) ∧ (Con.pre (C29 (0 : Nat)) ⟨⟨[(.int .i64 0)], []⟩, []⟩) ∧
((ConOK Try.prog 29 (C29 (0 : Nat))) ∧ (Con.pre (C29 (0 : Nat)) ⟨⟨[(.int .i64 0)], []⟩, []⟩) ∧
((ConOK Try.prog 29 (C29 (0 : Nat))) ∧ (Con.pre (C29 (0 : Nat)) ⟨⟨[(.int .i64 0)], []⟩, []⟩) ∧
((ConOK Try.prog 29 (C29 (0 : Nat))) ∧ (Con.pre (C29 (0 : Nat)) ⟨⟨[(.int .i64 0)], []⟩, []⟩) ∧
((((some (.bool (be != be)) : Option Value) = some (.bool false))) ∧
((ConOK Try.prog 27 (C27n true p)) ∧ (Con.pre (C27n true p) ⟨⟨[(.int .i64 p), (.bool true)], []⟩, []⟩) ∧
((((((2 : Nat) ≤ (2 : Nat))) ∧ (((.agg ⟨[(.int .i64 p), (.slice .none ((0 : Nat)) ((0 : Nat)))]⟩) : Value) = (.agg ⟨[(.int .i64 p), (.slice .none ((0 : Nat)) ((0 : Nat)))]⟩))) ∧ (True)) ∧
((ConOK Try.prog 27 (C27m true p)) ∧ (Con.pre (C27m true p) ⟨⟨[(.int .i64 p), (.bool true)], [⟨((0 : Nat)), ((0 : Nat))⟩]⟩, []⟩) ∧
((ConNOK Try.prog 24 (C24n true p)) ∧ (ConN.pre (C24n true p) ⟨⟨[(.int .i64 p), (.bool true)], []⟩, []⟩) ∧
((ConOK Try.prog 12 (C12)) ∧ (Con.pre (C12) ⟨⟨[], []⟩, []⟩) ∧
R (.ret (.bool true))))))))))))))))))))))) := by kernel_rfl
theorem y10nf (p nu be : Int) (w : Value) (b0 b1 : XB) (R : ARes → Prop) : (vx.call 10 [.agg ⟨[I p, nilS]⟩, w, .bool false, .int .u8 nu] (retK R) (m2v b0 b1) ((31, .val (.bool true)) :: (3, .val (.bool true)) :: (65, Hint.conN (C24n false p)) :: (9, Hint.conN (C24n false p)) :: (9, Hint.con (C25n false p)) :: (7, Hint.con (C25n false p)) :: (10, Hint.con (C23n false p ((IntKind.i64.wrap nu).tmod (8 : Int)))) :: (10, Hint.con (C23n false p ((IntKind.i64.wrap nu).tmod (8 : Int)))) :: (8, Hint.con (C19n p (IntKind.i64.wrap nu) be)) :: (9, Hint.con (C19n p (IntKind.i64.wrap nu) be)) :: (33, Hint.con (C29 (0 : Nat))) :: (0, Hint.con (C29 (0 : Nat))) :: (20, Hint.con (C29 (0 : Nat))) :: (0, Hint.con (C29 (0 : Nat))) :: (10, .val (.bool false)) :: (8, Hint.con (C27n false p)) :: (0, Hint.again) :: (0, Hint.con (C27m false p)) :: (20, Hint.conN (C24n false p)) :: (38, Hint.con C12) :: [])) =
(((((some (.bool (decide ((0 : Int) ≤ p))) : Option Value) = some (.bool true))) ∧
((((some (.bool (decide (p ≤ (3 : Int)))) : Option Value) = some (.bool true))) ∧
((ConNOK Try.prog 24 (C24n false p)) ∧ (ConN.pre (C24n false p) ⟨⟨[(.int .i64 p), (.bool false)], []⟩, []⟩) ∧
((ConNOK Try.prog 24 (C24n false p)) ∧ (ConN.pre (C24n false p) ⟨⟨[(.int .i64 p), (.bool false)], []⟩, []⟩) ∧
((ConOK Try.prog 25 (C25n false p)) ∧ (Con.pre (C25n false p) ⟨⟨[(.int .i64 p), (.bool false)], []⟩, []⟩) ∧
((ConOK Try.prog 25 (C25n false p)) ∧ (Con.pre (C25n false p) ⟨⟨[(.int .i64 p), (.bool false)], []⟩, []⟩) ∧
((ConOK Try.prog 23 (C23n false p ((IntKind.i64.wrap nu).tmod (OfNat.ofNat (8 : Nat))))) ∧ (Con.pre (C23n false p ((IntKind.i64.wrap nu).tmod (OfNat.ofNat (8 : Nat)))) ⟨⟨[(.int .i64 p), (.int .i64 ((IntKind.i64.wrap nu).tmod (8 : Int))), (.bool false)], []⟩, []⟩) ∧
((ConOK Try.prog 23 (C23n false p ((IntKind.i64.wrap nu).tmod (OfNat.ofNat (8 : Nat))))) ∧ (Con.pre (C23n false p ((IntKind.i64.wrap nu).tmod (OfNat.ofNat (8 : Nat)))) ⟨⟨[(.int .i64 p), (.int .i64 ((IntKind.i64.wrap nu).tmod (8 : Int))), (.bool false)], []⟩, []⟩) ∧
((ConOK Try.prog 19 (C19n p (IntKind.i64.wrap nu) be)) ∧ (Con.pre (C19n p (IntKind.i64.wrap nu) be) ⟨⟨[(.int .i64 p), (.int .i64 (IntKind.i64.wrap nu))], []⟩, []⟩) ∧
((ConOK Try.prog 19 (C19n p (IntKind.i64.wrap nu) be)) ∧ (Con.pre (C19n p (IntKind.i64.wrap nu) be) ⟨⟨[(.int .i64 p), (.int .i64 (IntKind.i64.wrap nu))], []⟩, []⟩) ∧
((ConOK Try.prog 29 (C29 (0 : Nat))) ∧ (Con.pre (C29 (0 : Nat)) ⟨⟨[(.int .i64 0)], []⟩, []⟩) ∧
((ConOK Try.prog 29 (C29 (0 : Nat))) ∧ (Con.pre (C29 (0 : Nat)) ⟨⟨[(.int .i64 0)], []⟩, []⟩) ∧
((ConOK Try.prog 29 (C29 (0 : Nat))) ∧ (Con.pre (C29 (0 : Nat)) ⟨⟨[(.int .i64 0)], []⟩, []⟩) ∧
((ConOK Try.prog 29 (C29 (0 : Nat))) ∧ (Con.pre (C29 (0 : Nat)) ⟨⟨[(.int .i64 0)], []⟩, []⟩) ∧
((((some (.bool (be != be)) : Option Value) = some (.bool false))) ∧
((ConOK Try.prog 27 (C27n false p)) ∧ (Con.pre (C27n false p) ⟨⟨[(.int .i64 p), (.bool false)], []⟩, []⟩) ∧
((((((2 : Nat) ≤ (2 : Nat))) ∧ (((.agg ⟨[(.int .i64 p), (.slice .none ((0 : Nat)) ((0 : Nat)))]⟩) : Value) = (.agg ⟨[(.int .i64 p), (.slice .none ((0 : Nat)) ((0 : Nat)))]⟩))) ∧ (True)) ∧
((ConOK Try.prog 27 (C27m false p)) ∧ (Con.pre (C27m false p) ⟨⟨[(.int .i64 p), (.bool false)], [⟨((0 : Nat)), ((0 : Nat))⟩]⟩, []⟩) ∧
((ConNOK Try.prog 24 (C24n false p)) ∧ (ConN.pre (C24n false p) ⟨⟨[(.int .i64 p), (.bool false)], []⟩, []⟩) ∧
((ConOK Try.prog 12 (C12)) ∧ (Con.pre (C12) ⟨⟨[], []⟩, []⟩) ∧
R (.ret (.bool true))))))))))))))))))))))) := by kernel_rfl
theorem y10wt (p nu be : Int) (c : Nat) (w : Value) (b1 : XB) (R : ARes → Prop) : (vx.call 10 [hC p c, w, .bool true, .int .u8 nu] (retK R) (m2v .dead b1) ((31, .val (.bool true)) :: (3, .val (.bool true)) :: (65, Hint.conN (C24w true p c)) :: (9, Hint.conN (C24n true p)) :: (9, Hint.con (C25w true p c)) :: (7, Hint.con (C25n true p)) :: (10, Hint.con (C23w true p ((IntKind.i64.wrap nu).tmod (8 : Int)) c)) :: (10, Hint.con (C23n true p ((IntKind.i64.wrap nu).tmod (8 : Int)))) :: (8, Hint.con (C19w p (IntKind.i64.wrap nu) be c)) :: (9, Hint.con (C19n p (IntKind.i64.wrap nu) be)) :: (33, Hint.con (C29 (0 : Nat))) :: (0, Hint.con (C29 (0 : Nat))) :: (20, Hint.con (C29 (0 : Nat))) :: (0, Hint.con (C29 (0 : Nat))) :: (10, .val (.bool false)) :: (8, Hint.con (C27w true p c)) :: (0, Hint.again) :: (0, Hint.con (C27m true p)) :: (20, Hint.conN (C24w true p c)) :: (38, Hint.con C12) :: [])) =
(((((some (.bool (decide ((0 : Int) ≤ p))) : Option Value) = some (.bool true))) ∧
((((some (.bool (decide (p ≤ (3 : Int)))) : Option Value) = some (.bool true))) ∧
((ConNOK Try.prog 24 (C24w true p c)) ∧ (ConN.pre (C24w true p c) ⟨⟨[(.int .i64 p), (.bool true)], [⟨0, c⟩]⟩, []⟩) ∧
((ConNOK Try.prog 24 (C24n true p)) ∧ (ConN.pre (C24n true p) ⟨⟨[(.int .i64 p), (.bool true)], []⟩, []⟩) ∧
((ConOK Try.prog 25 (C25w true p c)) ∧ (Con.pre (C25w true p c) ⟨⟨[(.int .i64 p), (.bool true)], [⟨0, c⟩]⟩, []⟩) ∧
((ConOK Try.prog 25 (C25n true p)) ∧ (Con.pre (C25n true p) ⟨⟨[(.int .i64 p), (.bool true)], []⟩, []⟩) ∧
((ConOK Try.prog 23 (C23w true p ((IntKind.i64.wrap nu).tmod (OfNat.ofNat (8 : Nat))) c)) ∧ (Con.pre (C23w true p ((IntKind.i64.wrap nu).tmod (OfNat.ofNat (8 : Nat))) c) ⟨⟨[(.int .i64 p), (.int .i64 ((IntKind.i64.wrap nu).tmod (8 : Int))), (.bool true)], [⟨0, c⟩]⟩, []⟩) ∧
((ConOK Try.prog 23 (C23n true p ((IntKind.i64.wrap nu).tmod (OfNat.ofNat (8 : Nat))))) ∧ (Con.pre (C23n true p ((IntKind.i64.wrap nu).tmod (OfNat.ofNat (8 : Nat)))) ⟨⟨[(.int .i64 p), (.int .i64 ((IntKind.i64.wrap nu).tmod (8 : Int))), (.bool true)], []⟩, []⟩) ∧
((ConOK Try.prog 19 (C19w p (IntKind.i64.wrap nu) be c)) ∧ (Con.pre (C19w p (IntKind.i64.wrap nu) be c) ⟨⟨[(.int .i64 p), (.int .i64 (IntKind.i64.wrap nu))], [⟨0, c⟩]⟩, []⟩) ∧
((ConOK Try.prog 19 (C19n p (IntKind.i64.wrap nu) be)) ∧ (Con.pre (C19n p (IntKind.i64.wrap nu) be) ⟨⟨[(.int .i64 p), (.int .i64 (IntKind.i64.wrap nu))], []⟩, []⟩) ∧
((ConOK Try.prog 29 (C29 (0 : Nat))) ∧ (Con.pre (C29 (0 : Nat)) ⟨⟨[(.int .i64 0)], []⟩, []⟩) ∧
((ConOK Try.prog 29 (C29 (0 : Nat))) ∧ (Con.pre (C29 (0 : Nat)) ⟨⟨[(.int .i64 0)], []⟩, []⟩) ∧
((ConOK Try.prog 29 (C29 (0 : Nat))) ∧ (Con.pre (C29 (0 : Nat)) ⟨⟨[(.int .i64 0)], []⟩, []⟩) ∧
((ConOK Try.prog 29 (C29 (0 : Nat))) ∧ (Con.pre (C29 (0 : Nat)) ⟨⟨[(.int .i64 0)], []⟩, []⟩) ∧
((((some (.bool (be != be)) : Option Value) = some (.bool false))) ∧
((ConOK Try.prog 27 (C27w true p c)) ∧ (Con.pre (C27w true p c) ⟨⟨[(.int .i64 p), (.bool true)], [⟨0, c⟩]⟩, []⟩) ∧
((((((2 : Nat) ≤ (2 : Nat))) ∧ (((.agg ⟨[(.int .i64 p), (.slice .none ((0 : Nat)) ((0 : Nat)))]⟩) : Value) = (.agg ⟨[(.int .i64 p), (.slice .none ((0 : Nat)) ((0 : Nat)))]⟩))) ∧ (True)) ∧
((ConOK Try.prog 27 (C27m true p)) ∧ (Con.pre (C27m true p) ⟨⟨[(.int .i64 p), (.bool true)], [⟨((0 : Nat)), ((0 : Nat))⟩]⟩, []⟩) ∧
((ConNOK Try.prog 24 (C24w true p c)) ∧ (ConN.pre (C24w true p c) ⟨⟨[(.int .i64 p), (.bool true)], [⟨0, c⟩]⟩, []⟩) ∧
((ConOK Try.prog 12 (C12)) ∧ (Con.pre (C12) ⟨⟨[], []⟩, []⟩) ∧
R (.ret (.bool true))))))))))))))))))))))) := by kernel_rfl
theorem y10wf (p nu be : Int) (c : Nat) (w : Value) (b1 : XB) (R : ARes → Prop) : (vx.call 10 [hC p c, w, .bool false, .int .u8 nu] (retK R) (m2v .dead b1) ((31, .val (.bool true)) :: (3, .val (.bool true)) :: (65, Hint.conN (C24w false p c)) :: (9, Hint.conN (C24n false p)) :: (9, Hint.con (C25w false p c)) :: (7, Hint.con (C25n false p)) :: (10, Hint.con (C23w false p ((IntKind.i64.wrap nu).tmod (8 : Int)) c)) :: (10, Hint.con (C23n false p ((IntKind.i64.wrap nu).tmod (8 : Int)))) :: (8, Hint.con (C19w p (IntKind.i64.wrap nu) be c)) :: (9, Hint.con (C19n p (IntKind.i64.wrap nu) be)) :: (33, Hint.con (C29 (0 : Nat))) :: (0, Hint.con (C29 (0 : Nat))) :: (20, Hint.con (C29 (0 : Nat))) :: (0, Hint.con (C29 (0 : Nat))) :: (10, .val (.bool false)) :: (8, Hint.con (C27w false p c)) :: (0, Hint.again) :: (0, Hint.con (C27m false p)) :: (20, Hint.conN (C24w false p c)) :: (38, Hint.con C12) :: [])) =
(((((some (.bool (decide ((0 : Int) ≤ p))) : Option Value) = some (.bool true))) ∧
((((some (.bool (decide (p ≤ (3 : Int)))) : Option Value) = some (.bool true))) ∧
((ConNOK Try.prog 24 (C24w false p c)) ∧ (ConN.pre (C24w false p c) ⟨⟨[(.int .i64 p), (.bool false)], [⟨0, c⟩]⟩, []⟩) ∧
((ConNOK Try.prog 24 (C24n false p)) ∧ (ConN.pre (C24n false p) ⟨⟨[(.int .i64 p), (.bool false)], []⟩, []⟩) ∧
((ConOK Try.prog 25 (C25w false p c)) ∧ (Con.pre (C25w false p c) ⟨⟨[(.int .i64 p), (.bool false)], [⟨0, c⟩]⟩, []⟩) ∧
((ConOK Try.prog 25 (C25n false p)) ∧ (Con.pre (C25n false p) ⟨⟨[(.int .i64 p), (.bool false)], []⟩, []⟩) ∧
((ConOK Try.prog 23 (C23w false p ((IntKind.i64.wrap nu).tmod (OfNat.ofNat (8 : Nat))) c)) ∧ (Con.pre (C23w false p ((IntKind.i64.wrap nu).tmod (OfNat.ofNat (8 : Nat))) c) ⟨⟨[(.int .i64 p), (.int .i64 ((IntKind.i64.wrap nu).tmod (8 : Int))), (.bool false)], [⟨0, c⟩]⟩, []⟩) ∧
((ConOK Try.prog 23 (C23n false p ((IntKind.i64.wrap nu).tmod (OfNat.ofNat (8 : Nat))))) ∧ (Con.pre (C23n false p ((IntKind.i64.wrap nu).tmod (OfNat.ofNat (8 : Nat)))) ⟨⟨[(.int .i64 p), (.int .i64 ((IntKind.i64.wrap nu).tmod (8 : Int))), (.bool false)], []⟩, []⟩) ∧
((ConOK Try.prog 19 (C19w p (IntKind.i64.wrap nu) be c)) ∧ (Con.pre (C19w p (IntKind.i64.wrap nu) be c) ⟨⟨[(.int .i64 p), (.int .i64 (IntKind.i64.wrap nu))], [⟨0, c⟩]⟩, []⟩) ∧
((ConOK Try.prog 19 (C19n p (IntKind.i64.wrap nu) be)) ∧ (Con.pre (C19n p (IntKind.i64.wrap nu) be) ⟨⟨[(.int .i64 p), (.int .i64 (IntKind.i64.wrap nu))], []⟩, []⟩) ∧
((ConOK Try.prog 29 (C29 (0 : Nat))) ∧ (Con.pre (C29 (0 : Nat)) ⟨⟨[(.int .i64 0)], []⟩, []⟩) ∧
((ConOK Try.prog 29 (C29 (0 : Nat))) ∧ (Con.pre (C29 (0 : Nat)) ⟨⟨[(.int .i64 0)], []⟩, []⟩) ∧
((ConOK Try.prog 29 (C29 (0 : Nat))) ∧ (Con.pre (C29 (0 : Nat)) ⟨⟨[(.int .i64 0)], []⟩, []⟩) ∧
((ConOK Try.prog 29 (C29 (0 : Nat))) ∧ (Con.pre (C29 (0 : Nat)) ⟨⟨[(.int .i64 0)], []⟩, []⟩) ∧
((((some (.bool (be != be)) : Option Value) = some (.bool false))) ∧
((ConOK Try.prog 27 (C27w false p c)) ∧ (Con.pre (C27w false p c) ⟨⟨[(.int .i64 p), (.bool false)], [⟨0, c⟩]⟩, []⟩) ∧
((((((2 : Nat) ≤ (2 : Nat))) ∧ (((.agg ⟨[(.int .i64 p), (.slice .none ((0 : Nat)) ((0 : Nat)))]⟩) : Value) = (.agg ⟨[(.int .i64 p), (.slice .none ((0 : Nat)) ((0 : Nat)))]⟩))) ∧ (True)) ∧
((ConOK Try.prog 27 (C27m false p)) ∧ (Con.pre (C27m false p) ⟨⟨[(.int .i64 p), (.bool false)], [⟨((0 : Nat)), ((0 : Nat))⟩]⟩, []⟩) ∧
((ConNOK Try.prog 24 (C24w false p c)) ∧ (ConN.pre (C24w false p c) ⟨⟨[(.int .i64 p), (.bool false)], [⟨0, c⟩]⟩, []⟩) ∧
((ConOK Try.prog 12 (C12)) ∧ (Con.pre (C12) ⟨⟨[], []⟩, []⟩) ∧
R (.ret (.bool true))))))))))))))))))))))) := by kernel_rfl
theorem y10nx1 (p nu : Int) (sure : Bool) (w : Value) (b0 b1 : XB) (R : ARes → Prop) : (vx.call 10 [.agg ⟨[I p, nilS]⟩, w, .bool sure, .int .u8 nu] (retK R) (m2v b0 b1) ((31, .val (.bool false)) :: (12, Hint.con C12) :: [])) =
(((((some (.bool (decide ((0 : Int) ≤ p))) : Option Value) = some (.bool false))) ∧
((ConOK Try.prog 12 (C12)) ∧ (Con.pre (C12) ⟨⟨[], []⟩, []⟩) ∧
R (.ret (.bool true))))) := by kernel_rfl
theorem y10nx2 (p nu : Int) (sure : Bool) (w : Value) (b0 b1 : XB) (R : ARes → Prop) : (vx.call 10 [.agg ⟨[I p, nilS]⟩, w, .bool sure, .int .u8 nu] (retK R) (m2v b0 b1) ((31, .val (.bool true)) :: (3, .val (.bool false)) :: (11, Hint.con C12) :: [])) =
(((((some (.bool (decide ((0 : Int) ≤ p))) : Option Value) = some (.bool true))) ∧
((((some (.bool (decide (p ≤ (3 : Int)))) : Option Value) = some (.bool false))) ∧
((ConOK Try.prog 12 (C12)) ∧ (Con.pre (C12) ⟨⟨[], []⟩, []⟩) ∧
R (.ret (.bool true)))))) := by kernel_rfl
theorem y10wx1 (p nu : Int) (c : Nat) (sure : Bool) (w : Value) (b0 b1 : XB) (R : ARes → Prop) : (vx.call 10 [hC p c, w, .bool sure, .int .u8 nu] (retK R) (m2v b0 b1) ((31, .val (.bool false)) :: (12, Hint.con C12) :: [])) =
(((((some (.bool (decide ((0 : Int) ≤ p))) : Option Value) = some (.bool false))) ∧
((ConOK Try.prog 12 (C12)) ∧ (Con.pre (C12) ⟨⟨[], []⟩, []⟩) ∧
R (.ret (.bool true))))) := by kernel_rfl
theorem y10wx2 (p nu : Int) (c : Nat) (sure : Bool) (w : Value) (b0 b1 : XB) (R : ARes → Prop) : (vx.call 10 [hC p c, w, .bool sure, .int .u8 nu] (retK R) (m2v b0 b1) ((31, .val (.bool true)) :: (3, .val (.bool false)) :: (11, Hint.con C12) :: [])) =
(((((some (.bool (decide ((0 : Int) ≤ p))) : Option Value) = some (.bool true))) ∧
((((some (.bool (decide (p ≤ (3 : Int)))) : Option Value) = some (.bool false))) ∧
((ConOK Try.prog 12 (C12)) ∧ (Con.pre (C12) ⟨⟨[], []⟩, []⟩) ∧
R (.ret (.bool true)))))) := by kernel_rfl
section
variable {p mz : Int} {c : Nat}
theorem C23w_ok (sure : Bool) (h0 : 0 ≤ p) (h3 : p ≤ 3) (m0 : 0 ≤ mz) (m7 : mz ≤ 7) : ConOK Try.prog 23 (C23w sure p mz c) := by
  have e0 : decide (0 ≤ p) = true := decide_eq_true h0
  have e3 : decide (p ≤ 3) = true := decide_eq_true h3
  have f0 : decide (0 ≤ mz) = true := decide_eq_true m0
  have f7 : decide (mz ≤ 7) = true := decide_eq_true m7
  refine con_of vx_sound _ (fun y hy => ?_) rfl (fun y _ => rfl) (fun y hy => ?_) rfl (Nat.le_of_ble_eq_true rfl) (by rw [nglob]; exact Nat.zero_le _)
  · cases hy
    cases sure
    · refine ⟨_, (z23wf p mz c _).mpr ?_⟩
      simp only [e0, e3, f0, f7, every_0]
      repeat' (first | with_reducible apply And.intro | with_reducible intro)
      all_goals first | exact trivial | rfl | exact Nat.le_refl _
    · refine ⟨_, (z23wt p mz c _).mpr ?_⟩
      simp only [e0, e3, f0, f7, every_0]
      repeat' (first | with_reducible apply And.intro | with_reducible intro)
      all_goals first | exact trivial | rfl | exact Nat.le_refl _
  · cases hy
    intro cs hcs
    cases hcs
theorem C27n_ok (sure : Bool) (h0 : 0 ≤ p) (h3 : p ≤ 3) : ConOK Try.prog 27 (C27n sure p) := by
  have e0 : decide (0 ≤ p) = true := decide_eq_true h0
  have e3 : decide (p ≤ 3) = true := decide_eq_true h3
  refine con_of vx_sound _ (fun y hy => ?_) rfl (fun y _ => rfl) (fun y hy => ?_) rfl (Nat.le_of_ble_eq_true rfl) (by rw [nglob]; exact Nat.zero_le _)
  · cases hy
    cases sure
    · refine ⟨_, (z27nf p _).mpr ?_⟩
      simp only [e0, e3]
      repeat' (first | with_reducible apply And.intro | with_reducible intro)
      all_goals first | exact trivial | rfl | exact Nat.le_refl _
    · refine ⟨_, (z27nt p _).mpr ?_⟩
      simp only [e0, e3]
      repeat' (first | with_reducible apply And.intro | with_reducible intro)
      all_goals first | exact trivial | rfl | exact Nat.le_refl _
  · cases hy
    intro cs hcs
    cases hcs
theorem C27w_ok (sure : Bool) (h0 : 0 ≤ p) (h3 : p ≤ 3) : ConOK Try.prog 27 (C27w sure p c) := by
  have e0 : decide (0 ≤ p) = true := decide_eq_true h0
  have e3 : decide (p ≤ 3) = true := decide_eq_true h3
  refine con_of vx_sound _ (fun y hy => ?_) rfl (fun y _ => rfl) (fun y hy => ?_) rfl (Nat.le_of_ble_eq_true rfl) (by rw [nglob]; exact Nat.zero_le _)
  · cases hy
    cases sure
    · refine ⟨_, (z27wf p c _).mpr ?_⟩
      simp only [e0, e3]
      repeat' (first | with_reducible apply And.intro | with_reducible intro)
      all_goals first | exact trivial | rfl | exact Nat.le_refl _
    · refine ⟨_, (z27wt p c _).mpr ?_⟩
      simp only [e0, e3]
      repeat' (first | with_reducible apply And.intro | with_reducible intro)
      all_goals first | exact trivial | rfl | exact Nat.le_refl _
  · cases hy
    intro cs hcs
    cases hcs
theorem C24w_ok (sure : Bool) (h0 : 0 ≤ p) (h3 : p ≤ 3) : ConNOK Try.prog 24 (C24w sure p c) := by
  refine conRow3_of rfl vx_sound (C := C24w sure p c) (n := 0) (cells := []) (e := 3) (y0 := 0) (z := 0) ⟨⟨[I p, .bool sure], [(0, c)]⟩, []⟩ (fun x => Iff.rfl) rfl rfl rfl ?_ (fun cs h => (by cases h)) (fun v hv => by cases hv) rfl (Nat.le_of_ble_eq_true rfl) (by rw [nglob]; exact Nat.zero_le _)
  have e0 : decide (0 ≤ p) = true := decide_eq_true h0
  have e3 : decide (p ≤ 3) = true := decide_eq_true h3
  cases sure
  · refine ⟨_, (z24wf p c _).mpr ?_⟩
    simp only [e0, e3]
    repeat' (first | with_reducible apply And.intro | with_reducible intro)
    all_goals first | exact C83z_ok | exact trivial | rfl | exact Nat.le_refl _ | omega
  · refine ⟨_, (z24wt p c _).mpr ?_⟩
    simp only [e0, e3]
    repeat' (first | with_reducible apply And.intro | with_reducible intro)
    all_goals first | exact C83z_ok | exact trivial | rfl | exact Nat.le_refl _ | omega
theorem C25n_ok (sure : Bool) (h0 : 0 ≤ p) (h3 : p ≤ 3) : ConOK Try.prog 25 (C25n sure p) := by
  have e0 : decide (0 ≤ p) = true := decide_eq_true h0
  have e3 : decide (p ≤ 3) = true := decide_eq_true h3
  refine con_of vx_sound _ (fun y hy => ?_) rfl (fun y _ => rfl) (fun y hy => ?_) rfl (Nat.le_of_ble_eq_true rfl) (by rw [nglob]; exact Nat.zero_le _)
  · cases hy
    cases sure
    · refine ⟨_, (z25nf p _).mpr ?_⟩
      simp only [e0, e3]
      repeat' (first | with_reducible apply And.intro | with_reducible intro)
      all_goals first | exact trivial | rfl | exact Nat.le_refl _
    · refine ⟨_, (z25nt p _).mpr ?_⟩
      simp only [e0, e3]
      repeat' (first | with_reducible apply And.intro | with_reducible intro)
      all_goals first | exact trivial | rfl | exact Nat.le_refl _
  · cases hy
    intro cs hcs
    cases hcs
theorem C25w_ok (sure : Bool) (h0 : 0 ≤ p) (h3 : p ≤ 3) : ConOK Try.prog 25 (C25w sure p c) := by
  have e0 : decide (0 ≤ p) = true := decide_eq_true h0
  have e3 : decide (p ≤ 3) = true := decide_eq_true h3
  refine con_of vx_sound _ (fun y hy => ?_) rfl (fun y _ => rfl) (fun y hy => ?_) rfl (Nat.le_of_ble_eq_true rfl) (by rw [nglob]; exact Nat.zero_le _)
  · cases hy
    cases sure
    · refine ⟨_, (z25wf p c _).mpr ?_⟩
      simp only [e0, e3]
      repeat' (first | with_reducible apply And.intro | with_reducible intro)
      all_goals first | exact trivial | rfl | exact Nat.le_refl _
    · refine ⟨_, (z25wt p c _).mpr ?_⟩
      simp only [e0, e3]
      repeat' (first | with_reducible apply And.intro | with_reducible intro)
      all_goals first | exact trivial | rfl | exact Nat.le_refl _
  · cases hy
    intro cs hcs
    cases hcs
theorem C27m_ok (sure : Bool) (h0 : 0 ≤ p) (h3 : p ≤ 3) : ConOK Try.prog 27 (C27m sure p) := by
  have e0 : decide (0 ≤ p) = true := decide_eq_true h0
  have e3 : decide (p ≤ 3) = true := decide_eq_true h3
  refine con_of vx_sound _ (fun y hy => ?_) rfl (fun y _ => rfl) (fun y hy => ?_) rfl (Nat.le_of_ble_eq_true rfl) (by rw [nglob]; exact Nat.zero_le _)
  · cases hy
    cases sure
    · refine ⟨_, (z27mf p _).mpr ?_⟩
      simp only [e0, e3]
      repeat' (first | with_reducible apply And.intro | with_reducible intro)
      all_goals first | exact trivial | rfl | exact Nat.le_refl _
    · refine ⟨_, (z27mt p _).mpr ?_⟩
      simp only [e0, e3]
      repeat' (first | with_reducible apply And.intro | with_reducible intro)
      all_goals first | exact trivial | rfl | exact Nat.le_refl _
  · cases hy
    intro cs hcs
    cases hcs
theorem C19n_ok {m : Int} (h0 : 0 ≤ p) (h3 : p ≤ 3) (m0 : 0 ≤ m) : ConOK Try.prog 19 (C19n p m (if m ≤ 220 then 0 else 2)) := by
  have e0 : decide (0 ≤ p) = true := decide_eq_true h0
  have e3 : decide (p ≤ 3) = true := decide_eq_true h3
  refine con_of vx_sound _ (fun y hy => ?_) rfl (fun y _ => rfl) (fun y hy => ?_) rfl (Nat.le_of_ble_eq_true rfl) (by rw [nglob]; exact Nat.zero_le _)
  · cases hy
    refine ⟨_, (z19n p m _).mpr ⟨by rw [e0], by rw [e3], fun _ => ⟨fun h => ⟨⟨rfl, ⟨Nat.le_refl _, rfl⟩, trivial⟩, ?_⟩, fun h => ?_⟩, fun h => absurd m0 (of_decide_eq_false h)⟩⟩
    · show ARes.ret _ = ARes.ret _
      rw [if_pos (of_decide_eq_true h)]
      rfl
    · show ARes.ret _ = ARes.ret _
      rw [if_neg (of_decide_eq_false h)]
      rfl
  · cases hy
    intro cs hcs
    cases hcs
theorem C19w_ok {m : Int} (h0 : 0 ≤ p) (h3 : p ≤ 3) (m0 : 0 ≤ m) : ConOK Try.prog 19 (C19w p m (if m ≤ 220 then 0 else 2) c) := by
  have e0 : decide (0 ≤ p) = true := decide_eq_true h0
  have e3 : decide (p ≤ 3) = true := decide_eq_true h3
  refine con_of vx_sound _ (fun y hy => ?_) rfl (fun y _ => rfl) (fun y hy => ?_) rfl (Nat.le_of_ble_eq_true rfl) (by rw [nglob]; exact Nat.zero_le _)
  · cases hy
    refine ⟨_, (z19w p m c _).mpr ⟨by rw [e0], by rw [e3], fun _ => ⟨fun h => ⟨⟨rfl, ⟨Nat.le_refl _, rfl⟩, trivial⟩, ?_⟩, fun h => ?_⟩, fun h => absurd m0 (of_decide_eq_false h)⟩⟩
    · show ARes.ret _ = ARes.ret _
      rw [if_pos (of_decide_eq_true h)]
      rfl
    · show ARes.ret _ = ARes.ret _
      rw [if_neg (of_decide_eq_false h)]
      rfl
  · cases hy
    intro cs hcs
    cases hcs
end
theorem law10nt (p nu : Int) (w : Value) (b0 b1 : XB) (hnu : 0 ≤ nu ∧ nu < 256) :
    ∃ hs, vx.call 10 [.agg ⟨[I p, nilS]⟩, w, .bool true, .int .u8 nu] (retK fun r => r = .ret (.bool true)) (m2v b0 b1) hs := by
  have h29 := C29_ok (show 0 < 128 by omega)
  obtain ⟨z, rfl⟩ := Int.eq_ofNat_of_zero_le hnu.1
  have ez : IntKind.i64.wrap (z : Int) = (z : Int) := wrapI (by omega) (by omega)
  have ew : (IntKind.i64.wrap (z : Int)).tmod (8 : Int) = ((z % 8 : Nat) : Int) := by rw [ez]; rfl
  have hlt : z % 8 < 8 := Nat.mod_lt z (by omega)
  have m0 : 0 ≤ (IntKind.i64.wrap (z : Int)).tmod (8 : Int) := by rw [ew]; omega
  have m7 : (IntKind.i64.wrap (z : Int)).tmod (8 : Int) ≤ 7 := by rw [ew]; omega
  have z0 : 0 ≤ IntKind.i64.wrap (z : Int) := by rw [ez]; omega
  have key : ∀ R : ARes → Prop, R (.ret (.bool true)) → ∃ hs, vx.call 10 [.agg ⟨[I p, nilS]⟩, w, .bool true, .int .u8 (z : Int)] (retK R) (m2v b0 b1) hs := by
    intro R hR
    by_cases h0 : 0 ≤ p
    · have e0 : decide (0 ≤ p) = true := decide_eq_true h0
      by_cases h3 : p ≤ 3
      · have e3 : decide (p ≤ 3) = true := decide_eq_true h3
        have t0 : (some (.bool (decide (0 ≤ p))) : Option Value) = some (.bool true) := by rw [e0]
        have t3 : (some (.bool (decide (p ≤ 3))) : Option Value) = some (.bool true) := by rw [e3]
        have a2 := C24n_ok true h0 h3
        have b2' := C25n_ok true h0 h3
        have c2 := C23n_ok true h0 h3 m0 m7
        have d2 := C19n_ok h0 h3 z0
        have r2 := C27m_ok true h0 h3
        have a1 := C24n_ok true h0 h3
        have b1' := C25n_ok true h0 h3
        have c1 := C23n_ok true h0 h3 m0 m7
        have d1 := C19n_ok h0 h3 z0
        have r1 := C27n_ok true h0 h3
        have te : (some (.bool ((if IntKind.i64.wrap (z : Int) ≤ 220 then (0 : Int) else 2) != (if IntKind.i64.wrap (z : Int) ≤ 220 then (0 : Int) else 2))) : Option Value) = some (.bool false) := by simp
        refine ⟨_, (y10nt p z (if IntKind.i64.wrap (z : Int) ≤ 220 then 0 else 2) w b0 b1 R).mpr ?_⟩
        exact ⟨t0, t3, a1, rfl, a2, rfl, b1', rfl, b2', rfl, c1, rfl, c2, rfl, d1, rfl, d2, rfl, h29, rfl, h29, rfl, h29, rfl, h29, rfl, te, r1, rfl, ⟨⟨Nat.le_refl _, rfl⟩, trivial⟩, r2, rfl, a1, rfl, C12_ok, rfl, hR⟩
      · have e3 : decide (p ≤ 3) = false := decide_eq_false h3
        exact ⟨_, (y10nx2 p z true w b0 b1 R).mpr ⟨by rw [e0], by rw [e3], C12_ok, rfl, hR⟩⟩
    · have e0 : decide (0 ≤ p) = false := decide_eq_false h0
      exact ⟨_, (y10nx1 p z true w b0 b1 R).mpr ⟨by rw [e0], C12_ok, rfl, hR⟩⟩
  exact key _ rfl
theorem law10nf (p nu : Int) (w : Value) (b0 b1 : XB) (hnu : 0 ≤ nu ∧ nu < 256) :
    ∃ hs, vx.call 10 [.agg ⟨[I p, nilS]⟩, w, .bool false, .int .u8 nu] (retK fun r => r = .ret (.bool true)) (m2v b0 b1) hs := by
  have h29 := C29_ok (show 0 < 128 by omega)
  obtain ⟨z, rfl⟩ := Int.eq_ofNat_of_zero_le hnu.1
  have ez : IntKind.i64.wrap (z : Int) = (z : Int) := wrapI (by omega) (by omega)
  have ew : (IntKind.i64.wrap (z : Int)).tmod (8 : Int) = ((z % 8 : Nat) : Int) := by rw [ez]; rfl
  have hlt : z % 8 < 8 := Nat.mod_lt z (by omega)
  have m0 : 0 ≤ (IntKind.i64.wrap (z : Int)).tmod (8 : Int) := by rw [ew]; omega
  have m7 : (IntKind.i64.wrap (z : Int)).tmod (8 : Int) ≤ 7 := by rw [ew]; omega
  have z0 : 0 ≤ IntKind.i64.wrap (z : Int) := by rw [ez]; omega
  have key : ∀ R : ARes → Prop, R (.ret (.bool true)) → ∃ hs, vx.call 10 [.agg ⟨[I p, nilS]⟩, w, .bool false, .int .u8 (z : Int)] (retK R) (m2v b0 b1) hs := by
    intro R hR
    by_cases h0 : 0 ≤ p
    · have e0 : decide (0 ≤ p) = true := decide_eq_true h0
      by_cases h3 : p ≤ 3
      · have e3 : decide (p ≤ 3) = true := decide_eq_true h3
        have t0 : (some (.bool (decide (0 ≤ p))) : Option Value) = some (.bool true) := by rw [e0]
        have t3 : (some (.bool (decide (p ≤ 3))) : Option Value) = some (.bool true) := by rw [e3]
        have a2 := C24n_ok false h0 h3
        have b2' := C25n_ok false h0 h3
        have c2 := C23n_ok false h0 h3 m0 m7
        have d2 := C19n_ok h0 h3 z0
        have r2 := C27m_ok false h0 h3
        have a1 := C24n_ok false h0 h3
        have b1' := C25n_ok false h0 h3
        have c1 := C23n_ok false h0 h3 m0 m7
        have d1 := C19n_ok h0 h3 z0
        have r1 := C27n_ok false h0 h3
        have te : (some (.bool ((if IntKind.i64.wrap (z : Int) ≤ 220 then (0 : Int) else 2) != (if IntKind.i64.wrap (z : Int) ≤ 220 then (0 : Int) else 2))) : Option Value) = some (.bool false) := by simp
        refine ⟨_, (y10nf p z (if IntKind.i64.wrap (z : Int) ≤ 220 then 0 else 2) w b0 b1 R).mpr ?_⟩
        exact ⟨t0, t3, a1, rfl, a2, rfl, b1', rfl, b2', rfl, c1, rfl, c2, rfl, d1, rfl, d2, rfl, h29, rfl, h29, rfl, h29, rfl, h29, rfl, te, r1, rfl, ⟨⟨Nat.le_refl _, rfl⟩, trivial⟩, r2, rfl, a1, rfl, C12_ok, rfl, hR⟩
      · have e3 : decide (p ≤ 3) = false := decide_eq_false h3
        exact ⟨_, (y10nx2 p z false w b0 b1 R).mpr ⟨by rw [e0], by rw [e3], C12_ok, rfl, hR⟩⟩
    · have e0 : decide (0 ≤ p) = false := decide_eq_false h0
      exact ⟨_, (y10nx1 p z false w b0 b1 R).mpr ⟨by rw [e0], C12_ok, rfl, hR⟩⟩
  exact key _ rfl
theorem law10wt (p nu : Int) (c : Nat) (w : Value) (b1 : XB) (hnu : 0 ≤ nu ∧ nu < 256) :
    ∃ hs, vx.call 10 [hC p c, w, .bool true, .int .u8 nu] (retK fun r => r = .ret (.bool true)) (m2v .dead b1) hs := by
  have h29 := C29_ok (show 0 < 128 by omega)
  obtain ⟨z, rfl⟩ := Int.eq_ofNat_of_zero_le hnu.1
  have ez : IntKind.i64.wrap (z : Int) = (z : Int) := wrapI (by omega) (by omega)
  have ew : (IntKind.i64.wrap (z : Int)).tmod (8 : Int) = ((z % 8 : Nat) : Int) := by rw [ez]; rfl
  have hlt : z % 8 < 8 := Nat.mod_lt z (by omega)
  have m0 : 0 ≤ (IntKind.i64.wrap (z : Int)).tmod (8 : Int) := by rw [ew]; omega
  have m7 : (IntKind.i64.wrap (z : Int)).tmod (8 : Int) ≤ 7 := by rw [ew]; omega
  have z0 : 0 ≤ IntKind.i64.wrap (z : Int) := by rw [ez]; omega
  have key : ∀ R : ARes → Prop, R (.ret (.bool true)) → ∃ hs, vx.call 10 [hC p c, w, .bool true, .int .u8 (z : Int)] (retK R) (m2v .dead b1) hs := by
    intro R hR
    by_cases h0 : 0 ≤ p
    · have e0 : decide (0 ≤ p) = true := decide_eq_true h0
      by_cases h3 : p ≤ 3
      · have e3 : decide (p ≤ 3) = true := decide_eq_true h3
        have t0 : (some (.bool (decide (0 ≤ p))) : Option Value) = some (.bool true) := by rw [e0]
        have t3 : (some (.bool (decide (p ≤ 3))) : Option Value) = some (.bool true) := by rw [e3]
        have a2 := C24n_ok true h0 h3
        have b2' := C25n_ok true h0 h3
        have c2 := C23n_ok true h0 h3 m0 m7
        have d2 := C19n_ok h0 h3 z0
        have r2 := C27m_ok true h0 h3
        have a1 := C24w_ok (c := c) true h0 h3
        have b1' := C25w_ok (c := c) true h0 h3
        have c1 := C23w_ok (c := c) true h0 h3 m0 m7
        have d1 := C19w_ok (c := c) h0 h3 z0
        have r1 := C27w_ok (c := c) true h0 h3
        have te : (some (.bool ((if IntKind.i64.wrap (z : Int) ≤ 220 then (0 : Int) else 2) != (if IntKind.i64.wrap (z : Int) ≤ 220 then (0 : Int) else 2))) : Option Value) = some (.bool false) := by simp
        refine ⟨_, (y10wt p z (if IntKind.i64.wrap (z : Int) ≤ 220 then 0 else 2) c w b1 R).mpr ?_⟩
        exact ⟨t0, t3, a1, rfl, a2, rfl, b1', rfl, b2', rfl, c1, rfl, c2, rfl, d1, rfl, d2, rfl, h29, rfl, h29, rfl, h29, rfl, h29, rfl, te, r1, rfl, ⟨⟨Nat.le_refl _, rfl⟩, trivial⟩, r2, rfl, a1, rfl, C12_ok, rfl, hR⟩
      · have e3 : decide (p ≤ 3) = false := decide_eq_false h3
        exact ⟨_, (y10wx2 p z c true w .dead b1 R).mpr ⟨by rw [e0], by rw [e3], C12_ok, rfl, hR⟩⟩
    · have e0 : decide (0 ≤ p) = false := decide_eq_false h0
      exact ⟨_, (y10wx1 p z c true w .dead b1 R).mpr ⟨by rw [e0], C12_ok, rfl, hR⟩⟩
  exact key _ rfl
theorem law10wf (p nu : Int) (c : Nat) (w : Value) (b1 : XB) (hnu : 0 ≤ nu ∧ nu < 256) :
    ∃ hs, vx.call 10 [hC p c, w, .bool false, .int .u8 nu] (retK fun r => r = .ret (.bool true)) (m2v .dead b1) hs := by
  have h29 := C29_ok (show 0 < 128 by omega)
  obtain ⟨z, rfl⟩ := Int.eq_ofNat_of_zero_le hnu.1
  have ez : IntKind.i64.wrap (z : Int) = (z : Int) := wrapI (by omega) (by omega)
  have ew : (IntKind.i64.wrap (z : Int)).tmod (8 : Int) = ((z % 8 : Nat) : Int) := by rw [ez]; rfl
  have hlt : z % 8 < 8 := Nat.mod_lt z (by omega)
  have m0 : 0 ≤ (IntKind.i64.wrap (z : Int)).tmod (8 : Int) := by rw [ew]; omega
  have m7 : (IntKind.i64.wrap (z : Int)).tmod (8 : Int) ≤ 7 := by rw [ew]; omega
  have z0 : 0 ≤ IntKind.i64.wrap (z : Int) := by rw [ez]; omega
  have key : ∀ R : ARes → Prop, R (.ret (.bool true)) → ∃ hs, vx.call 10 [hC p c, w, .bool false, .int .u8 (z : Int)] (retK R) (m2v .dead b1) hs := by
    intro R hR
    by_cases h0 : 0 ≤ p
    · have e0 : decide (0 ≤ p) = true := decide_eq_true h0
      by_cases h3 : p ≤ 3
      · have e3 : decide (p ≤ 3) = true := decide_eq_true h3
        have t0 : (some (.bool (decide (0 ≤ p))) : Option Value) = some (.bool true) := by rw [e0]
        have t3 : (some (.bool (decide (p ≤ 3))) : Option Value) = some (.bool true) := by rw [e3]
        have a2 := C24n_ok false h0 h3
        have b2' := C25n_ok false h0 h3
        have c2 := C23n_ok false h0 h3 m0 m7
        have d2 := C19n_ok h0 h3 z0
        have r2 := C27m_ok false h0 h3
        have a1 := C24w_ok (c := c) false h0 h3
        have b1' := C25w_ok (c := c) false h0 h3
        have c1 := C23w_ok (c := c) false h0 h3 m0 m7
        have d1 := C19w_ok (c := c) h0 h3 z0
        have r1 := C27w_ok (c := c) false h0 h3
        have te : (some (.bool ((if IntKind.i64.wrap (z : Int) ≤ 220 then (0 : Int) else 2) != (if IntKind.i64.wrap (z : Int) ≤ 220 then (0 : Int) else 2))) : Option Value) = some (.bool false) := by simp
        refine ⟨_, (y10wf p z (if IntKind.i64.wrap (z : Int) ≤ 220 then 0 else 2) c w b1 R).mpr ?_⟩
        exact ⟨t0, t3, a1, rfl, a2, rfl, b1', rfl, b2', rfl, c1, rfl, c2, rfl, d1, rfl, d2, rfl, h29, rfl, h29, rfl, h29, rfl, h29, rfl, te, r1, rfl, ⟨⟨Nat.le_refl _, rfl⟩, trivial⟩, r2, rfl, a1, rfl, C12_ok, rfl, hR⟩
      · have e3 : decide (p ≤ 3) = false := decide_eq_false h3
        exact ⟨_, (y10wx2 p z c false w .dead b1 R).mpr ⟨by rw [e0], by rw [e3], C12_ok, rfl, hR⟩⟩
    · have e0 : decide (0 ≤ p) = false := decide_eq_false h0
      exact ⟨_, (y10wx1 p z c false w .dead b1 R).mpr ⟨by rw [e0], C12_ok, rfl, hR⟩⟩
  exact key _ rfl
theorem law10n (p : Int) (s : Bool) (nu : Int) (w : Value) (b0 b1 : XB) (hnu : 0 ≤ nu ∧ nu < 256) :
    ∃ hs, vx.call 10 [.agg ⟨[I p, nilS]⟩, w, .bool s, .int .u8 nu] (retK fun r => r = .ret (.bool true)) (m2v b0 b1) hs := by
  cases s
  · exact law10nf p nu w b0 b1 hnu
  · exact law10nt p nu w b0 b1 hnu
theorem law10w (p : Int) (s : Bool) (nu : Int) (c : Nat) (w : Value) (b1 : XB) (hnu : 0 ≤ nu ∧ nu < 256) :
    ∃ hs, vx.call 10 [hC p c, w, .bool s, .int .u8 nu] (retK fun r => r = .ret (.bool true)) (m2v .dead b1) hs := by
  cases s
  · exact law10wf p nu c w b1 hnu
  · exact law10wt p nu c w b1 hnu
theorem law10any (p : Int) (s : Bool) (nu : Int) (n c k d : Nat) (f : Nat → Mv) (bs : Nat → Int) (hb : ∀ i, i < k → 0 ≤ bs i ∧ bs i < 256) (hnu : 0 ≤ nu ∧ nu < 256) (h0 : 0 < n) :
    ∃ hs, vx.call 10 [hV p n c, slV 1 k d, .bool s, .int .u8 nu] (retK fun r => r = .ret (.bool true)) (m2b (mvs n f) (u8s k bs)) hs := by
  by_cases hfar : 40 < n
  · exact ⟨_, (x10 p nu n c k d s f bs _).mpr ⟨fun _ => ⟨C12_ok, rfl, rfl⟩, fun h => absurd (of_decide_eq_false h) (by intro hh; apply hh; split <;> omega)⟩⟩
  cases hok : okH p n f with
  | false =>
    have hwhen : ConOK Try.prog 21 ((C21 p n c f).when (.ret (.bool false))) := con_when (C21_ok p n c f (by omega)) _
    have hr : (C21 p n c f).res ⟨⟨[I p], [(n, c)]⟩, [mvs n f]⟩ = .ret (.bool false) := by show ARes.ret (.bool (okH p n f)) = _; rw [hok]
    exact ⟨_, (x10 p nu n c k d s f bs _).mpr ⟨fun _ => ⟨C12_ok, rfl, rfl⟩, fun _ => ⟨hwhen, ⟨rfl, hr⟩, C12_ok, rfl, rfl⟩⟩⟩
  | true =>
    cases s
    · exact law10f p nu n c k d f bs hb hnu h0 hok
    · exact law10t p nu n c k d f bs hb hnu h0 hok
theorem law10anyz (p : Int) (s : Bool) (nu : Int) (n c : Nat) (f : Nat → Mv) (hnu : 0 ≤ nu ∧ nu < 256) (h0 : 0 < n) :
    ∃ hs, vx.call 10 [hV p n c, nilS, .bool s, .int .u8 nu] (retK fun r => r = .ret (.bool true)) (m2n (mvs n f)) hs := by
  by_cases hfar : 40 < n
  · exact ⟨_, (x10z p nu n c s f _).mpr ⟨fun _ => ⟨C12_ok, rfl, rfl⟩, fun h => absurd (of_decide_eq_false h) (by intro hh; apply hh; split <;> omega)⟩⟩
  cases hok : okH p n f with
  | false =>
    have hwhen : ConOK Try.prog 21 ((C21 p n c f).when (.ret (.bool false))) := con_when (C21_ok p n c f (by omega)) _
    have hr : (C21 p n c f).res ⟨⟨[I p], [(n, c)]⟩, [mvs n f]⟩ = .ret (.bool false) := by show ARes.ret (.bool (okH p n f)) = _; rw [hok]
    exact ⟨_, (x10z p nu n c s f _).mpr ⟨fun _ => ⟨C12_ok, rfl, rfl⟩, fun _ => ⟨hwhen, ⟨rfl, hr⟩, C12_ok, rfl, rfl⟩⟩⟩
  | true =>
    cases s
    · exact law10fz p nu n c f hnu h0 hok
    · exact law10tz p nu n c f hnu h0 hok
end Go.Ab
set_option maxRecDepth 100000
namespace Go.Ab
open Go Go.RowKit Go.Proofs Go.ChangeShapes Go.WideShapes Go.Deep
theorem cells5 : Try.prog.cellsOf 5 = 1 := by kernel_rfl
theorem cells33 : Try.prog.cellsOf 33 = 4 := by kernel_rfl
theorem cells24 : Try.prog.cellsOf 24 = 2 := by kernel_rfl
theorem cell_block {W : World} {a : Addr} {i : Nat} {v : Value} (h : W.cell? (a.add i) = some v) : ∃ c t fr, W.heap[a.block]? = some (.cells c t fr) ∧ c[a.off + i]? = some v ∧ (i = 0 → a.spot = none) := by
  unfold World.cell? Addr.add at h
  by_cases h0 : i = 0
  · subst h0
    rw [if_pos rfl] at h
    split at h
    · rename_i c t fr hc
      split at h
      · cases h
      · rename_i hs
        exact ⟨c, t, fr, hc, h, fun _ => by cases hsp : a.spot with
          | none => rfl
          | some x => rw [hsp] at hs; exact absurd rfl hs⟩
    · cases h
  · rw [if_neg h0] at h
    split at h
    · rename_i c t fr hc
      exact ⟨c, t, fr, hc, h, fun h1 => absurd h1 h0⟩
    · cases h
theorem wf_u8 {n : Int} (h : (Lit.int .u8 n).wf = true) : 0 ≤ n ∧ n < 256 := by
  simp only [Lit.wf, Bool.and_eq_true, decide_eq_true_eq] at h
  have h1 : IntKind.min .u8 ≤ n := h.1
  have h2 : n ≤ IntKind.max .u8 := h.2
  have e1 : IntKind.min .u8 = 0 := by decide
  have e2 : IntKind.max .u8 = 255 := by decide
  omega
def SlAt (W : World) (v : Value) (n : Nat) (cs : List Value) (e : TypeId) : Prop :=
  ∃ (b o cap : Nat), v = .slice (some ⟨b, o, none⟩) n cap ∧ n ≤ cap ∧ RoHolds W (⟨b, o, 0⟩, some (cs, e))
section
variable {H : Type} {enc : TypeId × Value → H} {W : World}
theorem bytes_in {fuel : Nat} {v : Value} {x : DataW H × List MemPlace} (h : DataW.trod enc Try.prog W 0 (fun _ => true) true fuel 25 [v] = some x) :
    v = .slice none 0 0 ∨ (∃ a, v = .slice (some a) 0 0) ∨ ∃ (n : Nat) (f : Nat → Int), (∀ i, i < n → 0 ≤ f i ∧ f i < 256) ∧ SlAt W v n (u8s n f) 2 := by
  rcases open_slice1 Try.underlying25 cells5 h with ⟨h0, _⟩ | ⟨a, len, cap, m, n, V, D, Pl, hv, _, hl, _, hm, _, hx⟩
  · exact Or.inl (List.cons.inj h0).1
  right
  obtain rfl := (List.cons.inj hv).1
  have hm : m = cap := by simpa using hm
  subst hm
  rcases Nat.eq_zero_or_pos m with h0 | h0
  · subst h0
    obtain rfl : len = 0 := by omega
    exact Or.inl ⟨a, rfl⟩
  · right
    have each : ∀ i, i < m → ∃ z : Int, V i = U8 z ∧ 0 ≤ z ∧ z < 256 := by
      intro i hi
      obtain ⟨z, h1, _, h3⟩ := DataW.trod_int Try.underlying5 (hx i hi).2
      exact ⟨z, (List.cons.inj h1).1, wf_u8 h3⟩
    obtain ⟨f, hf⟩ := choose_lt (α := Int) each
    obtain ⟨c, t, fr, hc, _, hsp⟩ := cell_block (hx 0 h0).1
    have hsp := hsp rfl
    refine ⟨len, f, fun i hi => (hf i (by omega)).2, a.block, a.off, m, ?_, hl, c, t, fr, hc, ?_⟩
    · obtain ⟨b, o, s⟩ := a
      cases hsp
      rfl
    · intro j v hj
      have hjl : j < len := by
        have := (List.getElem?_eq_some_iff.1 hj).1
        have e := flatC_len (n := len) (k := 1) (g := fun i => [U8 (f i)]) (fun _ _ => rfl)
        unfold u8s at this
        omega
      have e := flatC_get (n := len) (k := 1) (g := fun i => [U8 (f i)]) (fun _ _ => rfl) hjl (j := 0) (by omega)
      have hj : (flatC len fun i => [U8 (f i)])[j]? = some v := hj
      rw [show j * 1 + 0 = j by omega, hj] at e
      obtain rfl : v = U8 (f j) := Option.some.inj e
      refine ⟨rfl, ?_⟩
      obtain ⟨c', t', fr', hc', hv', _⟩ := cell_block (hx j (by omega)).1
      rw [hc] at hc'
      cases hc'
      rw [hv', (hf j (by omega)).1]
theorem int_in {fuel : Nat} {cs : List Value} {x : DataW H × List MemPlace} (h : DataW.trod enc Try.prog W 0 (fun _ => true) true fuel 3 cs = some x) : ∃ z : Int, cs = [I z] := by
  obtain ⟨z, h1, _, _⟩ := DataW.trod_int Try.underlying3 h
  exact ⟨z, h1⟩
theorem move_in {fuel : Nat} {cs : List Value} {x : DataW H × List MemPlace} (h : DataW.trod enc Try.prog W 0 (fun _ => true) true fuel 33 cs = some x) : ∃ m : Mv, cs = mvV m := by
  obtain ⟨y0, y1, y2, n, _, hl, h0, h1, h2⟩ := trod_struct3 Try.underlying33 h
  rw [cells33] at hl
  match cs, hl with
  | [w0, w1, w2, w3], _ =>
    obtain ⟨a, ha⟩ := int_in h0
    obtain ⟨b, hb⟩ := int_in h1
    obtain ⟨z0, z1, k, _, _, k0, k1⟩ := trod_struct2 Try.underlying31 h2
    obtain ⟨c, hc⟩ := int_in k0
    obtain ⟨d, hd⟩ := int_in k1
    have ha : [w0] = [I a] := ha
    have hb : [w1] = [I b] := hb
    have hc : [w2] = [I c] := hc
    have hd : [w3] = [I d] := hd
    cases ha; cases hb; cases hc; cases hd
    exact ⟨⟨a, b, c, d⟩, rfl⟩
theorem moves_in {fuel : Nat} {v : Value} {x : DataW H × List MemPlace} (h : DataW.trod enc Try.prog W 0 (fun _ => true) true fuel 22 [v] = some x) :
    v = .slice none 0 0 ∨ (∃ a, v = .slice (some a) 0 0) ∨ ∃ (n : Nat) (f : Nat → Mv), SlAt W v n (mvs n f) 1 := by
  rcases open_slice Try.underlying22 h with ⟨h0, _⟩ | ⟨a, len, cap, m, n, D, Pl, hv, _, hl, _, hm, _, hx⟩
  · exact Or.inl (List.cons.inj h0).1
  right
  obtain rfl := (List.cons.inj hv).1
  have hm : m = cap := by simpa using hm
  subst hm
  rw [cells33] at hx
  rcases Nat.eq_zero_or_pos m with h0 | h0
  · subst h0
    obtain rfl : len = 0 := by omega
    exact Or.inl ⟨a, rfl⟩
  · right
    have each : ∀ i, i < m → ∃ z : Mv, ∀ j, j < 4 → W.cell? ((a.add (i * 4)).add j) = (mvV z)[j]? := by
      intro i hi
      obtain ⟨cs', h1, h2⟩ := hx i hi
      obtain ⟨z, rfl⟩ := move_in h2
      exact ⟨z, (World.cells?_some h1).2.2⟩
    haveI : Inhabited Mv := ⟨⟨0, 0, 0, 0⟩⟩
    obtain ⟨f, hf⟩ := choose_lt (α := Mv) each
    have cellOf : ∀ i j, i < m → j < 4 → W.cell? (a.add (i * 4 + j)) = (mvV (f i))[j]? := fun i j hi hj => by rw [← add_add]; exact hf i hi j hj
    obtain ⟨c, t, fr, hc, _, hsp⟩ := cell_block (show W.cell? (a.add 0) = some (I (f 0).at_) from cellOf 0 0 h0 (by omega))
    have hsp := hsp rfl
    refine ⟨len, f, a.block, a.off, m, ?_, hl, c, t, fr, hc, ?_⟩
    · obtain ⟨b, o, s⟩ := a
      cases hsp
      rfl
    · intro j v hj
      have hlen := flatC_len (n := len) (k := 4) (g := fun i => mvV (f i)) (fun _ _ => rfl)
      have hj : (flatC len fun i => mvV (f i))[j]? = some v := hj
      have hjl : j < len * 4 := by
        have := (List.getElem?_eq_some_iff.1 hj).1
        omega
      have hi : j / 4 < len := by omega
      have hr : j % 4 < 4 := by omega
      have e := flatC_get (n := len) (k := 4) (g := fun i => mvV (f i)) (fun _ _ => rfl) hi hr
      rw [show j / 4 * 4 + j % 4 = j by omega, hj] at e
      have e2 := cellOf (j / 4) (j % 4) (by omega) hr
      rw [show j / 4 * 4 + j % 4 = j by omega, ← e] at e2
      refine ⟨flatC_atomic (n := len) (g := fun i => mvV (f i)) (fun i _ w hw => ?_) v (List.mem_of_getElem? hj), ?_⟩
      · have hw : w ∈ [I (f i).at_, I (f i).place, I (f i).lo, I (f i).hi] := hw
        simp only [List.mem_cons, List.not_mem_nil, or_false] at hw
        rcases hw with rfl | rfl | rfl | rfl <;> rfl
      · obtain ⟨c', t', fr', hc', hv', _⟩ := cell_block e2
        rw [hc] at hc'
        cases hc'
        exact hv'
theorem horses_in {fuel : Nat} {cs : List Value} {x : DataW H × List MemPlace} (h : DataW.trod enc Try.prog W 0 (fun _ => true) true fuel 24 cs = some x) :
    ∃ (p : Int) (v : Value), cs = [I p, v] ∧ (v = .slice none 0 0 ∨ (∃ a, v = .slice (some a) 0 0) ∨ ∃ (n : Nat) (f : Nat → Mv), SlAt W v n (mvs n f) 1) := by
  obtain ⟨y0, y1, n, _, hl, h0, h1⟩ := trod_struct2 Try.underlying24 h
  rw [cells24] at hl
  match cs, hl with
  | [w0, w1], _ =>
    obtain ⟨p, hp⟩ := int_in h0
    have hp : [w0] = [I p] := hp
    cases hp
    exact ⟨p, w1, rfl, moves_in (show DataW.trod enc Try.prog W 0 (fun _ => true) true n 22 [w1] = some y1 from h1)⟩
end
section
variable {W : World}
theorem vs4 {x y : RoB} {p : Int} {s : Bool} {c : Int} {v v' w w' : Value} (hv : VRel (roN x y) v v') (hw : VRel (roN x y) w w') :
    VsRel (roN x y) [.agg ⟨[I p, v]⟩, w, .bool s, .int .u8 c] [.agg ⟨[I p, v']⟩, w', .bool s, .int .u8 c] :=
  .agg (.atom rfl hv) (VsRel.cons hw (.atom rfl (.atom rfl .nil)))
theorem v_none {x y : RoB} : VRel (roN x y) nilS (.slice none 0 0) := .atom rfl .nil
theorem v_zero {x y : RoB} {i : Nat} {a : Addr} {f : BInfo} (h : roN x y i = some f) (he : f.extra = 0) : VRel (roN x y) (.slice (some ⟨i, 0, none⟩) 0 0) (.slice (some a) 0 0) := by
  have := VsRel.slice (m := roN x y) (i := i) (o := 0) (n := 0) (c := 0) (f := f) (a := a) (l := []) (l' := []) h (Nat.le_refl _) (fun hp => by omega) .nil
  rw [he] at this
  exact this
theorem v_at {x y : RoB} {i b o n c : Nat} (h : roN x y i = some ⟨b, o, 0⟩) (hn : n ≤ c) : VRel (roN x y) (.slice (some ⟨i, 0, none⟩) n c) (.slice (some ⟨b, o, none⟩) n c) :=
  VsRel.slice (m := roN x y) (i := i) (o := 0) (n := n) (c := c) (f := ⟨b, o, 0⟩) (a := ⟨b, o, none⟩) (l := []) (l' := []) h hn (fun _ => rfl) .nil
theorem run10 {p nu : Int} {s : Bool} {v w : Value}
    (hv : v = .slice none 0 0 ∨ (∃ a, v = .slice (some a) 0 0) ∨ ∃ (n : Nat) (f : Nat → Mv), SlAt W v n (mvs n f) 1)
    (hw : w = .slice none 0 0 ∨ (∃ a, w = .slice (some a) 0 0) ∨ ∃ (n : Nat) (f : Nat → Int), (∀ i, i < n → 0 ≤ f i ∧ f i < 256) ∧ SlAt W w n (u8s n f) 2) (hnu : 0 ≤ nu ∧ nu < 256) :
    Calls Try.prog 10 #[.agg #[I p, v], w, .bool s, .int .u8 nu] W fun e W' => e = .returned (.bool true) ∧ Below W.heap.size W W' := by
  rcases hv with rfl | ⟨a, rfl⟩ | ⟨n, f, b, o, c, rfl, hn, hx⟩
  · rcases hw with rfl | ⟨a', rfl⟩ | ⟨k, g, hg, b', o', d, rfl, hk, hy⟩
    · exact calls_ro (x := (⟨0, 0, 0⟩, none)) (y := (⟨0, 0, 0⟩, none)) trivial trivial (vs4 v_none v_none) (law10n p s nu _ _ _ hnu)
    · exact calls_ro (x := (⟨0, 0, 0⟩, none)) (y := (⟨0, 0, 0⟩, none)) trivial trivial (vs4 v_none (v_zero (i := 1) rfl rfl)) (law10n p s nu _ _ _ hnu)
    · exact calls_ro (x := (⟨0, 0, 0⟩, none)) (y := (⟨b', o', 0⟩, some (u8s k g, 2))) trivial hy (vs4 v_none (v_at (i := 1) rfl hk)) (law10n p s nu _ _ _ hnu)
  · rcases hw with rfl | ⟨a', rfl⟩ | ⟨k, g, hg, b', o', d, rfl, hk, hy⟩
    · exact calls_ro (x := (⟨0, 0, 0⟩, none)) (y := (⟨0, 0, 0⟩, none)) trivial trivial (vs4 (v_zero (i := 0) rfl rfl) v_none) (law10w p s nu 0 _ _ hnu)
    · exact calls_ro (x := (⟨0, 0, 0⟩, none)) (y := (⟨0, 0, 0⟩, none)) trivial trivial (vs4 (v_zero (i := 0) rfl rfl) (v_zero (i := 1) rfl rfl)) (law10w p s nu 0 _ _ hnu)
    · exact calls_ro (x := (⟨0, 0, 0⟩, none)) (y := (⟨b', o', 0⟩, some (u8s k g, 2))) trivial hy (vs4 (v_zero (i := 0) rfl rfl) (v_at (i := 1) rfl hk)) (law10w p s nu 0 _ _ hnu)
  · rcases Nat.eq_zero_or_pos n with h0 | h0
    · subst h0
      rcases hw with rfl | ⟨a', rfl⟩ | ⟨k, g, hg, b', o', d, rfl, hk, hy⟩
      · exact calls_ro (x := (⟨b, o, 0⟩, none)) (y := (⟨0, 0, 0⟩, none)) trivial trivial (vs4 (v_at (i := 0) rfl hn) v_none) (law10w p s nu c _ _ hnu)
      · exact calls_ro (x := (⟨b, o, 0⟩, none)) (y := (⟨0, 0, 0⟩, none)) trivial trivial (vs4 (v_at (i := 0) rfl hn) (v_zero (i := 1) rfl rfl)) (law10w p s nu c _ _ hnu)
      · exact calls_ro (x := (⟨b, o, 0⟩, none)) (y := (⟨b', o', 0⟩, some (u8s k g, 2))) trivial hy (vs4 (v_at (i := 0) rfl hn) (v_at (i := 1) rfl hk)) (law10w p s nu c _ _ hnu)
    · rcases hw with rfl | ⟨a', rfl⟩ | ⟨k, g, hg, b', o', d, rfl, hk, hy⟩
      · exact calls_ro (x := (⟨b, o, 0⟩, some (mvs n f, 1))) (y := (⟨0, 0, 0⟩, none)) hx trivial (vs4 (v_at (i := 0) rfl hn) v_none) (law10anyz p s nu n c f hnu h0)
      · have hy : RoHolds W (⟨b, o, 0⟩, some (u8s 0 fun _ => 0, 2)) := by
          obtain ⟨cs, t, fr, h1, _⟩ := hx
          exact ⟨cs, t, fr, h1, fun j v hj => by cases hj⟩
        exact calls_ro (x := (⟨b, o, 0⟩, some (mvs n f, 1))) (y := (⟨b, o, 0⟩, some (u8s 0 fun _ => 0, 2))) hx hy (vs4 (v_at (i := 0) rfl hn) (v_zero (i := 1) rfl rfl)) (law10any p s nu n c 0 0 f (fun _ => 0) (fun i hi => by omega) hnu h0)
      · exact calls_ro (x := (⟨b, o, 0⟩, some (mvs n f, 1))) (y := (⟨b', o', 0⟩, some (u8s k g, 2))) hx hy (vs4 (v_at (i := 0) rfl hn) (v_at (i := 1) rfl hk)) (law10any p s nu n c k d f g hg hnu h0)
end
end Go.Ab
