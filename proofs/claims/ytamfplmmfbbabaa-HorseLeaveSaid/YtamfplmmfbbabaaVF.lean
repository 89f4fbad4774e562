/- the law HorseLeave: all forms of its arguments. -/
import Derived.Test.YtamfplmmfbbabaaVE
set_option maxRecDepth 100000
namespace Go.Ab
open Go Go.RowKit Go.Proofs
theorem x8 (p b w : Int) (sure : Bool) (n c : Nat) (f : Nat → Mv) (R : ARes → Prop) : (vx.call 8 [hV p n c, .bool sure, .int .u8 w, .int .u8 b] (retK R) (m1 (mvs n f)) ([(18, .split ((7, Hint.con C12) :: []) ((4, Hint.con ((C21 p n c f).when (ARes.ret (Value.bool false)))) :: (4, Hint.con C12) :: []))])) =
((((decide ((if (↑(0 : Nat) : Int) > (↑n : Int) then (↑(0 : Nat) : Int) else (↑n : Int)) > (40 : Int))) = true → ((ConOK Try.prog 12 (C12)) ∧ (Con.pre (C12) ⟨⟨[], []⟩, []⟩) ∧
R (.ret (.bool true)))) ∧
((decide ((if (↑(0 : Nat) : Int) > (↑n : Int) then (↑(0 : Nat) : Int) else (↑n : Int)) > (40 : Int))) = false → ((ConOK Try.prog 21 ((C21 p n c f).when (ARes.ret (Value.bool false)))) ∧ (Con.pre ((C21 p n c f).when (ARes.ret (Value.bool false))) ⟨⟨[(.int .i64 p)], [⟨n, c⟩]⟩, [(mvs n f)]⟩) ∧
((ConOK Try.prog 12 (C12)) ∧ (Con.pre (C12) ⟨⟨[], []⟩, []⟩) ∧
R (.ret (.bool true))))))) := by kernel_rfl
theorem z23nt (p mz : Int) (R : ARes → Prop) : (vx.call 23 [.agg ⟨[I p, nilS]⟩, I mz, .bool true] (retK R) ⟨.nil, 0⟩ ((29, .val (.bool true)) :: (3, .val (.bool true)) :: (35, .val (.bool true)) :: (3, .val (.bool true)) :: (18, Hint.again) :: (28, Hint.again) :: [])) =
(((((some (.bool (decide ((0 : Int) ≤ p))) : Option Value) = some (.bool true))) ∧
((((some (.bool (decide (p ≤ (3 : Int)))) : Option Value) = some (.bool true))) ∧
((((some (.bool (decide ((0 : Int) ≤ mz))) : Option Value) = some (.bool true))) ∧
((((some (.bool (decide (mz ≤ (7 : Int)))) : Option Value) = some (.bool true))) ∧
(((((some (.int .i64 mz) : Option Value) = some (.int .i64 mz))) ∧ (((((2 : Nat) ≤ (2 : Nat))) ∧ (((.agg ⟨[(.int .i64 p), (.slice .none ((0 : Nat)) ((0 : Nat)))]⟩) : Value) = (.agg ⟨[(.int .i64 p), (.slice .none ((0 : Nat)) ((0 : Nat)))]⟩))) ∧ (((((2 : Nat) ≤ (2 : Nat))) ∧ (((.agg ⟨[(.int .i64 p), (.slice .none ((0 : Nat)) ((0 : Nat)))]⟩) : Value) = (.agg ⟨[(.int .i64 p), (.slice .none ((0 : Nat)) ((0 : Nat)))]⟩))) ∧ (True)))) ∧
(((((some (.int .i64 mz) : Option Value) = some (.int .i64 mz))) ∧ (((((2 : Nat) ≤ (2 : Nat))) ∧ (((.agg ⟨[(.int .i64 p), (.slice .none ((0 : Nat)) ((0 : Nat)))]⟩) : Value) = (.agg ⟨[(.int .i64 p), (.slice .none ((0 : Nat)) ((0 : Nat)))]⟩))) ∧ (True))) ∧
R (.ret (.tuple ⟨[(.int .i64 (IntKind.i64.wrap (IntKind.i64.wrap ((1 : Int) * (2 : Int) ^ (0 : Nat)) - (1 : Int)))), (.int .i64 0)]⟩))))))))) := by kernel_rfl
theorem z23nf (p mz : Int) (R : ARes → Prop) : (vx.call 23 [.agg ⟨[I p, nilS]⟩, I mz, .bool false] (retK R) ⟨.nil, 0⟩ ((29, .val (.bool true)) :: (3, .val (.bool true)) :: (35, .val (.bool true)) :: (3, .val (.bool true)) :: (18, Hint.again) :: (28, Hint.again) :: [])) =
(((((some (.bool (decide ((0 : Int) ≤ p))) : Option Value) = some (.bool true))) ∧
((((some (.bool (decide (p ≤ (3 : Int)))) : Option Value) = some (.bool true))) ∧
((((some (.bool (decide ((0 : Int) ≤ mz))) : Option Value) = some (.bool true))) ∧
((((some (.bool (decide (mz ≤ (7 : Int)))) : Option Value) = some (.bool true))) ∧
(((((some (.int .i64 mz) : Option Value) = some (.int .i64 mz))) ∧ (((((2 : Nat) ≤ (2 : Nat))) ∧ (((.agg ⟨[(.int .i64 p), (.slice .none ((0 : Nat)) ((0 : Nat)))]⟩) : Value) = (.agg ⟨[(.int .i64 p), (.slice .none ((0 : Nat)) ((0 : Nat)))]⟩))) ∧ (((((2 : Nat) ≤ (2 : Nat))) ∧ (((.agg ⟨[(.int .i64 p), (.slice .none ((0 : Nat)) ((0 : Nat)))]⟩) : Value) = (.agg ⟨[(.int .i64 p), (.slice .none ((0 : Nat)) ((0 : Nat)))]⟩))) ∧ (True)))) ∧
(((((some (.int .i64 mz) : Option Value) = some (.int .i64 mz))) ∧ (((((2 : Nat) ≤ (2 : Nat))) ∧ (((.agg ⟨[(.int .i64 p), (.slice .none ((0 : Nat)) ((0 : Nat)))]⟩) : Value) = (.agg ⟨[(.int .i64 p), (.slice .none ((0 : Nat)) ((0 : Nat)))]⟩))) ∧ (True))) ∧
R (.ret (.tuple ⟨[(.int .i64 (IntKind.i64.wrap (IntKind.i64.wrap ((1 : Int) * (2 : Int) ^ (0 : Nat)) - (1 : Int)))), (.int .i64 0)]⟩))))))))) := by kernel_rfl
theorem z23et (p mz : Int) (R : ARes → Prop) : (vx.call 23 [hV p 0 0, I mz, .bool true] (retK R) m0d ((29, .val (.bool true)) :: (3, .val (.bool true)) :: (35, .val (.bool true)) :: (3, .val (.bool true)) :: (18, Hint.again) :: (28, Hint.again) :: [])) =
(((((some (.bool (decide ((0 : Int) ≤ p))) : Option Value) = some (.bool true))) ∧
((((some (.bool (decide (p ≤ (3 : Int)))) : Option Value) = some (.bool true))) ∧
((((some (.bool (decide ((0 : Int) ≤ mz))) : Option Value) = some (.bool true))) ∧
((((some (.bool (decide (mz ≤ (7 : Int)))) : Option Value) = some (.bool true))) ∧
(((((some (.int .i64 mz) : Option Value) = some (.int .i64 mz))) ∧ (((((2 : Nat) ≤ (2 : Nat))) ∧ (((.agg ⟨[(.int .i64 p), (.slice (.some ⟨0, 0, .none⟩) ((0 : Nat)) ((0 : Nat)))]⟩) : Value) = (.agg ⟨[(.int .i64 p), (.slice (.some ⟨0, 0, .none⟩) ((0 : Nat)) ((0 : Nat)))]⟩))) ∧ (((((2 : Nat) ≤ (2 : Nat))) ∧ (((.agg ⟨[(.int .i64 p), (.slice (.some ⟨0, 0, .none⟩) ((0 : Nat)) ((0 : Nat)))]⟩) : Value) = (.agg ⟨[(.int .i64 p), (.slice (.some ⟨0, 0, .none⟩) ((0 : Nat)) ((0 : Nat)))]⟩))) ∧ (True)))) ∧
(((((some (.int .i64 mz) : Option Value) = some (.int .i64 mz))) ∧ (((((2 : Nat) ≤ (2 : Nat))) ∧ (((.agg ⟨[(.int .i64 p), (.slice (.some ⟨0, 0, .none⟩) ((0 : Nat)) ((0 : Nat)))]⟩) : Value) = (.agg ⟨[(.int .i64 p), (.slice (.some ⟨0, 0, .none⟩) ((0 : Nat)) ((0 : Nat)))]⟩))) ∧ (True))) ∧
R (.ret (.tuple ⟨[(.int .i64 (IntKind.i64.wrap (IntKind.i64.wrap ((1 : Int) * (2 : Int) ^ (0 : Nat)) - (1 : Int)))), (.int .i64 0)]⟩))))))))) := by kernel_rfl
theorem z23ef (p mz : Int) (R : ARes → Prop) : (vx.call 23 [hV p 0 0, I mz, .bool false] (retK R) m0d ((29, .val (.bool true)) :: (3, .val (.bool true)) :: (35, .val (.bool true)) :: (3, .val (.bool true)) :: (18, Hint.again) :: (28, Hint.again) :: [])) =
(((((some (.bool (decide ((0 : Int) ≤ p))) : Option Value) = some (.bool true))) ∧
((((some (.bool (decide (p ≤ (3 : Int)))) : Option Value) = some (.bool true))) ∧
((((some (.bool (decide ((0 : Int) ≤ mz))) : Option Value) = some (.bool true))) ∧
((((some (.bool (decide (mz ≤ (7 : Int)))) : Option Value) = some (.bool true))) ∧
(((((some (.int .i64 mz) : Option Value) = some (.int .i64 mz))) ∧ (((((2 : Nat) ≤ (2 : Nat))) ∧ (((.agg ⟨[(.int .i64 p), (.slice (.some ⟨0, 0, .none⟩) ((0 : Nat)) ((0 : Nat)))]⟩) : Value) = (.agg ⟨[(.int .i64 p), (.slice (.some ⟨0, 0, .none⟩) ((0 : Nat)) ((0 : Nat)))]⟩))) ∧ (((((2 : Nat) ≤ (2 : Nat))) ∧ (((.agg ⟨[(.int .i64 p), (.slice (.some ⟨0, 0, .none⟩) ((0 : Nat)) ((0 : Nat)))]⟩) : Value) = (.agg ⟨[(.int .i64 p), (.slice (.some ⟨0, 0, .none⟩) ((0 : Nat)) ((0 : Nat)))]⟩))) ∧ (True)))) ∧
(((((some (.int .i64 mz) : Option Value) = some (.int .i64 mz))) ∧ (((((2 : Nat) ≤ (2 : Nat))) ∧ (((.agg ⟨[(.int .i64 p), (.slice (.some ⟨0, 0, .none⟩) ((0 : Nat)) ((0 : Nat)))]⟩) : Value) = (.agg ⟨[(.int .i64 p), (.slice (.some ⟨0, 0, .none⟩) ((0 : Nat)) ((0 : Nat)))]⟩))) ∧ (True))) ∧
R (.ret (.tuple ⟨[(.int .i64 (IntKind.i64.wrap (IntKind.i64.wrap ((1 : Int) * (2 : Int) ^ (0 : Nat)) - (1 : Int)))), (.int .i64 0)]⟩))))))))) := by kernel_rfl
theorem z24et (p : Int) (R : Hx → Prop) : (vx.call 24 [hV p 0 0, .bool true] (retN (rowT3 1 3) R) m0d ((29, .val (.bool true)) :: (3, .val (.bool true)) :: (37, Hint.again) :: (28, Hint.again) :: (22, Hint.con (C83z fun x => (0 : Int))) :: [(58, Hint.tm (0 : Nat) [((1 : Nat), (24 : Nat))])])) =
(((((some (.bool (decide ((0 : Int) ≤ p))) : Option Value) = some (.bool true))) ∧
((((some (.bool (decide (p ≤ (3 : Int)))) : Option Value) = some (.bool true))) ∧
((((((2 : Nat) ≤ (2 : Nat))) ∧ (((.agg ⟨[(.int .i64 p), (.slice (.some ⟨0, 0, .none⟩) ((0 : Nat)) ((0 : Nat)))]⟩) : Value) = (.agg ⟨[(.int .i64 p), (.slice (.some ⟨0, 0, .none⟩) ((0 : Nat)) ((0 : Nat)))]⟩))) ∧ (((((2 : Nat) ≤ (2 : Nat))) ∧ (((.agg ⟨[(.int .i64 p), (.slice (.some ⟨0, 0, .none⟩) ((0 : Nat)) ((0 : Nat)))]⟩) : Value) = (.agg ⟨[(.int .i64 p), (.slice (.some ⟨0, 0, .none⟩) ((0 : Nat)) ((0 : Nat)))]⟩))) ∧ (True))) ∧
((((((2 : Nat) ≤ (2 : Nat))) ∧ (((.agg ⟨[(.int .i64 p), (.slice (.some ⟨0, 0, .none⟩) ((0 : Nat)) ((0 : Nat)))]⟩) : Value) = (.agg ⟨[(.int .i64 p), (.slice (.some ⟨0, 0, .none⟩) ((0 : Nat)) ((0 : Nat)))]⟩))) ∧ (True)) ∧
((ConOK Try.prog 83 (C83z fun x => (0 : Int))) ∧ (Con.pre (C83z fun x => (0 : Int)) ⟨⟨[(.int .i64 0), (.int .i64 0), (.int .i64 0), (.int .i64 0), (.int .i64 0), (.int .i64 0), (.int .i64 0)], []⟩, []⟩) ∧
R ⟨⟨[(.int .i64 0), (.int .i64 0)], [⟨((0 : Nat)), ((0 : Nat))⟩]⟩, [[]]⟩)))))) := by kernel_rfl
theorem z24ef (p : Int) (R : Hx → Prop) : (vx.call 24 [hV p 0 0, .bool false] (retN (rowT3 1 3) R) m0d ((29, .val (.bool true)) :: (3, .val (.bool true)) :: (37, Hint.again) :: (28, Hint.again) :: (22, Hint.con (C83z fun x => (0 : Int))) :: [(58, Hint.tm (0 : Nat) [((1 : Nat), (24 : Nat))])])) =
(((((some (.bool (decide ((0 : Int) ≤ p))) : Option Value) = some (.bool true))) ∧
((((some (.bool (decide (p ≤ (3 : Int)))) : Option Value) = some (.bool true))) ∧
((((((2 : Nat) ≤ (2 : Nat))) ∧ (((.agg ⟨[(.int .i64 p), (.slice (.some ⟨0, 0, .none⟩) ((0 : Nat)) ((0 : Nat)))]⟩) : Value) = (.agg ⟨[(.int .i64 p), (.slice (.some ⟨0, 0, .none⟩) ((0 : Nat)) ((0 : Nat)))]⟩))) ∧ (((((2 : Nat) ≤ (2 : Nat))) ∧ (((.agg ⟨[(.int .i64 p), (.slice (.some ⟨0, 0, .none⟩) ((0 : Nat)) ((0 : Nat)))]⟩) : Value) = (.agg ⟨[(.int .i64 p), (.slice (.some ⟨0, 0, .none⟩) ((0 : Nat)) ((0 : Nat)))]⟩))) ∧ (True))) ∧
((((((2 : Nat) ≤ (2 : Nat))) ∧ (((.agg ⟨[(.int .i64 p), (.slice (.some ⟨0, 0, .none⟩) ((0 : Nat)) ((0 : Nat)))]⟩) : Value) = (.agg ⟨[(.int .i64 p), (.slice (.some ⟨0, 0, .none⟩) ((0 : Nat)) ((0 : Nat)))]⟩))) ∧ (True)) ∧
((ConOK Try.prog 83 (C83z fun x => (0 : Int))) ∧ (Con.pre (C83z fun x => (0 : Int)) ⟨⟨[(.int .i64 0), (.int .i64 0), (.int .i64 0), (.int .i64 0), (.int .i64 0), (.int .i64 0), (.int .i64 0)], []⟩, []⟩) ∧
R ⟨⟨[(.int .i64 0), (.int .i64 0)], [⟨((0 : Nat)), ((0 : Nat))⟩]⟩, [[]]⟩)))))) := by kernel_rfl
theorem y8t (p b w : Int) (R : ARes → Prop) : (vx.call 8 [.agg ⟨[I p, nilS]⟩, .bool true, .int .u8 w, .int .u8 b] (retK R) m0d ((32, .val (.bool true)) :: (3, .val (.bool true)) :: (31, Hint.con (C23n true p ((IntKind.i64.wrap w).tmod (8 : Int)))) :: (7, Hint.conN (C24n true p)) :: (56, Hint.conN (C24n true p)) :: (12, .val (.bool true)) :: (9, .val (.bool true)) :: (41, Hint.conN (C24n true p)) :: (12, .val (.bool true)) :: (6, Hint.con (C29 (0 : Nat))) :: (2, Hint.con (C29 (0 : Nat))) :: (5, Hint.con (C29 (0 : Nat))) :: (2, Hint.con (C29 (0 : Nat))) :: [(4, .split ((3, Hint.con C12) :: []) ([]))])) =
(((((some (.bool (decide ((0 : Int) ≤ p))) : Option Value) = some (.bool true))) ∧
((((some (.bool (decide (p ≤ (3 : Int)))) : Option Value) = some (.bool true))) ∧
((ConOK Try.prog 23 (C23n true p ((IntKind.i64.wrap w).tmod (OfNat.ofNat (8 : Nat))))) ∧ (Con.pre (C23n true p ((IntKind.i64.wrap w).tmod (OfNat.ofNat (8 : Nat)))) ⟨⟨[(.int .i64 p), (.int .i64 ((IntKind.i64.wrap w).tmod (8 : Int))), (.bool true)], []⟩, []⟩) ∧
((ConNOK Try.prog 24 (C24n true p)) ∧ (ConN.pre (C24n true p) ⟨⟨[(.int .i64 p), (.bool true)], []⟩, []⟩) ∧
((ConNOK Try.prog 24 (C24n true p)) ∧ (ConN.pre (C24n true p) ⟨⟨[(.int .i64 p), (.bool true)], []⟩, []⟩) ∧
((((some (.bool (decide ((0 : Int) ≤ (IntKind.i64.wrap w).tmod (8 : Int)))) : Option Value) = some (.bool true))) ∧
((((some (.bool (decide ((0 : Int) ≤ (IntKind.i64.wrap w).tmod (8 : Int)))) : Option Value) = some (.bool true))) ∧
((ConNOK Try.prog 24 (C24n true p)) ∧ (ConN.pre (C24n true p) ⟨⟨[(.int .i64 p), (.bool true)], []⟩, []⟩) ∧
((((some (.bool (decide ((0 : Int) ≤ (IntKind.i64.wrap w).tmod (8 : Int)))) : Option Value) = some (.bool true))) ∧
((ConOK Try.prog 29 (C29 (0 : Nat))) ∧ (Con.pre (C29 (0 : Nat)) ⟨⟨[(.int .i64 (bits BinOp.and IntKind.i64 (IntKind.i64.wrap b) (IntKind.i64.wrap (IntKind.i64.wrap ((1 : Int) * (2 : Int) ^ (0 : Nat)) - (1 : Int)))))], []⟩, []⟩) ∧
((ConOK Try.prog 29 (C29 (0 : Nat))) ∧ (Con.pre (C29 (0 : Nat)) ⟨⟨[(.int .i64 0)], []⟩, []⟩) ∧
((ConOK Try.prog 29 (C29 (0 : Nat))) ∧ (Con.pre (C29 (0 : Nat)) ⟨⟨[(.int .i64 (bits BinOp.and IntKind.i64 (IntKind.i64.wrap b) (IntKind.i64.wrap (IntKind.i64.wrap ((1 : Int) * (2 : Int) ^ (0 : Nat)) - (1 : Int)))))], []⟩, []⟩) ∧
((ConOK Try.prog 29 (C29 (0 : Nat))) ∧ (Con.pre (C29 (0 : Nat)) ⟨⟨[(.int .i64 0)], []⟩, []⟩) ∧
(((decide (bits BinOp.and IntKind.i64 (IntKind.i64.wrap b) (IntKind.i64.wrap (IntKind.i64.wrap ((1 : Int) * (2 : Int) ^ (0 : Nat)) - (1 : Int))) ≥ (0 : Int))) = true → ((ConOK Try.prog 12 (C12)) ∧ (Con.pre (C12) ⟨⟨[], []⟩, []⟩) ∧
R (.ret (.bool true)))) ∧
((decide (bits BinOp.and IntKind.i64 (IntKind.i64.wrap b) (IntKind.i64.wrap (IntKind.i64.wrap ((1 : Int) * (2 : Int) ^ (0 : Nat)) - (1 : Int))) ≥ (0 : Int))) = false → R (.ret (.bool false)))))))))))))))))) := by kernel_rfl
theorem y8f (p b w : Int) (R : ARes → Prop) : (vx.call 8 [.agg ⟨[I p, nilS]⟩, .bool false, .int .u8 w, .int .u8 b] (retK R) m0d ((32, .val (.bool true)) :: (3, .val (.bool true)) :: (31, Hint.con (C23n false p ((IntKind.i64.wrap w).tmod (8 : Int)))) :: (7, Hint.conN (C24n false p)) :: (56, Hint.conN (C24n false p)) :: (12, .val (.bool true)) :: (9, .val (.bool true)) :: (41, Hint.conN (C24n false p)) :: (12, .val (.bool true)) :: (6, Hint.con (C29 (0 : Nat))) :: (2, Hint.con (C29 (0 : Nat))) :: (5, Hint.con (C29 (0 : Nat))) :: (2, Hint.con (C29 (0 : Nat))) :: [(4, .split ((3, Hint.con C12) :: []) ([]))])) =
(((((some (.bool (decide ((0 : Int) ≤ p))) : Option Value) = some (.bool true))) ∧
((((some (.bool (decide (p ≤ (3 : Int)))) : Option Value) = some (.bool true))) ∧
((ConOK Try.prog 23 (C23n false p ((IntKind.i64.wrap w).tmod (OfNat.ofNat (8 : Nat))))) ∧ (Con.pre (C23n false p ((IntKind.i64.wrap w).tmod (OfNat.ofNat (8 : Nat)))) ⟨⟨[(.int .i64 p), (.int .i64 ((IntKind.i64.wrap w).tmod (8 : Int))), (.bool false)], []⟩, []⟩) ∧
((ConNOK Try.prog 24 (C24n false p)) ∧ (ConN.pre (C24n false p) ⟨⟨[(.int .i64 p), (.bool false)], []⟩, []⟩) ∧
((ConNOK Try.prog 24 (C24n false p)) ∧ (ConN.pre (C24n false p) ⟨⟨[(.int .i64 p), (.bool false)], []⟩, []⟩) ∧
((((some (.bool (decide ((0 : Int) ≤ (IntKind.i64.wrap w).tmod (8 : Int)))) : Option Value) = some (.bool true))) ∧
((((some (.bool (decide ((0 : Int) ≤ (IntKind.i64.wrap w).tmod (8 : Int)))) : Option Value) = some (.bool true))) ∧
((ConNOK Try.prog 24 (C24n false p)) ∧ (ConN.pre (C24n false p) ⟨⟨[(.int .i64 p), (.bool false)], []⟩, []⟩) ∧
((((some (.bool (decide ((0 : Int) ≤ (IntKind.i64.wrap w).tmod (8 : Int)))) : Option Value) = some (.bool true))) ∧
((ConOK Try.prog 29 (C29 (0 : Nat))) ∧ (Con.pre (C29 (0 : Nat)) ⟨⟨[(.int .i64 (bits BinOp.and IntKind.i64 (IntKind.i64.wrap b) (IntKind.i64.wrap (IntKind.i64.wrap ((1 : Int) * (2 : Int) ^ (0 : Nat)) - (1 : Int)))))], []⟩, []⟩) ∧
((ConOK Try.prog 29 (C29 (0 : Nat))) ∧ (Con.pre (C29 (0 : Nat)) ⟨⟨[(.int .i64 0)], []⟩, []⟩) ∧
((ConOK Try.prog 29 (C29 (0 : Nat))) ∧ (Con.pre (C29 (0 : Nat)) ⟨⟨[(.int .i64 (bits BinOp.and IntKind.i64 (IntKind.i64.wrap b) (IntKind.i64.wrap (IntKind.i64.wrap ((1 : Int) * (2 : Int) ^ (0 : Nat)) - (1 : Int)))))], []⟩, []⟩) ∧
((ConOK Try.prog 29 (C29 (0 : Nat))) ∧ (Con.pre (C29 (0 : Nat)) ⟨⟨[(.int .i64 0)], []⟩, []⟩) ∧
(((decide (bits BinOp.and IntKind.i64 (IntKind.i64.wrap b) (IntKind.i64.wrap (IntKind.i64.wrap ((1 : Int) * (2 : Int) ^ (0 : Nat)) - (1 : Int))) ≥ (0 : Int))) = true → ((ConOK Try.prog 12 (C12)) ∧ (Con.pre (C12) ⟨⟨[], []⟩, []⟩) ∧
R (.ret (.bool true)))) ∧
((decide (bits BinOp.and IntKind.i64 (IntKind.i64.wrap b) (IntKind.i64.wrap (IntKind.i64.wrap ((1 : Int) * (2 : Int) ^ (0 : Nat)) - (1 : Int))) ≥ (0 : Int))) = false → R (.ret (.bool false)))))))))))))))))) := by kernel_rfl
theorem y8x1 (p b w : Int) (sure : Bool) (R : ARes → Prop) : (vx.call 8 [.agg ⟨[I p, nilS]⟩, .bool sure, .int .u8 w, .int .u8 b] (retK R) m0d ((32, .val (.bool false)) :: (12, Hint.con C12) :: [])) =
(((((some (.bool (decide ((0 : Int) ≤ p))) : Option Value) = some (.bool false))) ∧
((ConOK Try.prog 12 (C12)) ∧ (Con.pre (C12) ⟨⟨[], []⟩, []⟩) ∧
R (.ret (.bool true))))) := by kernel_rfl
theorem y8x2 (p b w : Int) (sure : Bool) (R : ARes → Prop) : (vx.call 8 [.agg ⟨[I p, nilS]⟩, .bool sure, .int .u8 w, .int .u8 b] (retK R) m0d ((32, .val (.bool true)) :: (3, .val (.bool false)) :: (11, Hint.con C12) :: [])) =
(((((some (.bool (decide ((0 : Int) ≤ p))) : Option Value) = some (.bool true))) ∧
((((some (.bool (decide (p ≤ (3 : Int)))) : Option Value) = some (.bool false))) ∧
((ConOK Try.prog 12 (C12)) ∧ (Con.pre (C12) ⟨⟨[], []⟩, []⟩) ∧
R (.ret (.bool true)))))) := by kernel_rfl
theorem e8t (p b w : Int) (R : ARes → Prop) : (vx.call 8 [hV p 0 0, .bool true, .int .u8 w, .int .u8 b] (retK R) m0d ((32, .val (.bool true)) :: (3, .val (.bool true)) :: (31, Hint.con (C23e true p ((IntKind.i64.wrap w).tmod (8 : Int)))) :: (7, Hint.conN (C24e true p)) :: (56, Hint.conN (C24n true p)) :: (12, .val (.bool true)) :: (9, .val (.bool true)) :: (41, Hint.conN (C24n true p)) :: (12, .val (.bool true)) :: (6, Hint.con (C29 (0 : Nat))) :: (2, Hint.con (C29 (0 : Nat))) :: (5, Hint.con (C29 (0 : Nat))) :: (2, Hint.con (C29 (0 : Nat))) :: [(4, .split ((3, Hint.con C12) :: []) ([]))])) =
(((((some (.bool (decide ((0 : Int) ≤ p))) : Option Value) = some (.bool true))) ∧
((((some (.bool (decide (p ≤ (3 : Int)))) : Option Value) = some (.bool true))) ∧
((ConOK Try.prog 23 (C23e true p ((IntKind.i64.wrap w).tmod (OfNat.ofNat (8 : Nat))))) ∧ (Con.pre (C23e true p ((IntKind.i64.wrap w).tmod (OfNat.ofNat (8 : Nat)))) ⟨⟨[(.int .i64 p), (.int .i64 ((IntKind.i64.wrap w).tmod (8 : Int))), (.bool true)], [⟨((0 : Nat)), ((0 : Nat))⟩]⟩, []⟩) ∧
((ConNOK Try.prog 24 (C24e true p)) ∧ (ConN.pre (C24e true p) ⟨⟨[(.int .i64 p), (.bool true)], [⟨((0 : Nat)), ((0 : Nat))⟩]⟩, []⟩) ∧
((ConNOK Try.prog 24 (C24n true p)) ∧ (ConN.pre (C24n true p) ⟨⟨[(.int .i64 p), (.bool true)], []⟩, []⟩) ∧
((((some (.bool (decide ((0 : Int) ≤ (IntKind.i64.wrap w).tmod (8 : Int)))) : Option Value) = some (.bool true))) ∧
((((some (.bool (decide ((0 : Int) ≤ (IntKind.i64.wrap w).tmod (8 : Int)))) : Option Value) = some (.bool true))) ∧
((ConNOK Try.prog 24 (C24n true p)) ∧ (ConN.pre (C24n true p) ⟨⟨[(.int .i64 p), (.bool true)], []⟩, []⟩) ∧
((((some (.bool (decide ((0 : Int) ≤ (IntKind.i64.wrap w).tmod (8 : Int)))) : Option Value) = some (.bool true))) ∧
((ConOK Try.prog 29 (C29 (0 : Nat))) ∧ (Con.pre (C29 (0 : Nat)) ⟨⟨[(.int .i64 (bits BinOp.and IntKind.i64 (IntKind.i64.wrap b) (IntKind.i64.wrap (IntKind.i64.wrap ((1 : Int) * (2 : Int) ^ (0 : Nat)) - (1 : Int)))))], []⟩, []⟩) ∧
((ConOK Try.prog 29 (C29 (0 : Nat))) ∧ (Con.pre (C29 (0 : Nat)) ⟨⟨[(.int .i64 0)], []⟩, []⟩) ∧
((ConOK Try.prog 29 (C29 (0 : Nat))) ∧ (Con.pre (C29 (0 : Nat)) ⟨⟨[(.int .i64 (bits BinOp.and IntKind.i64 (IntKind.i64.wrap b) (IntKind.i64.wrap (IntKind.i64.wrap ((1 : Int) * (2 : Int) ^ (0 : Nat)) - (1 : Int)))))], []⟩, []⟩) ∧
((ConOK Try.prog 29 (C29 (0 : Nat))) ∧ (Con.pre (C29 (0 : Nat)) ⟨⟨[(.int .i64 0)], []⟩, []⟩) ∧
(((decide (bits BinOp.and IntKind.i64 (IntKind.i64.wrap b) (IntKind.i64.wrap (IntKind.i64.wrap ((1 : Int) * (2 : Int) ^ (0 : Nat)) - (1 : Int))) ≥ (0 : Int))) = true → ((ConOK Try.prog 12 (C12)) ∧ (Con.pre (C12) ⟨⟨[], []⟩, []⟩) ∧
R (.ret (.bool true)))) ∧
((decide (bits BinOp.and IntKind.i64 (IntKind.i64.wrap b) (IntKind.i64.wrap (IntKind.i64.wrap ((1 : Int) * (2 : Int) ^ (0 : Nat)) - (1 : Int))) ≥ (0 : Int))) = false → R (.ret (.bool false)))))))))))))))))) := by kernel_rfl
theorem e8f (p b w : Int) (R : ARes → Prop) : (vx.call 8 [hV p 0 0, .bool false, .int .u8 w, .int .u8 b] (retK R) m0d ((32, .val (.bool true)) :: (3, .val (.bool true)) :: (31, Hint.con (C23e false p ((IntKind.i64.wrap w).tmod (8 : Int)))) :: (7, Hint.conN (C24e false p)) :: (56, Hint.conN (C24n false p)) :: (12, .val (.bool true)) :: (9, .val (.bool true)) :: (41, Hint.conN (C24n false p)) :: (12, .val (.bool true)) :: (6, Hint.con (C29 (0 : Nat))) :: (2, Hint.con (C29 (0 : Nat))) :: (5, Hint.con (C29 (0 : Nat))) :: (2, Hint.con (C29 (0 : Nat))) :: [(4, .split ((3, Hint.con C12) :: []) ([]))])) =
(((((some (.bool (decide ((0 : Int) ≤ p))) : Option Value) = some (.bool true))) ∧
((((some (.bool (decide (p ≤ (3 : Int)))) : Option Value) = some (.bool true))) ∧
((ConOK Try.prog 23 (C23e false p ((IntKind.i64.wrap w).tmod (OfNat.ofNat (8 : Nat))))) ∧ (Con.pre (C23e false p ((IntKind.i64.wrap w).tmod (OfNat.ofNat (8 : Nat)))) ⟨⟨[(.int .i64 p), (.int .i64 ((IntKind.i64.wrap w).tmod (8 : Int))), (.bool false)], [⟨((0 : Nat)), ((0 : Nat))⟩]⟩, []⟩) ∧
((ConNOK Try.prog 24 (C24e false p)) ∧ (ConN.pre (C24e false p) ⟨⟨[(.int .i64 p), (.bool false)], [⟨((0 : Nat)), ((0 : Nat))⟩]⟩, []⟩) ∧
((ConNOK Try.prog 24 (C24n false p)) ∧ (ConN.pre (C24n false p) ⟨⟨[(.int .i64 p), (.bool false)], []⟩, []⟩) ∧
((((some (.bool (decide ((0 : Int) ≤ (IntKind.i64.wrap w).tmod (8 : Int)))) : Option Value) = some (.bool true))) ∧
((((some (.bool (decide ((0 : Int) ≤ (IntKind.i64.wrap w).tmod (8 : Int)))) : Option Value) = some (.bool true))) ∧
((ConNOK Try.prog 24 (C24n false p)) ∧ (ConN.pre (C24n false p) ⟨⟨[(.int .i64 p), (.bool false)], []⟩, []⟩) ∧
((((some (.bool (decide ((0 : Int) ≤ (IntKind.i64.wrap w).tmod (8 : Int)))) : Option Value) = some (.bool true))) ∧
((ConOK Try.prog 29 (C29 (0 : Nat))) ∧ (Con.pre (C29 (0 : Nat)) ⟨⟨[(.int .i64 (bits BinOp.and IntKind.i64 (IntKind.i64.wrap b) (IntKind.i64.wrap (IntKind.i64.wrap ((1 : Int) * (2 : Int) ^ (0 : Nat)) - (1 : Int)))))], []⟩, []⟩) ∧
((ConOK Try.prog 29 (C29 (0 : Nat))) ∧ (Con.pre (C29 (0 : Nat)) ⟨⟨[(.int .i64 0)], []⟩, []⟩) ∧
((ConOK Try.prog 29 (C29 (0 : Nat))) ∧ (Con.pre (C29 (0 : Nat)) ⟨⟨[(.int .i64 (bits BinOp.and IntKind.i64 (IntKind.i64.wrap b) (IntKind.i64.wrap (IntKind.i64.wrap ((1 : Int) * (2 : Int) ^ (0 : Nat)) - (1 : Int)))))], []⟩, []⟩) ∧
((ConOK Try.prog 29 (C29 (0 : Nat))) ∧ (Con.pre (C29 (0 : Nat)) ⟨⟨[(.int .i64 0)], []⟩, []⟩) ∧
(((decide (bits BinOp.and IntKind.i64 (IntKind.i64.wrap b) (IntKind.i64.wrap (IntKind.i64.wrap ((1 : Int) * (2 : Int) ^ (0 : Nat)) - (1 : Int))) ≥ (0 : Int))) = true → ((ConOK Try.prog 12 (C12)) ∧ (Con.pre (C12) ⟨⟨[], []⟩, []⟩) ∧
R (.ret (.bool true)))) ∧
((decide (bits BinOp.and IntKind.i64 (IntKind.i64.wrap b) (IntKind.i64.wrap (IntKind.i64.wrap ((1 : Int) * (2 : Int) ^ (0 : Nat)) - (1 : Int))) ≥ (0 : Int))) = false → R (.ret (.bool false)))))))))))))))))) := by kernel_rfl
theorem e8x1 (p b w : Int) (sure : Bool) (R : ARes → Prop) : (vx.call 8 [hV p 0 0, .bool sure, .int .u8 w, .int .u8 b] (retK R) m0d ((32, .val (.bool false)) :: (12, Hint.con C12) :: [])) =
(((((some (.bool (decide ((0 : Int) ≤ p))) : Option Value) = some (.bool false))) ∧
((ConOK Try.prog 12 (C12)) ∧ (Con.pre (C12) ⟨⟨[], []⟩, []⟩) ∧
R (.ret (.bool true))))) := by kernel_rfl
theorem e8x2 (p b w : Int) (sure : Bool) (R : ARes → Prop) : (vx.call 8 [hV p 0 0, .bool sure, .int .u8 w, .int .u8 b] (retK R) m0d ((32, .val (.bool true)) :: (3, .val (.bool false)) :: (11, Hint.con C12) :: [])) =
(((((some (.bool (decide ((0 : Int) ≤ p))) : Option Value) = some (.bool true))) ∧
((((some (.bool (decide (p ≤ (3 : Int)))) : Option Value) = some (.bool false))) ∧
((ConOK Try.prog 12 (C12)) ∧ (Con.pre (C12) ⟨⟨[], []⟩, []⟩) ∧
R (.ret (.bool true)))))) := by kernel_rfl
theorem every_0 : IntKind.i64.wrap (IntKind.i64.wrap ((1 : Int) * (2 : Int) ^ (0 : Nat)) - (1 : Int)) = 0 := by rw [every_eq (n := 0) (by omega)]; rfl
theorem ownQ_0 {b : Int} (hb : 0 ≤ b ∧ b < 256) : bits BinOp.and IntKind.i64 (IntKind.i64.wrap b) (0 : Int) = 0 := by
  have h := ownQ_eq hb (show 0 ≤ 7 by omega)
  have h2 : ownQ b 0 = 0 := by simp [ownQ]
  rw [h2] at h
  exact h
section
variable {p mz : Int}
theorem C23n_ok (sure : Bool) (h0 : 0 ≤ p) (h3 : p ≤ 3) (m0 : 0 ≤ mz) (m7 : mz ≤ 7) : ConOK Try.prog 23 (C23n sure p mz) := by
  have e0 : decide (0 ≤ p) = true := decide_eq_true h0
  have e3 : decide (p ≤ 3) = true := decide_eq_true h3
  have f0 : decide (0 ≤ mz) = true := decide_eq_true m0
  have f7 : decide (mz ≤ 7) = true := decide_eq_true m7
  refine con_of vx_sound _ (fun y hy => ?_) rfl (fun y _ => rfl) (fun y hy => ?_) rfl (Nat.le_of_ble_eq_true rfl) (by rw [nglob]; exact Nat.zero_le _)
  · cases hy
    cases sure
    · refine ⟨_, (z23nf p mz _).mpr ?_⟩
      simp only [e0, e3, f0, f7, every_0]
      repeat' (first | with_reducible apply And.intro | with_reducible intro)
      all_goals first | exact trivial | rfl | exact Nat.le_refl _
    · refine ⟨_, (z23nt p mz _).mpr ?_⟩
      simp only [e0, e3, f0, f7, every_0]
      repeat' (first | with_reducible apply And.intro | with_reducible intro)
      all_goals first | exact trivial | rfl | exact Nat.le_refl _
  · cases hy
    intro cs hcs
    cases hcs
theorem C23e_ok (sure : Bool) (h0 : 0 ≤ p) (h3 : p ≤ 3) (m0 : 0 ≤ mz) (m7 : mz ≤ 7) : ConOK Try.prog 23 (C23e sure p mz) := by
  have e0 : decide (0 ≤ p) = true := decide_eq_true h0
  have e3 : decide (p ≤ 3) = true := decide_eq_true h3
  have f0 : decide (0 ≤ mz) = true := decide_eq_true m0
  have f7 : decide (mz ≤ 7) = true := decide_eq_true m7
  refine con_of vx_sound _ (fun y hy => ?_) rfl (fun y _ => rfl) (fun y hy => ?_) rfl (Nat.le_of_ble_eq_true rfl) (by rw [nglob]; exact Nat.zero_le _)
  · cases hy
    cases sure
    · refine ⟨_, (z23ef p mz _).mpr ?_⟩
      simp only [e0, e3, f0, f7, every_0]
      repeat' (first | with_reducible apply And.intro | with_reducible intro)
      all_goals first | exact trivial | rfl | exact Nat.le_refl _
    · refine ⟨_, (z23et p mz _).mpr ?_⟩
      simp only [e0, e3, f0, f7, every_0]
      repeat' (first | with_reducible apply And.intro | with_reducible intro)
      all_goals first | exact trivial | rfl | exact Nat.le_refl _
  · cases hy
    intro cs hcs
    cases hcs
theorem C24e_ok (sure : Bool) (h0 : 0 ≤ p) (h3 : p ≤ 3) : ConNOK Try.prog 24 (C24e sure p) := by
  refine conRow3_of rfl vx_sound (C := C24e sure p) (n := 0) (cells := []) (e := 3) (y0 := 0) (z := 0) ⟨⟨[I p, .bool sure], [(0, 0)]⟩, []⟩ (fun x => Iff.rfl) rfl rfl rfl ?_ (fun cs h => (by cases h)) (fun v hv => by cases hv) rfl (Nat.le_of_ble_eq_true rfl) (by rw [nglob]; exact Nat.zero_le _)
  have e0 : decide (0 ≤ p) = true := decide_eq_true h0
  have e3 : decide (p ≤ 3) = true := decide_eq_true h3
  cases sure
  · refine ⟨_, (z24ef p _).mpr ?_⟩
    simp only [e0, e3]
    repeat' (first | with_reducible apply And.intro | with_reducible intro)
    all_goals first | exact C83z_ok | exact trivial | rfl | exact Nat.le_refl _ | omega
  · refine ⟨_, (z24et p _).mpr ?_⟩
    simp only [e0, e3]
    repeat' (first | with_reducible apply And.intro | with_reducible intro)
    all_goals first | exact C83z_ok | exact trivial | rfl | exact Nat.le_refl _ | omega
end
theorem law8 (p b w : Int) (sure : Bool) (n c : Nat) (f : Nat → Mv) (hb : 0 ≤ b ∧ b < 256) (hw : 0 ≤ w ∧ w < 256) :
    ∃ hs, vx.call 8 [hV p n c, .bool sure, .int .u8 w, .int .u8 b] (retK fun r => r = .ret (.bool true)) (m1 (mvs n f)) hs := by
  by_cases hfar : 40 < n
  · exact ⟨_, (x8 p b w sure n c f _).mpr ⟨fun _ => ⟨C12_ok, rfl, rfl⟩, fun h => absurd (of_decide_eq_false h) (by intro hh; apply hh; split <;> omega)⟩⟩
  cases hok : okH p n f with
  | false =>
    have hwhen : ConOK Try.prog 21 ((C21 p n c f).when (.ret (.bool false))) := con_when (C21_ok p n c f (by omega)) _
    have hr : (C21 p n c f).res ⟨⟨[I p], [(n, c)]⟩, [mvs n f]⟩ = .ret (.bool false) := by show ARes.ret (.bool (okH p n f)) = _; rw [hok]
    exact ⟨_, (x8 p b w sure n c f _).mpr ⟨fun _ => ⟨C12_ok, rfl, rfl⟩, fun _ => ⟨hwhen, ⟨rfl, hr⟩, C12_ok, rfl, rfl⟩⟩⟩
  | true =>
    cases sure
    · exact law8f p b w n c f hb hw hok
    · exact law8t p b w n c f hb hw hok
theorem law8n (p b w : Int) (sure : Bool) (hb : 0 ≤ b ∧ b < 256) (hw : 0 ≤ w ∧ w < 256) :
    ∃ hs, vx.call 8 [.agg ⟨[I p, .slice none 0 0]⟩, .bool sure, .int .u8 w, .int .u8 b] (retK fun r => r = .ret (.bool true)) m0d hs := by
  have h29 := C29_ok (show 0 < 128 by omega)
  have hown := ownQ_0 hb
  obtain ⟨z, rfl⟩ := Int.eq_ofNat_of_zero_le hw.1
  have ew : (IntKind.i64.wrap (z : Int)).tmod (8 : Int) = ((z % 8 : Nat) : Int) := by rw [wrapI (by omega) (by omega)]; rfl
  have hlt : z % 8 < 8 := Nat.mod_lt z (by omega)
  have m0 : 0 ≤ (IntKind.i64.wrap (z : Int)).tmod (8 : Int) := by rw [ew]; omega
  have m7 : (IntKind.i64.wrap (z : Int)).tmod (8 : Int) ≤ 7 := by rw [ew]; omega
  have f0 : decide (0 ≤ (IntKind.i64.wrap (z : Int)).tmod (8 : Int)) = true := decide_eq_true m0
  have key : ∀ R : ARes → Prop, R (.ret (.bool true)) → ∃ hs, vx.call 8 [.agg ⟨[I p, .slice none 0 0]⟩, .bool sure, .int .u8 (z : Int), .int .u8 b] (retK R) m0d hs := by
    intro R hR
    by_cases h0 : 0 ≤ p
    · have e0 : decide (0 ≤ p) = true := decide_eq_true h0
      by_cases h3 : p ≤ 3
      · have e3 : decide (p ≤ 3) = true := decide_eq_true h3
        have hC := C23n_ok sure h0 h3 m0 m7
        have hn := C24n_ok sure h0 h3
        have he := C24e_ok sure h0 h3
        cases sure
        · refine ⟨_, (y8f p b z R).mpr ?_⟩
          simp only [e0, e3, f0, every_0, hown]
          repeat' (first | with_reducible apply And.intro | with_reducible intro)
          all_goals first | exact C12_ok | exact hR | exact h29 | exact hC | exact hn | exact he | exact trivial | rfl | exact Nat.le_refl _ | (exfalso; rename_i hx; exact absurd hx (by decide))
        · refine ⟨_, (y8t p b z R).mpr ?_⟩
          simp only [e0, e3, f0, every_0, hown]
          repeat' (first | with_reducible apply And.intro | with_reducible intro)
          all_goals first | exact C12_ok | exact hR | exact h29 | exact hC | exact hn | exact he | exact trivial | rfl | exact Nat.le_refl _ | (exfalso; rename_i hx; exact absurd hx (by decide))
      · have e3 : decide (p ≤ 3) = false := decide_eq_false h3
        exact ⟨_, (y8x2 p b z sure R).mpr ⟨by rw [e0], by rw [e3], C12_ok, rfl, hR⟩⟩
    · have e0 : decide (0 ≤ p) = false := decide_eq_false h0
      exact ⟨_, (y8x1 p b z sure R).mpr ⟨by rw [e0], C12_ok, rfl, hR⟩⟩
  exact key _ rfl
theorem law8e (p b w : Int) (sure : Bool) (hb : 0 ≤ b ∧ b < 256) (hw : 0 ≤ w ∧ w < 256) :
    ∃ hs, vx.call 8 [hV p 0 0, .bool sure, .int .u8 w, .int .u8 b] (retK fun r => r = .ret (.bool true)) m0d hs := by
  have h29 := C29_ok (show 0 < 128 by omega)
  have hown := ownQ_0 hb
  obtain ⟨z, rfl⟩ := Int.eq_ofNat_of_zero_le hw.1
  have ew : (IntKind.i64.wrap (z : Int)).tmod (8 : Int) = ((z % 8 : Nat) : Int) := by rw [wrapI (by omega) (by omega)]; rfl
  have hlt : z % 8 < 8 := Nat.mod_lt z (by omega)
  have m0 : 0 ≤ (IntKind.i64.wrap (z : Int)).tmod (8 : Int) := by rw [ew]; omega
  have m7 : (IntKind.i64.wrap (z : Int)).tmod (8 : Int) ≤ 7 := by rw [ew]; omega
  have f0 : decide (0 ≤ (IntKind.i64.wrap (z : Int)).tmod (8 : Int)) = true := decide_eq_true m0
  have key : ∀ R : ARes → Prop, R (.ret (.bool true)) → ∃ hs, vx.call 8 [hV p 0 0, .bool sure, .int .u8 (z : Int), .int .u8 b] (retK R) m0d hs := by
    intro R hR
    by_cases h0 : 0 ≤ p
    · have e0 : decide (0 ≤ p) = true := decide_eq_true h0
      by_cases h3 : p ≤ 3
      · have e3 : decide (p ≤ 3) = true := decide_eq_true h3
        have hC := C23e_ok sure h0 h3 m0 m7
        have hn := C24n_ok sure h0 h3
        have he := C24e_ok sure h0 h3
        cases sure
        · refine ⟨_, (e8f p b z R).mpr ?_⟩
          simp only [e0, e3, f0, every_0, hown]
          repeat' (first | with_reducible apply And.intro | with_reducible intro)
          all_goals first | exact C12_ok | exact hR | exact h29 | exact hC | exact hn | exact he | exact trivial | rfl | exact Nat.le_refl _ | (exfalso; rename_i hx; exact absurd hx (by decide))
        · refine ⟨_, (e8t p b z R).mpr ?_⟩
          simp only [e0, e3, f0, every_0, hown]
          repeat' (first | with_reducible apply And.intro | with_reducible intro)
          all_goals first | exact C12_ok | exact hR | exact h29 | exact hC | exact hn | exact he | exact trivial | rfl | exact Nat.le_refl _ | (exfalso; rename_i hx; exact absurd hx (by decide))
      · have e3 : decide (p ≤ 3) = false := decide_eq_false h3
        exact ⟨_, (e8x2 p b z sure R).mpr ⟨by rw [e0], by rw [e3], C12_ok, rfl, hR⟩⟩
    · have e0 : decide (0 ≤ p) = false := decide_eq_false h0
      exact ⟨_, (e8x1 p b z sure R).mpr ⟨by rw [e0], C12_ok, rfl, hR⟩⟩
  exact key _ rfl
end Go.Ab
