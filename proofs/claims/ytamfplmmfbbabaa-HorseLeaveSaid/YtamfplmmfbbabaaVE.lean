/- the law HorseLeave: its loop, and its runs where moves lie. -/
import Derived.Test.YtamfplmmfbbabaaVD
set_option maxRecDepth 100000
namespace Go.Ab
open Go Go.RowKit Go.Proofs
theorem b8 (p b ev mz sz : Int) (sure v : Bool) (n c left i : Nat) (ms : List Value) (R : Nat → AExit → Hw → Prop) : (vx.code none (.l p8) (leafW [T8, R8] R) (T8.inst (st8 p b sure n c mz left ev ms i)) ([(0, .split ((5, .val (.int .i64 ((↑left : Int) / (2 : Int) ^ i))) :: [(1, .split ((4, .val (.int .i64 (IntKind.i64.wrap ((1 : Int) * (2 : Int) ^ i)))) :: (1, Hint.con (C30i p sure n c mz sz v ms)) :: [(0, .split ([(2, .tm 1 [])]) ([(3, .tm 0 [])]))]) ([(5, .tm 0 [])]))]) ([(1, .tm 0 [])]))])) =
((((decide ((↑i : Int) < (↑n : Int))) = true → ((((((0 : Int) ≤ (↑i : Int))) ∧ (((↑i : Int) ≤ (↑(64 : Nat) : Int)))) ∧ (((.int .i64 ((↑left : Int) / (2 : Int) ^ i)) : Value) = (.int .i64 ((↑left : Int) / (2 : Int) ^ i)))) ∧
(((bits BinOp.and IntKind.i64 ((↑left : Int) / (2 : Int) ^ i) (1 : Int) == (1 : Int)) = true → ((((((0 : Int) ≤ (↑i : Int))) ∧ (((↑i : Int) ≤ (↑(64 : Nat) : Int)))) ∧ (((.int .i64 (IntKind.i64.wrap ((1 : Int) * (2 : Int) ^ i))) : Value) = (.int .i64 (IntKind.i64.wrap ((1 : Int) * (2 : Int) ^ i))))) ∧
((ConOK Try.prog (OfNat.ofNat (30 : Nat)) (C30i p sure n c mz sz v ms)) ∧ (Con.pre (C30i p sure n c mz sz v ms) ⟨⟨[(.int .i64 (bits BinOp.andNot IntKind.i64 (↑left : Int) (IntKind.i64.wrap ((1 : Int) * (2 : Int) ^ i)))), (.int .i64 p), (.bool sure), (.int .i64 mz)], [⟨n, c⟩]⟩, [(ms)]⟩) ∧
(((v) = true → R 1 .ret ⟨⟨[(.bool false)], []⟩, [], []⟩) ∧
((v) = false → R 0 .normal ⟨⟨[(.int .u8 (b)), (.int .i64 left), (.int .i64 ev), (.int .i64 n), (.int .i64 (IntKind.i64.wrap ((↑i : Int) + (1 : Int)))), (.int .i64 p), (.bool sure), (.int .i64 mz)], [⟨n, c⟩]⟩, [(ms)], []⟩))))) ∧
((bits BinOp.and IntKind.i64 ((↑left : Int) / (2 : Int) ^ i) (1 : Int) == (1 : Int)) = false → R 0 .normal ⟨⟨[(.int .u8 (b)), (.int .i64 left), (.int .i64 ev), (.int .i64 n), (.int .i64 (IntKind.i64.wrap ((↑i : Int) + (1 : Int)))), (.int .i64 p), (.bool sure), (.int .i64 mz)], [⟨n, c⟩]⟩, [(ms)], []⟩)))) ∧
((decide ((↑i : Int) < (↑n : Int))) = false → R 0 (.exit ((0 : Nat))) ⟨⟨[(.int .u8 (b)), (.int .i64 left), (.int .i64 ev), (.int .i64 n), (.int .i64 i), (.int .i64 p), (.bool sure), (.int .i64 mz)], [⟨n, c⟩]⟩, [(ms)], []⟩))) := by kernel_rfl
theorem f8t (p b w : Int) (n c left few own : Nat) (v : Bool) (f : Nat → Mv) (pl : List Value) (R : ARes → Prop) : (vx.call 8 [hV p n c, .bool true, .int .u8 w, .int .u8 b] (retK R) (m1 (mvs n f)) ([(18, .split ((7, Hint.con C12) :: []) ((4, Hint.con ((C21 p n c f).when (ARes.ret (Value.bool true)))) :: (12, Hint.con (C23i true p n c ((IntKind.i64.wrap w).tmod (8 : Int)) f left)) :: (7, Hint.conN (C24c true p n c (mvs n f) few pl)) :: (12, .val (.int .i64 (IntKind.i64.wrap ((1 : Int) * (2 : Int) ^ n)))) :: [(15, .split ([]) ((4, Hint.con (C30i p true n c ((IntKind.i64.wrap w).tmod (8 : Int)) (↑left : Int) true (mvs n f))) :: [(4, .split ([(2, .split ((7, Hint.loopW T8 (AExit.exit (0 : Nat)) T8 fun x => st8 p b true n c ((IntKind.i64.wrap w).tmod (8 : Int)) left (↑((2 : Nat) ^ n - (1 : Nat)) : Int) (mvs n f) n) :: (8, Hint.con (C30i p true n c ((IntKind.i64.wrap w).tmod (8 : Int)) (bits BinOp.and IntKind.i64 (IntKind.i64.wrap b) (↑((2 : Nat) ^ n - (1 : Nat)) : Int)) v (mvs n f))) :: [(0, .split ((5, Hint.con C12) :: []) ((3, Hint.con (C29 own)) :: (2, Hint.con (C29 left)) :: [(0, .split ((4, Hint.con C12) :: []) ((4, Hint.con (C29 own)) :: (2, Hint.con (C29 left)) :: [(0, .split ([(3, .split ((3, Hint.con C12) :: []) ([]))]) ([]))]))]))]) ([]))]) ([(2, .split ([]) ((7, Hint.loopW T8 (AExit.exit (0 : Nat)) T8 fun x => st8 p b true n c ((IntKind.i64.wrap w).tmod (8 : Int)) left (↑((2 : Nat) ^ n - (1 : Nat)) : Int) (mvs n f) n) :: (8, Hint.con (C30i p true n c ((IntKind.i64.wrap w).tmod (8 : Int)) (bits BinOp.and IntKind.i64 (IntKind.i64.wrap b) (↑((2 : Nat) ^ n - (1 : Nat)) : Int)) v (mvs n f))) :: [(0, .split ((5, Hint.con C12) :: []) ((3, Hint.con (C29 own)) :: (2, Hint.con (C29 left)) :: [(0, .split ((4, Hint.con C12) :: []) ((4, Hint.con (C29 own)) :: (2, Hint.con (C29 left)) :: [(0, .split ([(3, .split ((3, Hint.con C12) :: []) ([]))]) ([]))]))]))]))]))]))]))])) =
((((decide ((if (↑(0 : Nat) : Int) > (↑n : Int) then (↑(0 : Nat) : Int) else (↑n : Int)) > (40 : Int))) = true → ((ConOK Try.prog 12 (C12)) ∧ (Con.pre (C12) ⟨⟨[], []⟩, []⟩) ∧
R (.ret (.bool true)))) ∧
((decide ((if (↑(0 : Nat) : Int) > (↑n : Int) then (↑(0 : Nat) : Int) else (↑n : Int)) > (40 : Int))) = false → ((ConOK Try.prog 21 ((C21 p n c f).when (ARes.ret (Value.bool true)))) ∧ (Con.pre ((C21 p n c f).when (ARes.ret (Value.bool true))) ⟨⟨[(.int .i64 p)], [⟨n, c⟩]⟩, [(mvs n f)]⟩) ∧
((ConOK Try.prog 23 (C23i true p n c ((IntKind.i64.wrap w).tmod (OfNat.ofNat (8 : Nat))) f left)) ∧ (Con.pre (C23i true p n c ((IntKind.i64.wrap w).tmod (OfNat.ofNat (8 : Nat))) f left) ⟨⟨[(.int .i64 p), (.int .i64 ((IntKind.i64.wrap w).tmod (8 : Int))), (.bool true)], [⟨n, c⟩]⟩, [(mvs n f)]⟩) ∧
((ConNOK Try.prog 24 (C24c true p n c (mvs n f) few pl)) ∧ (ConN.pre (C24c true p n c (mvs n f) few pl) ⟨⟨[(.int .i64 p), (.bool true)], [⟨n, c⟩]⟩, [(mvs n f)]⟩) ∧
((((((0 : Int) ≤ (↑n : Int))) ∧ (((↑n : Int) ≤ (↑(64 : Nat) : Int)))) ∧ (((.int .i64 (IntKind.i64.wrap ((1 : Int) * (2 : Int) ^ n))) : Value) = (.int .i64 (IntKind.i64.wrap ((1 : Int) * (2 : Int) ^ n))))) ∧
(((decide ((↑left : Int) > IntKind.i64.wrap (IntKind.i64.wrap ((1 : Int) * (2 : Int) ^ n) - (1 : Int)))) = true → R (.ret (.bool false))) ∧
((decide ((↑left : Int) > IntKind.i64.wrap (IntKind.i64.wrap ((1 : Int) * (2 : Int) ^ n) - (1 : Int)))) = false → ((ConOK Try.prog 30 (C30i p true n c ((IntKind.i64.wrap w).tmod (OfNat.ofNat (8 : Nat))) (↑left : Int) true (mvs n f))) ∧ (Con.pre (C30i p true n c ((IntKind.i64.wrap w).tmod (OfNat.ofNat (8 : Nat))) (↑left : Int) true (mvs n f)) ⟨⟨[(.int .i64 left), (.int .i64 p), (.bool true), (.int .i64 ((IntKind.i64.wrap w).tmod (8 : Int)))], [⟨n, c⟩]⟩, [(mvs n f)]⟩) ∧
((((↑left : Int) == (0 : Int)) = true → (((decide ((↑few : Int) ≤ (IntKind.i64.wrap w).tmod (8 : Int))) = true → ((ClW ⟨⟨[(.int .u8 (b)), (.int .i64 left), (.int .i64 (IntKind.i64.wrap (IntKind.i64.wrap ((1 : Int) * (2 : Int) ^ n) - (1 : Int)))), (.int .i64 n), (.int .i64 0), (.int .i64 p), (.bool true), (.int .i64 ((IntKind.i64.wrap w).tmod (8 : Int)))], [⟨n, c⟩]⟩, [(mvs n f)], []⟩) ∧ (LoopOW Try.prog .none p8 (T8) ⟨⟨[(.int .u8 (b)), (.int .i64 left), (.int .i64 (IntKind.i64.wrap (IntKind.i64.wrap ((1 : Int) * (2 : Int) ^ n) - (1 : Int)))), (.int .i64 n), (.int .i64 0), (.int .i64 p), (.bool true), (.int .i64 ((IntKind.i64.wrap w).tmod (8 : Int)))], [⟨n, c⟩]⟩, [(mvs n f)], []⟩ (.exit ((0 : Nat))) (T8) ⟨⟨[(.int .u8 (b)), (.int .i64 left), (.int .i64 ((↑((2 : Nat) ^ n - (1 : Nat)) : Int))), (.int .i64 n), (.int .i64 n), (.int .i64 p), (.bool true), (.int .i64 ((IntKind.i64.wrap w).tmod (OfNat.ofNat (8 : Nat))))], [⟨n, c⟩]⟩, [(mvs n f)], []⟩) ∧
((ConOK Try.prog (OfNat.ofNat (30 : Nat)) (C30i p true n c ((IntKind.i64.wrap w).tmod (OfNat.ofNat (8 : Nat))) (bits BinOp.and IntKind.i64 (IntKind.i64.wrap b) (↑((2 : Nat) ^ n - (1 : Nat)) : Int)) v (mvs n f))) ∧ (Con.pre (C30i p true n c ((IntKind.i64.wrap w).tmod (OfNat.ofNat (8 : Nat))) (bits BinOp.and IntKind.i64 (IntKind.i64.wrap b) (↑((2 : Nat) ^ n - (1 : Nat)) : Int)) v (mvs n f)) ⟨⟨[(.int .i64 (bits BinOp.and IntKind.i64 (IntKind.i64.wrap b) (↑((2 : Nat) ^ n - (1 : Nat)) : Int))), (.int .i64 p), (.bool true), (.int .i64 ((IntKind.i64.wrap w).tmod (OfNat.ofNat (8 : Nat))))], [⟨n, c⟩]⟩, [(mvs n f)]⟩) ∧
(((!v) = true → ((ConOK Try.prog 12 (C12)) ∧ (Con.pre (C12) ⟨⟨[], []⟩, []⟩) ∧
R (.ret (.bool true)))) ∧
((!v) = false → ((ConOK Try.prog 29 (C29 own)) ∧ (Con.pre (C29 own) ⟨⟨[(.int .i64 (bits BinOp.and IntKind.i64 (IntKind.i64.wrap b) (↑((2 : Nat) ^ n - (1 : Nat)) : Int)))], []⟩, []⟩) ∧
((ConOK Try.prog 29 (C29 left)) ∧ (Con.pre (C29 left) ⟨⟨[(.int .i64 left)], []⟩, []⟩) ∧
(((decide ((↑(popN own) : Int) > (↑(popN left) : Int))) = true → ((ConOK Try.prog 12 (C12)) ∧ (Con.pre (C12) ⟨⟨[], []⟩, []⟩) ∧
R (.ret (.bool true)))) ∧
((decide ((↑(popN own) : Int) > (↑(popN left) : Int))) = false → ((ConOK Try.prog 29 (C29 own)) ∧ (Con.pre (C29 own) ⟨⟨[(.int .i64 (bits BinOp.and IntKind.i64 (IntKind.i64.wrap b) (↑((2 : Nat) ^ n - (1 : Nat)) : Int)))], []⟩, []⟩) ∧
((ConOK Try.prog 29 (C29 left)) ∧ (Con.pre (C29 left) ⟨⟨[(.int .i64 left)], []⟩, []⟩) ∧
((((↑(popN own) : Int) == (↑(popN left) : Int)) = true → (((decide (bits BinOp.and IntKind.i64 (IntKind.i64.wrap b) (↑((2 : Nat) ^ n - (1 : Nat)) : Int) ≥ (↑left : Int))) = true → ((ConOK Try.prog 12 (C12)) ∧ (Con.pre (C12) ⟨⟨[], []⟩, []⟩) ∧
R (.ret (.bool true)))) ∧
((decide (bits BinOp.and IntKind.i64 (IntKind.i64.wrap b) (↑((2 : Nat) ^ n - (1 : Nat)) : Int) ≥ (↑left : Int))) = false → R (.ret (.bool false))))) ∧
(((↑(popN own) : Int) == (↑(popN left) : Int)) = false → R (.ret (.bool false))))))))))))))) ∧
((decide ((↑few : Int) ≤ (IntKind.i64.wrap w).tmod (8 : Int))) = false → R (.ret (.bool false))))) ∧
(((↑left : Int) == (0 : Int)) = false → (((decide ((↑few : Int) ≤ (IntKind.i64.wrap w).tmod (8 : Int))) = true → R (.ret (.bool false))) ∧
((decide ((↑few : Int) ≤ (IntKind.i64.wrap w).tmod (8 : Int))) = false → ((ClW ⟨⟨[(.int .u8 (b)), (.int .i64 left), (.int .i64 (IntKind.i64.wrap (IntKind.i64.wrap ((1 : Int) * (2 : Int) ^ n) - (1 : Int)))), (.int .i64 n), (.int .i64 0), (.int .i64 p), (.bool true), (.int .i64 ((IntKind.i64.wrap w).tmod (8 : Int)))], [⟨n, c⟩]⟩, [(mvs n f)], []⟩) ∧ (LoopOW Try.prog .none p8 (T8) ⟨⟨[(.int .u8 (b)), (.int .i64 left), (.int .i64 (IntKind.i64.wrap (IntKind.i64.wrap ((1 : Int) * (2 : Int) ^ n) - (1 : Int)))), (.int .i64 n), (.int .i64 0), (.int .i64 p), (.bool true), (.int .i64 ((IntKind.i64.wrap w).tmod (8 : Int)))], [⟨n, c⟩]⟩, [(mvs n f)], []⟩ (.exit ((0 : Nat))) (T8) ⟨⟨[(.int .u8 (b)), (.int .i64 left), (.int .i64 ((↑((2 : Nat) ^ n - (1 : Nat)) : Int))), (.int .i64 n), (.int .i64 n), (.int .i64 p), (.bool true), (.int .i64 ((IntKind.i64.wrap w).tmod (OfNat.ofNat (8 : Nat))))], [⟨n, c⟩]⟩, [(mvs n f)], []⟩) ∧
((ConOK Try.prog (OfNat.ofNat (30 : Nat)) (C30i p true n c ((IntKind.i64.wrap w).tmod (OfNat.ofNat (8 : Nat))) (bits BinOp.and IntKind.i64 (IntKind.i64.wrap b) (↑((2 : Nat) ^ n - (1 : Nat)) : Int)) v (mvs n f))) ∧ (Con.pre (C30i p true n c ((IntKind.i64.wrap w).tmod (OfNat.ofNat (8 : Nat))) (bits BinOp.and IntKind.i64 (IntKind.i64.wrap b) (↑((2 : Nat) ^ n - (1 : Nat)) : Int)) v (mvs n f)) ⟨⟨[(.int .i64 (bits BinOp.and IntKind.i64 (IntKind.i64.wrap b) (↑((2 : Nat) ^ n - (1 : Nat)) : Int))), (.int .i64 p), (.bool true), (.int .i64 ((IntKind.i64.wrap w).tmod (OfNat.ofNat (8 : Nat))))], [⟨n, c⟩]⟩, [(mvs n f)]⟩) ∧
(((!v) = true → ((ConOK Try.prog 12 (C12)) ∧ (Con.pre (C12) ⟨⟨[], []⟩, []⟩) ∧
R (.ret (.bool true)))) ∧
((!v) = false → ((ConOK Try.prog 29 (C29 own)) ∧ (Con.pre (C29 own) ⟨⟨[(.int .i64 (bits BinOp.and IntKind.i64 (IntKind.i64.wrap b) (↑((2 : Nat) ^ n - (1 : Nat)) : Int)))], []⟩, []⟩) ∧
((ConOK Try.prog 29 (C29 left)) ∧ (Con.pre (C29 left) ⟨⟨[(.int .i64 left)], []⟩, []⟩) ∧
(((decide ((↑(popN own) : Int) > (↑(popN left) : Int))) = true → ((ConOK Try.prog 12 (C12)) ∧ (Con.pre (C12) ⟨⟨[], []⟩, []⟩) ∧
R (.ret (.bool true)))) ∧
((decide ((↑(popN own) : Int) > (↑(popN left) : Int))) = false → ((ConOK Try.prog 29 (C29 own)) ∧ (Con.pre (C29 own) ⟨⟨[(.int .i64 (bits BinOp.and IntKind.i64 (IntKind.i64.wrap b) (↑((2 : Nat) ^ n - (1 : Nat)) : Int)))], []⟩, []⟩) ∧
((ConOK Try.prog 29 (C29 left)) ∧ (Con.pre (C29 left) ⟨⟨[(.int .i64 left)], []⟩, []⟩) ∧
((((↑(popN own) : Int) == (↑(popN left) : Int)) = true → (((decide (bits BinOp.and IntKind.i64 (IntKind.i64.wrap b) (↑((2 : Nat) ^ n - (1 : Nat)) : Int) ≥ (↑left : Int))) = true → ((ConOK Try.prog 12 (C12)) ∧ (Con.pre (C12) ⟨⟨[], []⟩, []⟩) ∧
R (.ret (.bool true)))) ∧
((decide (bits BinOp.and IntKind.i64 (IntKind.i64.wrap b) (↑((2 : Nat) ^ n - (1 : Nat)) : Int) ≥ (↑left : Int))) = false → R (.ret (.bool false))))) ∧
(((↑(popN own) : Int) == (↑(popN left) : Int)) = false → R (.ret (.bool false)))))))))))))))))))))))))))) := by kernel_rfl
theorem f8f (p b w : Int) (n c left few own : Nat) (v : Bool) (f : Nat → Mv) (pl : List Value) (R : ARes → Prop) : (vx.call 8 [hV p n c, .bool false, .int .u8 w, .int .u8 b] (retK R) (m1 (mvs n f)) ([(18, .split ((7, Hint.con C12) :: []) ((4, Hint.con ((C21 p n c f).when (ARes.ret (Value.bool true)))) :: (12, Hint.con (C23i false p n c ((IntKind.i64.wrap w).tmod (8 : Int)) f left)) :: (7, Hint.conN (C24c false p n c (mvs n f) few pl)) :: (12, .val (.int .i64 (IntKind.i64.wrap ((1 : Int) * (2 : Int) ^ n)))) :: [(15, .split ([]) ((4, Hint.con (C30i p false n c ((IntKind.i64.wrap w).tmod (8 : Int)) (↑left : Int) true (mvs n f))) :: [(4, .split ([(2, .split ((7, Hint.loopW T8 (AExit.exit (0 : Nat)) T8 fun x => st8 p b false n c ((IntKind.i64.wrap w).tmod (8 : Int)) left (↑((2 : Nat) ^ n - (1 : Nat)) : Int) (mvs n f) n) :: (8, Hint.con (C30i p false n c ((IntKind.i64.wrap w).tmod (8 : Int)) (bits BinOp.and IntKind.i64 (IntKind.i64.wrap b) (↑((2 : Nat) ^ n - (1 : Nat)) : Int)) v (mvs n f))) :: [(0, .split ((5, Hint.con C12) :: []) ((3, Hint.con (C29 own)) :: (2, Hint.con (C29 left)) :: [(0, .split ((4, Hint.con C12) :: []) ((4, Hint.con (C29 own)) :: (2, Hint.con (C29 left)) :: [(0, .split ([(3, .split ((3, Hint.con C12) :: []) ([]))]) ([]))]))]))]) ([]))]) ([(2, .split ([]) ((7, Hint.loopW T8 (AExit.exit (0 : Nat)) T8 fun x => st8 p b false n c ((IntKind.i64.wrap w).tmod (8 : Int)) left (↑((2 : Nat) ^ n - (1 : Nat)) : Int) (mvs n f) n) :: (8, Hint.con (C30i p false n c ((IntKind.i64.wrap w).tmod (8 : Int)) (bits BinOp.and IntKind.i64 (IntKind.i64.wrap b) (↑((2 : Nat) ^ n - (1 : Nat)) : Int)) v (mvs n f))) :: [(0, .split ((5, Hint.con C12) :: []) ((3, Hint.con (C29 own)) :: (2, Hint.con (C29 left)) :: [(0, .split ((4, Hint.con C12) :: []) ((4, Hint.con (C29 own)) :: (2, Hint.con (C29 left)) :: [(0, .split ([(3, .split ((3, Hint.con C12) :: []) ([]))]) ([]))]))]))]))]))]))]))])) =
((((decide ((if (↑(0 : Nat) : Int) > (↑n : Int) then (↑(0 : Nat) : Int) else (↑n : Int)) > (40 : Int))) = true → ((ConOK Try.prog 12 (C12)) ∧ (Con.pre (C12) ⟨⟨[], []⟩, []⟩) ∧
R (.ret (.bool true)))) ∧
((decide ((if (↑(0 : Nat) : Int) > (↑n : Int) then (↑(0 : Nat) : Int) else (↑n : Int)) > (40 : Int))) = false → ((ConOK Try.prog 21 ((C21 p n c f).when (ARes.ret (Value.bool true)))) ∧ (Con.pre ((C21 p n c f).when (ARes.ret (Value.bool true))) ⟨⟨[(.int .i64 p)], [⟨n, c⟩]⟩, [(mvs n f)]⟩) ∧
((ConOK Try.prog 23 (C23i false p n c ((IntKind.i64.wrap w).tmod (OfNat.ofNat (8 : Nat))) f left)) ∧ (Con.pre (C23i false p n c ((IntKind.i64.wrap w).tmod (OfNat.ofNat (8 : Nat))) f left) ⟨⟨[(.int .i64 p), (.int .i64 ((IntKind.i64.wrap w).tmod (8 : Int))), (.bool false)], [⟨n, c⟩]⟩, [(mvs n f)]⟩) ∧
((ConNOK Try.prog 24 (C24c false p n c (mvs n f) few pl)) ∧ (ConN.pre (C24c false p n c (mvs n f) few pl) ⟨⟨[(.int .i64 p), (.bool false)], [⟨n, c⟩]⟩, [(mvs n f)]⟩) ∧
((((((0 : Int) ≤ (↑n : Int))) ∧ (((↑n : Int) ≤ (↑(64 : Nat) : Int)))) ∧ (((.int .i64 (IntKind.i64.wrap ((1 : Int) * (2 : Int) ^ n))) : Value) = (.int .i64 (IntKind.i64.wrap ((1 : Int) * (2 : Int) ^ n))))) ∧
(((decide ((↑left : Int) > IntKind.i64.wrap (IntKind.i64.wrap ((1 : Int) * (2 : Int) ^ n) - (1 : Int)))) = true → R (.ret (.bool false))) ∧
((decide ((↑left : Int) > IntKind.i64.wrap (IntKind.i64.wrap ((1 : Int) * (2 : Int) ^ n) - (1 : Int)))) = false → ((ConOK Try.prog 30 (C30i p false n c ((IntKind.i64.wrap w).tmod (OfNat.ofNat (8 : Nat))) (↑left : Int) true (mvs n f))) ∧ (Con.pre (C30i p false n c ((IntKind.i64.wrap w).tmod (OfNat.ofNat (8 : Nat))) (↑left : Int) true (mvs n f)) ⟨⟨[(.int .i64 left), (.int .i64 p), (.bool false), (.int .i64 ((IntKind.i64.wrap w).tmod (8 : Int)))], [⟨n, c⟩]⟩, [(mvs n f)]⟩) ∧
((((↑left : Int) == (0 : Int)) = true → (((decide ((↑few : Int) ≤ (IntKind.i64.wrap w).tmod (8 : Int))) = true → ((ClW ⟨⟨[(.int .u8 (b)), (.int .i64 left), (.int .i64 (IntKind.i64.wrap (IntKind.i64.wrap ((1 : Int) * (2 : Int) ^ n) - (1 : Int)))), (.int .i64 n), (.int .i64 0), (.int .i64 p), (.bool false), (.int .i64 ((IntKind.i64.wrap w).tmod (8 : Int)))], [⟨n, c⟩]⟩, [(mvs n f)], []⟩) ∧ (LoopOW Try.prog .none p8 (T8) ⟨⟨[(.int .u8 (b)), (.int .i64 left), (.int .i64 (IntKind.i64.wrap (IntKind.i64.wrap ((1 : Int) * (2 : Int) ^ n) - (1 : Int)))), (.int .i64 n), (.int .i64 0), (.int .i64 p), (.bool false), (.int .i64 ((IntKind.i64.wrap w).tmod (8 : Int)))], [⟨n, c⟩]⟩, [(mvs n f)], []⟩ (.exit ((0 : Nat))) (T8) ⟨⟨[(.int .u8 (b)), (.int .i64 left), (.int .i64 ((↑((2 : Nat) ^ n - (1 : Nat)) : Int))), (.int .i64 n), (.int .i64 n), (.int .i64 p), (.bool false), (.int .i64 ((IntKind.i64.wrap w).tmod (OfNat.ofNat (8 : Nat))))], [⟨n, c⟩]⟩, [(mvs n f)], []⟩) ∧
((ConOK Try.prog (OfNat.ofNat (30 : Nat)) (C30i p false n c ((IntKind.i64.wrap w).tmod (OfNat.ofNat (8 : Nat))) (bits BinOp.and IntKind.i64 (IntKind.i64.wrap b) (↑((2 : Nat) ^ n - (1 : Nat)) : Int)) v (mvs n f))) ∧ (Con.pre (C30i p false n c ((IntKind.i64.wrap w).tmod (OfNat.ofNat (8 : Nat))) (bits BinOp.and IntKind.i64 (IntKind.i64.wrap b) (↑((2 : Nat) ^ n - (1 : Nat)) : Int)) v (mvs n f)) ⟨⟨[(.int .i64 (bits BinOp.and IntKind.i64 (IntKind.i64.wrap b) (↑((2 : Nat) ^ n - (1 : Nat)) : Int))), (.int .i64 p), (.bool false), (.int .i64 ((IntKind.i64.wrap w).tmod (OfNat.ofNat (8 : Nat))))], [⟨n, c⟩]⟩, [(mvs n f)]⟩) ∧
(((!v) = true → ((ConOK Try.prog 12 (C12)) ∧ (Con.pre (C12) ⟨⟨[], []⟩, []⟩) ∧
R (.ret (.bool true)))) ∧
((!v) = false → ((ConOK Try.prog 29 (C29 own)) ∧ (Con.pre (C29 own) ⟨⟨[(.int .i64 (bits BinOp.and IntKind.i64 (IntKind.i64.wrap b) (↑((2 : Nat) ^ n - (1 : Nat)) : Int)))], []⟩, []⟩) ∧
((ConOK Try.prog 29 (C29 left)) ∧ (Con.pre (C29 left) ⟨⟨[(.int .i64 left)], []⟩, []⟩) ∧
(((decide ((↑(popN own) : Int) > (↑(popN left) : Int))) = true → ((ConOK Try.prog 12 (C12)) ∧ (Con.pre (C12) ⟨⟨[], []⟩, []⟩) ∧
R (.ret (.bool true)))) ∧
((decide ((↑(popN own) : Int) > (↑(popN left) : Int))) = false → ((ConOK Try.prog 29 (C29 own)) ∧ (Con.pre (C29 own) ⟨⟨[(.int .i64 (bits BinOp.and IntKind.i64 (IntKind.i64.wrap b) (↑((2 : Nat) ^ n - (1 : Nat)) : Int)))], []⟩, []⟩) ∧
((ConOK Try.prog 29 (C29 left)) ∧ (Con.pre (C29 left) ⟨⟨[(.int .i64 left)], []⟩, []⟩) ∧
((((↑(popN own) : Int) == (↑(popN left) : Int)) = true → (((decide (bits BinOp.and IntKind.i64 (IntKind.i64.wrap b) (↑((2 : Nat) ^ n - (1 : Nat)) : Int) ≥ (↑left : Int))) = true → ((ConOK Try.prog 12 (C12)) ∧ (Con.pre (C12) ⟨⟨[], []⟩, []⟩) ∧
R (.ret (.bool true)))) ∧
((decide (bits BinOp.and IntKind.i64 (IntKind.i64.wrap b) (↑((2 : Nat) ^ n - (1 : Nat)) : Int) ≥ (↑left : Int))) = false → R (.ret (.bool false))))) ∧
(((↑(popN own) : Int) == (↑(popN left) : Int)) = false → R (.ret (.bool false))))))))))))))) ∧
((decide ((↑few : Int) ≤ (IntKind.i64.wrap w).tmod (8 : Int))) = false → R (.ret (.bool false))))) ∧
(((↑left : Int) == (0 : Int)) = false → (((decide ((↑few : Int) ≤ (IntKind.i64.wrap w).tmod (8 : Int))) = true → R (.ret (.bool false))) ∧
((decide ((↑few : Int) ≤ (IntKind.i64.wrap w).tmod (8 : Int))) = false → ((ClW ⟨⟨[(.int .u8 (b)), (.int .i64 left), (.int .i64 (IntKind.i64.wrap (IntKind.i64.wrap ((1 : Int) * (2 : Int) ^ n) - (1 : Int)))), (.int .i64 n), (.int .i64 0), (.int .i64 p), (.bool false), (.int .i64 ((IntKind.i64.wrap w).tmod (8 : Int)))], [⟨n, c⟩]⟩, [(mvs n f)], []⟩) ∧ (LoopOW Try.prog .none p8 (T8) ⟨⟨[(.int .u8 (b)), (.int .i64 left), (.int .i64 (IntKind.i64.wrap (IntKind.i64.wrap ((1 : Int) * (2 : Int) ^ n) - (1 : Int)))), (.int .i64 n), (.int .i64 0), (.int .i64 p), (.bool false), (.int .i64 ((IntKind.i64.wrap w).tmod (8 : Int)))], [⟨n, c⟩]⟩, [(mvs n f)], []⟩ (.exit ((0 : Nat))) (T8) ⟨⟨[(.int .u8 (b)), (.int .i64 left), (.int .i64 ((↑((2 : Nat) ^ n - (1 : Nat)) : Int))), (.int .i64 n), (.int .i64 n), (.int .i64 p), (.bool false), (.int .i64 ((IntKind.i64.wrap w).tmod (OfNat.ofNat (8 : Nat))))], [⟨n, c⟩]⟩, [(mvs n f)], []⟩) ∧
((ConOK Try.prog (OfNat.ofNat (30 : Nat)) (C30i p false n c ((IntKind.i64.wrap w).tmod (OfNat.ofNat (8 : Nat))) (bits BinOp.and IntKind.i64 (IntKind.i64.wrap b) (↑((2 : Nat) ^ n - (1 : Nat)) : Int)) v (mvs n f))) ∧ (Con.pre (C30i p false n c ((IntKind.i64.wrap w).tmod (OfNat.ofNat (8 : Nat))) (bits BinOp.and IntKind.i64 (IntKind.i64.wrap b) (↑((2 : Nat) ^ n - (1 : Nat)) : Int)) v (mvs n f)) ⟨⟨[(.int .i64 (bits BinOp.and IntKind.i64 (IntKind.i64.wrap b) (↑((2 : Nat) ^ n - (1 : Nat)) : Int))), (.int .i64 p), (.bool false), (.int .i64 ((IntKind.i64.wrap w).tmod (OfNat.ofNat (8 : Nat))))], [⟨n, c⟩]⟩, [(mvs n f)]⟩) ∧
(((!v) = true → ((ConOK Try.prog 12 (C12)) ∧ (Con.pre (C12) ⟨⟨[], []⟩, []⟩) ∧
R (.ret (.bool true)))) ∧
((!v) = false → ((ConOK Try.prog 29 (C29 own)) ∧ (Con.pre (C29 own) ⟨⟨[(.int .i64 (bits BinOp.and IntKind.i64 (IntKind.i64.wrap b) (↑((2 : Nat) ^ n - (1 : Nat)) : Int)))], []⟩, []⟩) ∧
((ConOK Try.prog 29 (C29 left)) ∧ (Con.pre (C29 left) ⟨⟨[(.int .i64 left)], []⟩, []⟩) ∧
(((decide ((↑(popN own) : Int) > (↑(popN left) : Int))) = true → ((ConOK Try.prog 12 (C12)) ∧ (Con.pre (C12) ⟨⟨[], []⟩, []⟩) ∧
R (.ret (.bool true)))) ∧
((decide ((↑(popN own) : Int) > (↑(popN left) : Int))) = false → ((ConOK Try.prog 29 (C29 own)) ∧ (Con.pre (C29 own) ⟨⟨[(.int .i64 (bits BinOp.and IntKind.i64 (IntKind.i64.wrap b) (↑((2 : Nat) ^ n - (1 : Nat)) : Int)))], []⟩, []⟩) ∧
((ConOK Try.prog 29 (C29 left)) ∧ (Con.pre (C29 left) ⟨⟨[(.int .i64 left)], []⟩, []⟩) ∧
((((↑(popN own) : Int) == (↑(popN left) : Int)) = true → (((decide (bits BinOp.and IntKind.i64 (IntKind.i64.wrap b) (↑((2 : Nat) ^ n - (1 : Nat)) : Int) ≥ (↑left : Int))) = true → ((ConOK Try.prog 12 (C12)) ∧ (Con.pre (C12) ⟨⟨[], []⟩, []⟩) ∧
R (.ret (.bool true)))) ∧
((decide (bits BinOp.and IntKind.i64 (IntKind.i64.wrap b) (↑((2 : Nat) ^ n - (1 : Nat)) : Int) ≥ (↑left : Int))) = false → R (.ret (.bool false))))) ∧
(((↑(popN own) : Int) == (↑(popN left) : Int)) = false → R (.ret (.bool false)))))))))))))))))))))))))))) := by kernel_rfl
theorem z24ct (p : Int) (c : Nat) (f : Nat → Mv) (R : Hx → Prop) : (vx.call 24 [hV p 0 c, .bool true] (retN (rowT3 1 3) R) (m1 (mvs 0 f)) ((20, Hint.con (C68t p (0 : Nat) c f)) :: (19, Hint.again) :: (0, Hint.con (C44 true p (0 : Nat) c f)) :: (0, Hint.again) :: (22, Hint.con (C83z (ordF true p (0 : Nat) f (0 : Nat)))) :: [(58, Hint.tm (0 : Nat) [((1 : Nat), (19 : Nat))])])) =
(((ConOK Try.prog 68 (C68t p (0 : Nat) c f)) ∧ (Con.pre (C68t p (0 : Nat) c f) ⟨⟨[(.int .i64 p)], [⟨0, c⟩]⟩, [[]]⟩) ∧
((((((2 : Nat) ≤ (2 : Nat))) ∧ (((.agg ⟨[(.int .i64 p), (.slice (.some ⟨0, 0, .none⟩) ((0 : Nat)) (c))]⟩) : Value) = (.agg ⟨[(.int .i64 p), (.slice (.some ⟨0, 0, .none⟩) ((0 : Nat)) (c))]⟩))) ∧ (((((2 : Nat) ≤ (2 : Nat))) ∧ (((.agg ⟨[(.int .i64 p), (.slice (.some ⟨0, 0, .none⟩) ((0 : Nat)) (c))]⟩) : Value) = (.agg ⟨[(.int .i64 p), (.slice (.some ⟨0, 0, .none⟩) ((0 : Nat)) (c))]⟩))) ∧ (True))) ∧
((ConOK Try.prog 44 (C44 true p (0 : Nat) c f)) ∧ (Con.pre (C44 true p (0 : Nat) c f) ⟨⟨[(.int .i64 p)], [⟨0, c⟩]⟩, [[]]⟩) ∧
((((((2 : Nat) ≤ (2 : Nat))) ∧ (((.agg ⟨[(.int .i64 p), (.slice (.some ⟨0, 0, .none⟩) ((0 : Nat)) (c))]⟩) : Value) = (.agg ⟨[(.int .i64 p), (.slice (.some ⟨0, 0, .none⟩) ((0 : Nat)) (c))]⟩))) ∧ (True)) ∧
((ConOK Try.prog 83 (C83z (ordF true p (0 : Nat) f (0 : Nat)))) ∧ (Con.pre (C83z (ordF true p (0 : Nat) f (0 : Nat))) ⟨⟨[(.int .i64 0), (.int .i64 0), (.int .i64 0), (.int .i64 0), (.int .i64 0), (.int .i64 0), (.int .i64 0)], []⟩, []⟩) ∧
R ⟨⟨[(.int .i64 0), (.int .i64 0)], [⟨((0 : Nat)), ((0 : Nat))⟩]⟩, [[]]⟩)))))) := by kernel_rfl
theorem z24cf (p : Int) (c : Nat) (f : Nat → Mv) (R : Hx → Prop) : (vx.call 24 [hV p 0 c, .bool false] (retN (rowT3 1 3) R) (m1 (mvs 0 f)) ((20, Hint.con (C68t p (0 : Nat) c f)) :: (19, Hint.again) :: (0, Hint.con (C44 false p (0 : Nat) c f)) :: (0, Hint.again) :: (22, Hint.con (C83z (ordF false p (0 : Nat) f (0 : Nat)))) :: [(58, Hint.tm (0 : Nat) [((1 : Nat), (19 : Nat))])])) =
(((ConOK Try.prog 68 (C68t p (0 : Nat) c f)) ∧ (Con.pre (C68t p (0 : Nat) c f) ⟨⟨[(.int .i64 p)], [⟨0, c⟩]⟩, [[]]⟩) ∧
((((((2 : Nat) ≤ (2 : Nat))) ∧ (((.agg ⟨[(.int .i64 p), (.slice (.some ⟨0, 0, .none⟩) ((0 : Nat)) (c))]⟩) : Value) = (.agg ⟨[(.int .i64 p), (.slice (.some ⟨0, 0, .none⟩) ((0 : Nat)) (c))]⟩))) ∧ (((((2 : Nat) ≤ (2 : Nat))) ∧ (((.agg ⟨[(.int .i64 p), (.slice (.some ⟨0, 0, .none⟩) ((0 : Nat)) (c))]⟩) : Value) = (.agg ⟨[(.int .i64 p), (.slice (.some ⟨0, 0, .none⟩) ((0 : Nat)) (c))]⟩))) ∧ (True))) ∧
((ConOK Try.prog 44 (C44 false p (0 : Nat) c f)) ∧ (Con.pre (C44 false p (0 : Nat) c f) ⟨⟨[(.int .i64 p)], [⟨0, c⟩]⟩, [[]]⟩) ∧
((((((2 : Nat) ≤ (2 : Nat))) ∧ (((.agg ⟨[(.int .i64 p), (.slice (.some ⟨0, 0, .none⟩) ((0 : Nat)) (c))]⟩) : Value) = (.agg ⟨[(.int .i64 p), (.slice (.some ⟨0, 0, .none⟩) ((0 : Nat)) (c))]⟩))) ∧ (True)) ∧
((ConOK Try.prog 83 (C83z (ordF false p (0 : Nat) f (0 : Nat)))) ∧ (Con.pre (C83z (ordF false p (0 : Nat) f (0 : Nat))) ⟨⟨[(.int .i64 0), (.int .i64 0), (.int .i64 0), (.int .i64 0), (.int .i64 0), (.int .i64 0), (.int .i64 0)], []⟩, []⟩) ∧
R ⟨⟨[(.int .i64 0), (.int .i64 0)], [⟨((0 : Nat)), ((0 : Nat))⟩]⟩, [[]]⟩)))))) := by kernel_rfl
theorem clears : ((List.range 128).all fun a => (List.range 7).all fun i => !a.testBit i || (decide (bits BinOp.andNot IntKind.i64 (a : Int) ((2 ^ i : Nat) : Int) = ((a - 2 ^ i : Nat) : Int)) && decide (popN (a - 2 ^ i) < popN a))) = true := by kernel_rfl
theorem clear_eq {a i : Nat} (ha : a < 128) (hi : i < 7) (hb : a.testBit i = true) : bits BinOp.andNot IntKind.i64 (a : Int) ((2 ^ i : Nat) : Int) = ((a - 2 ^ i : Nat) : Int) ∧ popN (a - 2 ^ i) < popN a := by
  have h := List.all_eq_true.1 (List.all_eq_true.1 clears a (List.mem_range.2 ha)) i (List.mem_range.2 hi)
  rw [hb] at h
  simp only [Bool.not_true, Bool.false_or, Bool.and_eq_true] at h
  exact ⟨of_decide_eq_true h.1, of_decide_eq_true h.2⟩
section
variable {p : Int} {n c many : Nat} {f : Nat → Mv} {sure : Bool}
theorem C23i_ok (sure : Bool) {mz : Int} (hok : okH p n f = true) (hm : many ≤ 7) (hz : mz = many) : ConOK Try.prog 23 (C23i sure p n c mz f (leaveH sure p n f many)) := by
  subst hz
  exact C23_ok sure hok hm
theorem cl8 {b ev mz : Int} {left : Nat} (i : Nat) : ClW (st8 p b sure n c mz left ev (mvs n f) i) :=
  ⟨fun cs hc => by simp only [st8, List.mem_singleton] at hc; subst hc; exact mvs_atoms n f _ (by simp), fun es hc => (by cases hc)⟩
theorem leave_lt (h : HOK p n f) : leaveH sure p n f many < 128 := Nat.lt_of_lt_of_le (leave_least h).lt (two_pow_lt h.n7).1
theorem loop8 (h : HOK p n f) {b ev mz : Int} (hm : mz = many) : LoopOW Try.prog none p8 T8 (st8 p b sure n c mz (leaveH sure p n f many) ev (mvs n f) 0) (.exit 0) T8 (st8 p b sure n c mz (leaveH sure p n f many) ev (mvs n f) n) := by
  have hL := leave_least (sure := sure) (many := many) h
  have h128 := leave_lt (sure := sure) (many := many) h
  have h7 := h.n7
  generalize hl : leaveH sure p n f many = left at hL h128
  refine loop_forW (Ts := [T8, R8]) (k := 7) (n := n) (e := .exit 0) (st := fun i => (0, st8 p b sure n c mz left ev (mvs n f) i)) rfl vx_sound ?_ (by rw [nglob]; omega) ⟨by simp, trivial⟩ (fun i _ => cl8 i) (fun i hi R hR => ?_) (fun R hR => ?_) rfl (Nat.le_of_ble_eq_true rfl) (by decide) rfl
  · intro T hT
    simp only [List.mem_cons, List.not_mem_nil, or_false] at hT
    rcases hT with rfl | rfl <;> rfl
  · have hw : IntKind.i64.wrap ((i : Int) + 1) = ((i + 1 : Nat) : Int) := wrapI (by omega) (by omega)
    cases hb : left.testBit i with
    | false =>
      refine ⟨T8, _, rfl, (b8 p b ev mz 0 sure false n c left i (mvs n f) R).mpr ⟨fun _ => ⟨⟨⟨by omega, by omega⟩, rfl⟩, fun hx => ?_, fun _ => ?_⟩, fun h => absurd (by omega) (of_decide_eq_false h)⟩⟩
      · rw [bitQ h128, hb] at hx; cases hx
      · rw [hw]; exact hR
    | true =>
      obtain ⟨c1, c2⟩ := clear_eq h128 (show i < 7 by omega) hb
      have hlt : left - 2 ^ i < 2 ^ n := Nat.lt_of_le_of_lt (Nat.sub_le _ _) hL.lt
      have hno : decide (fewW sure p n f (left - 2 ^ i) ≤ many) = false := by
        cases hx : decide (fewW sure p n f (left - 2 ^ i) ≤ many) with
        | false => rfl
        | true => rcases hL.min (left - 2 ^ i) hlt hx with h1 | h1 <;> omega
      have hC := C30i_ok (sure := sure) (c := c) (many := many) (mz := mz) (sz := ((left - 2 ^ i : Nat) : Int)) h (s := left - 2 ^ i) (v := false) (Nat.lt_of_lt_of_le hlt (two_pow_lt h7).1) rfl hm hno.symm
      have hp : IntKind.i64.wrap ((1 : Int) * (2 : Int) ^ i) = ((2 ^ i : Nat) : Int) := by
        have e : (1 : Int) * 2 ^ i = ((2 ^ i : Nat) : Int) := by simp
        obtain ⟨z1, z2⟩ := two_pow_lt (n := i) (by omega)
        rw [e]
        exact wrapI (by omega) (by omega)
      refine ⟨T8, _, rfl, (b8 p b ev mz ((left - 2 ^ i : Nat) : Int) sure false n c left i (mvs n f) R).mpr ⟨fun _ => ⟨⟨⟨by omega, by omega⟩, rfl⟩, fun _ => ⟨⟨⟨by omega, by omega⟩, rfl⟩, hC, ?_, fun h => (by cases h), fun _ => ?_⟩, fun hx => ?_⟩, fun h => absurd (by omega) (of_decide_eq_false h)⟩⟩
      · rw [hp, c1]; rfl
      · rw [hw]; exact hR
      · rw [bitQ h128, hb] at hx; cases hx
  · exact ⟨T8, _, rfl, (b8 p b ev mz 0 sure false n c left n (mvs n f) R).mpr ⟨fun h => absurd (of_decide_eq_true h) (by omega), fun _ => hR⟩⟩
theorem C24y_ok {c : Nat} (sure : Bool) (hok : okH p 0 f = true) : ConNOK Try.prog 24 (C24c sure p 0 c (mvs 0 f) 0 (ints 0 fun _ => 0)) := by
  refine conRow3_of rfl vx_sound (C := C24c sure p 0 c (mvs 0 f) 0 (ints 0 fun _ => 0)) (n := 0) (cells := []) (e := 3) (y0 := 0) (z := 0) ⟨⟨[I p, .bool sure], [(0, c)]⟩, [mvs 0 f]⟩ (fun x => Iff.rfl) rfl rfl rfl ?_ (mvs_atoms 0 f) (fun v hv => by cases hv) rfl (Nat.le_of_ble_eq_true rfl) (by rw [nglob]; exact Nat.zero_le _)
  cases sure
  · exact ⟨_, (z24cf p c f _).mpr ⟨C68t_ok p 0 c f (by omega), ⟨rfl, hok⟩, ⟨⟨Nat.le_refl _, rfl⟩, ⟨Nat.le_refl _, rfl⟩, trivial⟩, C44_ok _ p 0 c f (by omega), rfl, ⟨⟨Nat.le_refl _, rfl⟩, trivial⟩, C83z_ok, rfl, rfl⟩⟩
  · exact ⟨_, (z24ct p c f _).mpr ⟨C68t_ok p 0 c f (by omega), ⟨rfl, hok⟩, ⟨⟨Nat.le_refl _, rfl⟩, ⟨Nat.le_refl _, rfl⟩, trivial⟩, C44_ok _ p 0 c f (by omega), rfl, ⟨⟨Nat.le_refl _, rfl⟩, trivial⟩, C83z_ok, rfl, rfl⟩⟩
theorem C24any (sure : Bool) (hok : okH p n f = true) : ∃ pl, ConNOK Try.prog 24 (C24c sure p n c (mvs n f) (fewH sure p n f) pl) := by
  have h7 := (okH_iff hok).n7
  rcases Nat.eq_zero_or_pos n with h0 | h0
  · subst h0; exact ⟨_, C24y_ok sure hok⟩
  · exact ⟨_, C24_ok sure hok h7 h0⟩
def ownQ (b : Int) (n : Nat) : Nat := b.toNat &&& (2 ^ n - 1)
theorem ownQ_lt (b : Int) (n : Nat) : ownQ b n < 2 ^ n := Nat.and_lt_two_pow _ (by have := Nat.pow_pos (n := n) (show 0 < 2 by omega); omega)
theorem every_eq (hn : n ≤ 7) : IntKind.i64.wrap (IntKind.i64.wrap ((1 : Int) * (2 : Int) ^ n) - (1 : Int)) = ((2 ^ n - 1 : Nat) : Int) := by
  obtain ⟨h1, h2⟩ := two_pow_lt hn
  have e : (1 : Int) * 2 ^ n = ((2 ^ n : Nat) : Int) := by simp
  rw [e]
  generalize 2 ^ n = z at h1 h2
  rw [wrapI (x := (z : Int)) (by omega) (by omega), wrapI (by omega) (by omega)]
  omega
theorem ownQ_eq {b : Int} {n : Nat} (hb : 0 ≤ b ∧ b < 256) (hn : n ≤ 7) : bits BinOp.and IntKind.i64 (IntKind.i64.wrap b) ((2 ^ n - 1 : Nat) : Int) = (ownQ b n : Nat) := by
  obtain ⟨h1, h2⟩ := two_pow_lt hn
  obtain ⟨m, rfl⟩ := Int.eq_ofNat_of_zero_le hb.1
  rw [wrapI (by omega) (by omega)]
  exact and_nat m _ (by omega) (by omega)
end
theorem law8t (p b w : Int) (n c : Nat) (f : Nat → Mv) (hb : 0 ≤ b ∧ b < 256) (hw : 0 ≤ w ∧ w < 256) (hok : okH p n f = true) :
    ∃ hs, vx.call 8 [hV p n c, .bool true, .int .u8 w, .int .u8 b] (retK fun r => r = .ret (.bool true)) (m1 (mvs n f)) hs := by
  have hH := okH_iff hok
  have h7 := hH.n7
  have hwhen : ConOK Try.prog 21 ((C21 p n c f).when (.ret (.bool true))) := con_when (C21_ok p n c f (by omega)) _
  have hr : (C21 p n c f).res ⟨⟨[I p], [(n, c)]⟩, [mvs n f]⟩ = .ret (.bool true) := by show ARes.ret (.bool (okH p n f)) = _; rw [hok]
  obtain ⟨z, rfl⟩ := Int.eq_ofNat_of_zero_le hw.1
  have ew : (IntKind.i64.wrap (z : Int)).tmod (8 : Int) = ((z % 8 : Nat) : Int) := by rw [wrapI (by omega) (by omega)]; rfl
  have hlt : z % 8 < 8 := Nat.mod_lt z (by omega)
  generalize hmany : z % 8 = many at ew hlt
  have hL := leave_least (sure := true) (many := many) hH
  have h128 := leave_lt (sure := true) (many := many) hH
  have h23 := C23i_ok (c := c) true hok (many := many) (by omega) ew
  obtain ⟨pl, h24⟩ := C24any (c := c) true hok
  have hown := ownQ_lt b n
  have eown := ownQ_eq hb h7
  have hev := every_eq h7
  have hp2 := two_pow_lt h7
  have h30 := C30i_ok (sure := true) (c := c) hH (s := leaveH true p n f many) (sz := ((leaveH true p n f many : Nat) : Int)) (mz := (IntKind.i64.wrap (z : Int)).tmod (8 : Int)) (v := true) h128 rfl ew hL.is.symm
  have h30o := C30i_ok (sure := true) (c := c) hH (s := ownQ b n) (sz := bits BinOp.and IntKind.i64 (IntKind.i64.wrap b) ((2 ^ n - 1 : Nat) : Int)) (mz := (IntKind.i64.wrap (z : Int)).tmod (8 : Int)) (v := decide (fewW true p n f (ownQ b n) ≤ many)) (by omega) eown ew rfl
  have h29o := C29_ok (show ownQ b n < 128 by omega)
  have h29l := C29_ok h128
  have hl := loop8 (sure := true) (c := c) hH (b := b) (ev := ((2 ^ n - 1 : Nat) : Int)) ew
  have hcl := fun left => cl8 (p := p) (sure := true) (n := n) (c := c) (f := f) (b := b) (ev := ((2 ^ n - 1 : Nat) : Int)) (mz := (IntKind.i64.wrap (z : Int)).tmod (8 : Int)) (left := left) 0
  have hcl := hcl (leaveH true p n f many)
  have hf0 := fewW_0 (sure := true) hH
  have hz1 : leaveH true p n f many = 0 → fewH true p n f ≤ many := fun e => by
    have h := of_decide_eq_true hL.is
    rw [e, hf0] at h
    exact h
  have hz2 : fewH true p n f ≤ many → leaveH true p n f many = 0 := fun e => by
    have := hL.min 0 (by omega) (by rw [hf0]; exact decide_eq_true e)
    have h0 : popN 0 = 0 := rfl
    rcases this with h | h <;> omega
  have hmin := hL.min (ownQ b n) hown
  have hlt2 := hL.lt
  generalize decide (fewW true p n f (ownQ b n) ≤ many) = v at h30o hmin
  have hmin : v = true → popN (leaveH true p n f many) < popN (ownQ b n) ∨ popN (leaveH true p n f many) = popN (ownQ b n) ∧ leaveH true p n f many ≤ ownQ b n := hmin
  generalize leaveH true p n f many = left at *
  generalize fewH true p n f = few at *
  have key : ∀ R : ARes → Prop, R (.ret (.bool true)) → ∃ hs, vx.call 8 [hV p n c, .bool true, .int .u8 (z : Int), .int .u8 b] (retK R) (m1 (mvs n f)) hs := by
    intro R hR
    refine ⟨_, (f8t p b z n c left few (ownQ b n) v f pl R).mpr ?_⟩
    have tail : v = true → ¬ decide ((popN (ownQ b n) : Int) > (popN left : Int)) = true → ((popN (ownQ b n) : Int) == (popN left : Int)) = true ∧ decide (bits BinOp.and IntKind.i64 (IntKind.i64.wrap b) ((2 ^ n - 1 : Nat) : Int) ≥ (left : Int)) = true := fun hv hx => by
      have hx : ¬ (popN (ownQ b n) : Int) > (popN left : Int) := fun h => hx (decide_eq_true h)
      rcases hmin hv with h | h
      · omega
      · refine ⟨by rw [h.1]; simp, ?_⟩
        rw [eown]
        exact decide_eq_true (by omega)
    have pre29 : (C29 (ownQ b n)).pre ⟨⟨[I (bits BinOp.and IntKind.i64 (IntKind.i64.wrap b) ((2 ^ n - 1 : Nat) : Int))], []⟩, []⟩ := by rw [eown]; rfl
    have fin : ((!v) = true → (ConOK Try.prog 12 C12 ∧ C12.pre ⟨⟨[], []⟩, []⟩ ∧ R (.ret (.bool true)))) := fun _ => ⟨C12_ok, rfl, hR⟩
    rw [hev]
    refine ⟨fun _ => ⟨C12_ok, rfl, hR⟩, fun _ => ⟨hwhen, ⟨rfl, hr⟩, h23, rfl, h24, rfl, ⟨⟨by omega, by omega⟩, rfl⟩, fun h => absurd (of_decide_eq_true h) (by omega), fun _ => ⟨h30, rfl, fun h0 => ⟨fun _ => ?_, fun h => ?_⟩, fun h0 => ⟨fun h => ?_, fun _ => ?_⟩⟩⟩⟩
    · refine ⟨hcl, hl, h30o, rfl, fin, fun hv => ?_⟩
      have hv : v = true := by simpa using hv
      refine ⟨h29o, pre29, h29l, rfl, fun _ => ⟨C12_ok, rfl, hR⟩, fun hx => ?_⟩
      obtain ⟨t1, t2⟩ := tail hv (by rw [hx]; decide)
      exact ⟨h29o, pre29, h29l, rfl, fun _ => ⟨fun _ => ⟨C12_ok, rfl, hR⟩, fun h => by rw [t2] at h; cases h⟩, fun h => by rw [t1] at h; cases h⟩
    · have h0 : left = 0 := by have := eq_of_beq h0; omega
      rw [ew] at h
      exact absurd (of_decide_eq_false h) (by have := hz1 h0; omega)
    · rw [ew] at h
      have h1 := hz2 (by have := of_decide_eq_true h; omega)
      rw [h1] at h0
      cases h0
    · refine ⟨hcl, hl, h30o, rfl, fin, fun hv => ?_⟩
      have hv : v = true := by simpa using hv
      refine ⟨h29o, pre29, h29l, rfl, fun _ => ⟨C12_ok, rfl, hR⟩, fun hx => ?_⟩
      obtain ⟨t1, t2⟩ := tail hv (by rw [hx]; decide)
      exact ⟨h29o, pre29, h29l, rfl, fun _ => ⟨fun _ => ⟨C12_ok, rfl, hR⟩, fun h => by rw [t2] at h; cases h⟩, fun h => by rw [t1] at h; cases h⟩
  exact key _ rfl
theorem law8f (p b w : Int) (n c : Nat) (f : Nat → Mv) (hb : 0 ≤ b ∧ b < 256) (hw : 0 ≤ w ∧ w < 256) (hok : okH p n f = true) :
    ∃ hs, vx.call 8 [hV p n c, .bool false, .int .u8 w, .int .u8 b] (retK fun r => r = .ret (.bool true)) (m1 (mvs n f)) hs := by
  have hH := okH_iff hok
  have h7 := hH.n7
  have hwhen : ConOK Try.prog 21 ((C21 p n c f).when (.ret (.bool true))) := con_when (C21_ok p n c f (by omega)) _
  have hr : (C21 p n c f).res ⟨⟨[I p], [(n, c)]⟩, [mvs n f]⟩ = .ret (.bool true) := by show ARes.ret (.bool (okH p n f)) = _; rw [hok]
  obtain ⟨z, rfl⟩ := Int.eq_ofNat_of_zero_le hw.1
  have ew : (IntKind.i64.wrap (z : Int)).tmod (8 : Int) = ((z % 8 : Nat) : Int) := by rw [wrapI (by omega) (by omega)]; rfl
  have hlt : z % 8 < 8 := Nat.mod_lt z (by omega)
  generalize hmany : z % 8 = many at ew hlt
  have hL := leave_least (sure := false) (many := many) hH
  have h128 := leave_lt (sure := false) (many := many) hH
  have h23 := C23i_ok (c := c) false hok (many := many) (by omega) ew
  obtain ⟨pl, h24⟩ := C24any (c := c) false hok
  have hown := ownQ_lt b n
  have eown := ownQ_eq hb h7
  have hev := every_eq h7
  have hp2 := two_pow_lt h7
  have h30 := C30i_ok (sure := false) (c := c) hH (s := leaveH false p n f many) (sz := ((leaveH false p n f many : Nat) : Int)) (mz := (IntKind.i64.wrap (z : Int)).tmod (8 : Int)) (v := true) h128 rfl ew hL.is.symm
  have h30o := C30i_ok (sure := false) (c := c) hH (s := ownQ b n) (sz := bits BinOp.and IntKind.i64 (IntKind.i64.wrap b) ((2 ^ n - 1 : Nat) : Int)) (mz := (IntKind.i64.wrap (z : Int)).tmod (8 : Int)) (v := decide (fewW false p n f (ownQ b n) ≤ many)) (by omega) eown ew rfl
  have h29o := C29_ok (show ownQ b n < 128 by omega)
  have h29l := C29_ok h128
  have hl := loop8 (sure := false) (c := c) hH (b := b) (ev := ((2 ^ n - 1 : Nat) : Int)) ew
  have hcl := fun left => cl8 (p := p) (sure := false) (n := n) (c := c) (f := f) (b := b) (ev := ((2 ^ n - 1 : Nat) : Int)) (mz := (IntKind.i64.wrap (z : Int)).tmod (8 : Int)) (left := left) 0
  have hcl := hcl (leaveH false p n f many)
  have hf0 := fewW_0 (sure := false) hH
  have hz1 : leaveH false p n f many = 0 → fewH false p n f ≤ many := fun e => by
    have h := of_decide_eq_true hL.is
    rw [e, hf0] at h
    exact h
  have hz2 : fewH false p n f ≤ many → leaveH false p n f many = 0 := fun e => by
    have := hL.min 0 (by omega) (by rw [hf0]; exact decide_eq_true e)
    have h0 : popN 0 = 0 := rfl
    rcases this with h | h <;> omega
  have hmin := hL.min (ownQ b n) hown
  have hlt2 := hL.lt
  generalize decide (fewW false p n f (ownQ b n) ≤ many) = v at h30o hmin
  have hmin : v = true → popN (leaveH false p n f many) < popN (ownQ b n) ∨ popN (leaveH false p n f many) = popN (ownQ b n) ∧ leaveH false p n f many ≤ ownQ b n := hmin
  generalize leaveH false p n f many = left at *
  generalize fewH false p n f = few at *
  have key : ∀ R : ARes → Prop, R (.ret (.bool true)) → ∃ hs, vx.call 8 [hV p n c, .bool false, .int .u8 (z : Int), .int .u8 b] (retK R) (m1 (mvs n f)) hs := by
    intro R hR
    refine ⟨_, (f8f p b z n c left few (ownQ b n) v f pl R).mpr ?_⟩
    have tail : v = true → ¬ decide ((popN (ownQ b n) : Int) > (popN left : Int)) = true → ((popN (ownQ b n) : Int) == (popN left : Int)) = true ∧ decide (bits BinOp.and IntKind.i64 (IntKind.i64.wrap b) ((2 ^ n - 1 : Nat) : Int) ≥ (left : Int)) = true := fun hv hx => by
      have hx : ¬ (popN (ownQ b n) : Int) > (popN left : Int) := fun h => hx (decide_eq_true h)
      rcases hmin hv with h | h
      · omega
      · refine ⟨by rw [h.1]; simp, ?_⟩
        rw [eown]
        exact decide_eq_true (by omega)
    have pre29 : (C29 (ownQ b n)).pre ⟨⟨[I (bits BinOp.and IntKind.i64 (IntKind.i64.wrap b) ((2 ^ n - 1 : Nat) : Int))], []⟩, []⟩ := by rw [eown]; rfl
    have fin : ((!v) = true → (ConOK Try.prog 12 C12 ∧ C12.pre ⟨⟨[], []⟩, []⟩ ∧ R (.ret (.bool true)))) := fun _ => ⟨C12_ok, rfl, hR⟩
    rw [hev]
    refine ⟨fun _ => ⟨C12_ok, rfl, hR⟩, fun _ => ⟨hwhen, ⟨rfl, hr⟩, h23, rfl, h24, rfl, ⟨⟨by omega, by omega⟩, rfl⟩, fun h => absurd (of_decide_eq_true h) (by omega), fun _ => ⟨h30, rfl, fun h0 => ⟨fun _ => ?_, fun h => ?_⟩, fun h0 => ⟨fun h => ?_, fun _ => ?_⟩⟩⟩⟩
    · refine ⟨hcl, hl, h30o, rfl, fin, fun hv => ?_⟩
      have hv : v = true := by simpa using hv
      refine ⟨h29o, pre29, h29l, rfl, fun _ => ⟨C12_ok, rfl, hR⟩, fun hx => ?_⟩
      obtain ⟨t1, t2⟩ := tail hv (by rw [hx]; decide)
      exact ⟨h29o, pre29, h29l, rfl, fun _ => ⟨fun _ => ⟨C12_ok, rfl, hR⟩, fun h => by rw [t2] at h; cases h⟩, fun h => by rw [t1] at h; cases h⟩
    · have h0 : left = 0 := by have := eq_of_beq h0; omega
      rw [ew] at h
      exact absurd (of_decide_eq_false h) (by have := hz1 h0; omega)
    · rw [ew] at h
      have h1 := hz2 (by have := of_decide_eq_true h; omega)
      rw [h1] at h0
      cases h0
    · refine ⟨hcl, hl, h30o, rfl, fin, fun hv => ?_⟩
      have hv : v = true := by simpa using hv
      refine ⟨h29o, pre29, h29l, rfl, fun _ => ⟨C12_ok, rfl, hR⟩, fun hx => ?_⟩
      obtain ⟨t1, t2⟩ := tail hv (by rw [hx]; decide)
      exact ⟨h29o, pre29, h29l, rfl, fun _ => ⟨fun _ => ⟨C12_ok, rfl, hR⟩, fun h => by rw [t2] at h; cases h⟩, fun h => by rw [t1] at h; cases h⟩
  exact key _ rfl
end Go.Ab
