/- the law HorseProof: without one move: one move. -/
import Derived.Test.YtamfplmmfbbabaaRX
import Derived.Test.YtamfplmmfbbabaaRY
import Derived.WalkKit
import Derived.ProofKit
import Derived.OpenShut
import Derived.Deep.Slices
import Derived.Deep.Strs
set_option maxRecDepth 100000
namespace Go.Ab
open Go Go.RowKit Go.Proofs
theorem f7Bt (p b w : Int) (n c found own many n2 many2 : Nat) (ap : Bool) (f : Nat → Mv) (pl ms2 pl2 : List Value) (R : ARes → Prop) : (vx.call 7 [hV p n c, .bool true, .int .u8 b, .int .u8 w] (retK R) (m1 (mvs n f)) ([(17, .split ((7, Hint.con C12) :: []) ((4, Hint.con ((C21 p n c f).when (ARes.ret (Value.bool true)))) :: (6, Hint.con (C25 true p n c f found)) :: (17, .val (.int .i64 (IntKind.i64.wrap ((1 : Int) * (2 : Int) ^ n)))) :: (8, Hint.loopW T7o (AExit.exit (0 : Nat)) T7o fun x => st7o true w p n c f found (2 : Int) own ap n) :: [(4, .split ((3, Hint.con (C29 own)) :: (2, Hint.con (C29 found)) :: [(0, .split ([]) ((3, Hint.con (C29 own)) :: (2, Hint.con (C29 found)) :: [(0, .split ([(3, .split ([]) ([(8, .split ([(2, .split ((1, Hint.con C12) :: []) ([]))]) ((6, .val (.int .i64 ((0 : Int)))) :: (12, .val (.slice (.some ⟨((0 : Nat)), ((4 : Nat)), .none⟩) ((0 : Nat)) (c - (1 : Nat)))) :: (1, Hint.again) :: (0, Hint.same) :: (4, Hint.conN (C24c true p n c (mvs n f) many pl)) :: (9, Hint.conN (C24c true p n2 n2 ms2 many2 pl2)) :: (17, Hint.con (C29 found)) :: [(0, .split ([(4, .split ([(5, .split ([(6, .split ((4, Hint.con C12) :: []) ([(3, .split ((3, Hint.con C12) :: []) ([]))]))]) ([]))]) ([]))]) ([]))]))]))]) ([(9, .split ([(2, .split ((1, Hint.con C12) :: []) ([]))]) ((6, .val (.int .i64 ((0 : Int)))) :: (12, .val (.slice (.some ⟨((0 : Nat)), ((4 : Nat)), .none⟩) ((0 : Nat)) (c - (1 : Nat)))) :: (1, Hint.again) :: (0, Hint.same) :: (4, Hint.conN (C24c true p n c (mvs n f) many pl)) :: (9, Hint.conN (C24c true p n2 n2 ms2 many2 pl2)) :: (17, Hint.con (C29 found)) :: [(0, .split ([(4, .split ([(5, .split ([(6, .split ((4, Hint.con C12) :: []) ([(3, .split ((3, Hint.con C12) :: []) ([]))]))]) ([]))]) ([]))]) ([]))]))]))]))]) ([(7, .split ([(2, .split ((1, Hint.con C12) :: []) ([]))]) ((6, .val (.int .i64 ((0 : Int)))) :: (12, .val (.slice (.some ⟨((0 : Nat)), ((4 : Nat)), .none⟩) ((0 : Nat)) (c - (1 : Nat)))) :: (1, Hint.again) :: (0, Hint.same) :: (4, Hint.conN (C24c true p n c (mvs n f) many pl)) :: (9, Hint.conN (C24c true p n2 n2 ms2 many2 pl2)) :: (17, Hint.con (C29 found)) :: [(0, .split ([(4, .split ([(5, .split ([(6, .split ((4, Hint.con C12) :: []) ([(3, .split ((3, Hint.con C12) :: []) ([]))]))]) ([]))]) ([]))]) ([]))]))]))]))])) =
((((decide ((if (↑(0 : Nat) : Int) > (↑n : Int) then (↑(0 : Nat) : Int) else (↑n : Int)) > (40 : Int))) = true → ((ConOK Try.prog ((12 : Nat)) (C12)) ∧ (Con.pre (C12) ⟨⟨[], []⟩, []⟩) ∧ 
R (.ret (.bool true)))) ∧
((decide ((if (↑(0 : Nat) : Int) > (↑n : Int) then (↑(0 : Nat) : Int) else (↑n : Int)) > (40 : Int))) = false → ((ConOK Try.prog ((21 : Nat)) ((C21 p n c f).when (ARes.ret (Value.bool true)))) ∧ (Con.pre ((C21 p n c f).when (ARes.ret (Value.bool true))) ⟨⟨[(.int .i64 (p))], [⟨(n), (c)⟩]⟩, [(mvs n f)]⟩) ∧ 
((ConOK Try.prog ((25 : Nat)) (C25 true p n c f found)) ∧ (Con.pre (C25 true p n c f found) ⟨⟨[(.int .i64 (p)), (.bool true)], [⟨(n), (c)⟩]⟩, [(mvs n f)]⟩) ∧ 
((((((0 : Int) ≤ (↑n : Int))) ∧ (((↑n : Int) ≤ (↑(64 : Nat) : Int)))) ∧ (((.int .i64 (IntKind.i64.wrap ((1 : Int) * (2 : Int) ^ n))) : Value) = (.int .i64 (IntKind.i64.wrap ((1 : Int) * (2 : Int) ^ n))))) ∧
((ClW ⟨⟨[(.bool true), (.int .u8 (w)), (.int .i64 ((↑found : Int))), (.int .i64 ((2 : Int))), (.int .i64 (bits BinOp.and IntKind.i64 (IntKind.i64.wrap b) (IntKind.i64.wrap (IntKind.i64.wrap ((1 : Int) * (2 : Int) ^ n) - (1 : Int))))), (.bool true), (.int .i64 ((↑n : Int))), (.int .i64 ((0 : Int))), (.int .i64 (p))], [⟨(n), (c)⟩]⟩, [(mvs n f)], []⟩) ∧ (LoopOW Try.prog .none p7o (T7o) ⟨⟨[(.bool true), (.int .u8 (w)), (.int .i64 ((↑found : Int))), (.int .i64 ((2 : Int))), (.int .i64 (bits BinOp.and IntKind.i64 (IntKind.i64.wrap b) (IntKind.i64.wrap (IntKind.i64.wrap ((1 : Int) * (2 : Int) ^ n) - (1 : Int))))), (.bool true), (.int .i64 ((↑n : Int))), (.int .i64 ((0 : Int))), (.int .i64 (p))], [⟨(n), (c)⟩]⟩, [(mvs n f)], []⟩ (.exit ((0 : Nat))) (T7o) ⟨⟨[(.bool true), (.int .u8 (w)), (.int .i64 ((↑found : Int))), (.int .i64 ((2 : Int))), (.int .i64 ((↑own : Int))), (.bool (ap)), (.int .i64 ((↑n : Int))), (.int .i64 ((↑n : Int))), (.int .i64 (p))], [⟨(n), (c)⟩]⟩, [(mvs n f)], []⟩) ∧ 
(((ap) = true → ((ConOK Try.prog ((29 : Nat)) (C29 own)) ∧ (Con.pre (C29 own) ⟨⟨[(.int .i64 ((↑own : Int)))], []⟩, []⟩) ∧ 
((ConOK Try.prog ((29 : Nat)) (C29 found)) ∧ (Con.pre (C29 found) ⟨⟨[(.int .i64 ((↑found : Int)))], []⟩, []⟩) ∧ 
(((decide ((↑(popN own) : Int) > (↑(popN found) : Int))) = true → R (.ret (.bool false))) ∧
((decide ((↑(popN own) : Int) > (↑(popN found) : Int))) = false → ((ConOK Try.prog ((29 : Nat)) (C29 own)) ∧ (Con.pre (C29 own) ⟨⟨[(.int .i64 ((↑own : Int)))], []⟩, []⟩) ∧ 
((ConOK Try.prog ((29 : Nat)) (C29 found)) ∧ (Con.pre (C29 found) ⟨⟨[(.int .i64 ((↑found : Int)))], []⟩, []⟩) ∧ 
((((↑(popN own) : Int) == (↑(popN found) : Int)) = true → (((decide ((↑own : Int) < (↑found : Int))) = true → R (.ret (.bool false))) ∧
((decide ((↑own : Int) < (↑found : Int))) = false → ((((↑n : Int) == (0 : Int)) = true → ((((↑found : Int) == (0 : Int)) = true → ((ConOK Try.prog ((12 : Nat)) (C12)) ∧ (Con.pre (C12) ⟨⟨[], []⟩, []⟩) ∧ 
R (.ret (.bool true)))) ∧
(((↑found : Int) == (0 : Int)) = false → R (.ret (.bool false))))) ∧
(((↑n : Int) == (0 : Int)) = false → ((((((↑n : Int) ≠ (0 : Int))) ∧ ((IntKind.i64 = IntKind.i64))) ∧ (((.int .i64 ((0 : Int))) : Value) = (.int .i64 ((IntKind.i64.wrap w).tmod (↑n : Int))))) ∧
((((((0 : Int) ≤ IntKind.i64.wrap ((0 : Int) + (1 : Int)))) ∧ (((IntKind.i64.wrap ((0 : Int) + (1 : Int)) ≤ (↑n : Int))) ∧ (((↑n : Int) ≤ (↑c : Int))))) ∧ (((.slice (.some ⟨((0 : Nat)), ((4 : Nat)), .none⟩) ((0 : Nat)) (c - (1 : Nat))) : Value) = (.slice (.some ⟨((0 : Nat)), ((4 : Nat)), .none⟩) (n - (1 : Nat)) (c - (1 : Nat))))) ∧
(((((((0 : Int) ≤ IntKind.i64.wrap ((0 : Int) + (1 : Int)))) ∧ (((IntKind.i64.wrap ((0 : Int) + (1 : Int)) ≤ (↑n : Int))) ∧ (((↑n : Int) ≤ (↑c : Int))))) ∧ (((.slice (.some ⟨((0 : Nat)), ((4 : Nat)), .none⟩) ((0 : Nat)) (c - (1 : Nat))) : Value) = (.slice (.some ⟨((0 : Nat)), ((4 : Nat)), .none⟩) (n - (1 : Nat)) (c - (1 : Nat))))) ∧ ((((some (.slice (.some ⟨0, 0, .none⟩) (n) (c)) : Option Value) = some (.slice (.some ⟨0, 0, .none⟩) (n) (c)))) ∧ (True))) ∧ 
(((((0 : Nat) = (0 : Nat))) ∧ (((4 : Nat) ≤ (mvs n f).length))) ∧ 
((ConNOK Try.prog ((24 : Nat)) (C24c true p n c (mvs n f) many pl)) ∧ (ConN.pre (C24c true p n c (mvs n f) many pl) ⟨⟨[(.int .i64 (p)), (.bool true)], [⟨(n), (c)⟩]⟩, [(mvs n f)]⟩) ∧ 
((ConNOK Try.prog ((24 : Nat)) (C24c true p n2 n2 ms2 many2 pl2)) ∧ (ConN.pre (C24c true p n2 n2 ms2 many2 pl2) ⟨⟨[(.int .i64 (p)), (.bool true)], [⟨((0 : Nat)), ((0 : Nat))⟩]⟩, [[]]⟩) ∧ 
((ConOK Try.prog ((29 : Nat)) (C29 found)) ∧ (Con.pre (C29 found) ⟨⟨[(.int .i64 ((↑found : Int)))], []⟩, []⟩) ∧ 
((((↑many : Int) == (↑(popN found) : Int)) = true → (((decide ((↑many2 : Int) ≤ (↑many : Int))) = true → (((decide ((↑many2 : Int) ≥ IntKind.i64.wrap ((↑many : Int) - (1 : Int)))) = true → (((bits BinOp.and IntKind.i64 ((↑found : Int) / (2 : Int) ^ (0 : Nat)) (1 : Int) == (1 : Int)) = true → ((ConOK Try.prog ((12 : Nat)) (C12)) ∧ (Con.pre (C12) ⟨⟨[], []⟩, []⟩) ∧ 
R (.ret (.bool true)))) ∧
((bits BinOp.and IntKind.i64 ((↑found : Int) / (2 : Int) ^ (0 : Nat)) (1 : Int) == (1 : Int)) = false → ((((↑many2 : Int) == (↑many : Int)) = true → ((ConOK Try.prog ((12 : Nat)) (C12)) ∧ (Con.pre (C12) ⟨⟨[], []⟩, []⟩) ∧ 
R (.ret (.bool true)))) ∧
(((↑many2 : Int) == (↑many : Int)) = false → R (.ret (.bool false))))))) ∧
((decide ((↑many2 : Int) ≥ IntKind.i64.wrap ((↑many : Int) - (1 : Int)))) = false → R (.ret (.bool false))))) ∧
((decide ((↑many2 : Int) ≤ (↑many : Int))) = false → R (.ret (.bool false))))) ∧
(((↑many : Int) == (↑(popN found) : Int)) = false → R (.ret (.bool false)))))))))))))))) ∧
(((↑(popN own) : Int) == (↑(popN found) : Int)) = false → ((((↑n : Int) == (0 : Int)) = true → ((((↑found : Int) == (0 : Int)) = true → ((ConOK Try.prog ((12 : Nat)) (C12)) ∧ (Con.pre (C12) ⟨⟨[], []⟩, []⟩) ∧ 
R (.ret (.bool true)))) ∧
(((↑found : Int) == (0 : Int)) = false → R (.ret (.bool false))))) ∧
(((↑n : Int) == (0 : Int)) = false → ((((((↑n : Int) ≠ (0 : Int))) ∧ ((IntKind.i64 = IntKind.i64))) ∧ (((.int .i64 ((0 : Int))) : Value) = (.int .i64 ((IntKind.i64.wrap w).tmod (↑n : Int))))) ∧
((((((0 : Int) ≤ IntKind.i64.wrap ((0 : Int) + (1 : Int)))) ∧ (((IntKind.i64.wrap ((0 : Int) + (1 : Int)) ≤ (↑n : Int))) ∧ (((↑n : Int) ≤ (↑c : Int))))) ∧ (((.slice (.some ⟨((0 : Nat)), ((4 : Nat)), .none⟩) ((0 : Nat)) (c - (1 : Nat))) : Value) = (.slice (.some ⟨((0 : Nat)), ((4 : Nat)), .none⟩) (n - (1 : Nat)) (c - (1 : Nat))))) ∧
(((((((0 : Int) ≤ IntKind.i64.wrap ((0 : Int) + (1 : Int)))) ∧ (((IntKind.i64.wrap ((0 : Int) + (1 : Int)) ≤ (↑n : Int))) ∧ (((↑n : Int) ≤ (↑c : Int))))) ∧ (((.slice (.some ⟨((0 : Nat)), ((4 : Nat)), .none⟩) ((0 : Nat)) (c - (1 : Nat))) : Value) = (.slice (.some ⟨((0 : Nat)), ((4 : Nat)), .none⟩) (n - (1 : Nat)) (c - (1 : Nat))))) ∧ ((((some (.slice (.some ⟨0, 0, .none⟩) (n) (c)) : Option Value) = some (.slice (.some ⟨0, 0, .none⟩) (n) (c)))) ∧ (True))) ∧ 
(((((0 : Nat) = (0 : Nat))) ∧ (((4 : Nat) ≤ (mvs n f).length))) ∧ 
((ConNOK Try.prog ((24 : Nat)) (C24c true p n c (mvs n f) many pl)) ∧ (ConN.pre (C24c true p n c (mvs n f) many pl) ⟨⟨[(.int .i64 (p)), (.bool true)], [⟨(n), (c)⟩]⟩, [(mvs n f)]⟩) ∧ 
((ConNOK Try.prog ((24 : Nat)) (C24c true p n2 n2 ms2 many2 pl2)) ∧ (ConN.pre (C24c true p n2 n2 ms2 many2 pl2) ⟨⟨[(.int .i64 (p)), (.bool true)], [⟨((0 : Nat)), ((0 : Nat))⟩]⟩, [[]]⟩) ∧ 
((ConOK Try.prog ((29 : Nat)) (C29 found)) ∧ (Con.pre (C29 found) ⟨⟨[(.int .i64 ((↑found : Int)))], []⟩, []⟩) ∧ 
((((↑many : Int) == (↑(popN found) : Int)) = true → (((decide ((↑many2 : Int) ≤ (↑many : Int))) = true → (((decide ((↑many2 : Int) ≥ IntKind.i64.wrap ((↑many : Int) - (1 : Int)))) = true → (((bits BinOp.and IntKind.i64 ((↑found : Int) / (2 : Int) ^ (0 : Nat)) (1 : Int) == (1 : Int)) = true → ((ConOK Try.prog ((12 : Nat)) (C12)) ∧ (Con.pre (C12) ⟨⟨[], []⟩, []⟩) ∧ 
R (.ret (.bool true)))) ∧
((bits BinOp.and IntKind.i64 ((↑found : Int) / (2 : Int) ^ (0 : Nat)) (1 : Int) == (1 : Int)) = false → ((((↑many2 : Int) == (↑many : Int)) = true → ((ConOK Try.prog ((12 : Nat)) (C12)) ∧ (Con.pre (C12) ⟨⟨[], []⟩, []⟩) ∧ 
R (.ret (.bool true)))) ∧
(((↑many2 : Int) == (↑many : Int)) = false → R (.ret (.bool false))))))) ∧
((decide ((↑many2 : Int) ≥ IntKind.i64.wrap ((↑many : Int) - (1 : Int)))) = false → R (.ret (.bool false))))) ∧
((decide ((↑many2 : Int) ≤ (↑many : Int))) = false → R (.ret (.bool false))))) ∧
(((↑many : Int) == (↑(popN found) : Int)) = false → R (.ret (.bool false)))))))))))))))))))))) ∧
((ap) = false → ((((↑n : Int) == (0 : Int)) = true → ((((↑found : Int) == (0 : Int)) = true → ((ConOK Try.prog ((12 : Nat)) (C12)) ∧ (Con.pre (C12) ⟨⟨[], []⟩, []⟩) ∧ 
R (.ret (.bool true)))) ∧
(((↑found : Int) == (0 : Int)) = false → R (.ret (.bool false))))) ∧
(((↑n : Int) == (0 : Int)) = false → ((((((↑n : Int) ≠ (0 : Int))) ∧ ((IntKind.i64 = IntKind.i64))) ∧ (((.int .i64 ((0 : Int))) : Value) = (.int .i64 ((IntKind.i64.wrap w).tmod (↑n : Int))))) ∧
((((((0 : Int) ≤ IntKind.i64.wrap ((0 : Int) + (1 : Int)))) ∧ (((IntKind.i64.wrap ((0 : Int) + (1 : Int)) ≤ (↑n : Int))) ∧ (((↑n : Int) ≤ (↑c : Int))))) ∧ (((.slice (.some ⟨((0 : Nat)), ((4 : Nat)), .none⟩) ((0 : Nat)) (c - (1 : Nat))) : Value) = (.slice (.some ⟨((0 : Nat)), ((4 : Nat)), .none⟩) (n - (1 : Nat)) (c - (1 : Nat))))) ∧
(((((((0 : Int) ≤ IntKind.i64.wrap ((0 : Int) + (1 : Int)))) ∧ (((IntKind.i64.wrap ((0 : Int) + (1 : Int)) ≤ (↑n : Int))) ∧ (((↑n : Int) ≤ (↑c : Int))))) ∧ (((.slice (.some ⟨((0 : Nat)), ((4 : Nat)), .none⟩) ((0 : Nat)) (c - (1 : Nat))) : Value) = (.slice (.some ⟨((0 : Nat)), ((4 : Nat)), .none⟩) (n - (1 : Nat)) (c - (1 : Nat))))) ∧ ((((some (.slice (.some ⟨0, 0, .none⟩) (n) (c)) : Option Value) = some (.slice (.some ⟨0, 0, .none⟩) (n) (c)))) ∧ (True))) ∧ 
(((((0 : Nat) = (0 : Nat))) ∧ (((4 : Nat) ≤ (mvs n f).length))) ∧ 
((ConNOK Try.prog ((24 : Nat)) (C24c true p n c (mvs n f) many pl)) ∧ (ConN.pre (C24c true p n c (mvs n f) many pl) ⟨⟨[(.int .i64 (p)), (.bool true)], [⟨(n), (c)⟩]⟩, [(mvs n f)]⟩) ∧ 
((ConNOK Try.prog ((24 : Nat)) (C24c true p n2 n2 ms2 many2 pl2)) ∧ (ConN.pre (C24c true p n2 n2 ms2 many2 pl2) ⟨⟨[(.int .i64 (p)), (.bool true)], [⟨((0 : Nat)), ((0 : Nat))⟩]⟩, [[]]⟩) ∧ 
((ConOK Try.prog ((29 : Nat)) (C29 found)) ∧ (Con.pre (C29 found) ⟨⟨[(.int .i64 ((↑found : Int)))], []⟩, []⟩) ∧ 
((((↑many : Int) == (↑(popN found) : Int)) = true → (((decide ((↑many2 : Int) ≤ (↑many : Int))) = true → (((decide ((↑many2 : Int) ≥ IntKind.i64.wrap ((↑many : Int) - (1 : Int)))) = true → (((bits BinOp.and IntKind.i64 ((↑found : Int) / (2 : Int) ^ (0 : Nat)) (1 : Int) == (1 : Int)) = true → ((ConOK Try.prog ((12 : Nat)) (C12)) ∧ (Con.pre (C12) ⟨⟨[], []⟩, []⟩) ∧ 
R (.ret (.bool true)))) ∧
((bits BinOp.and IntKind.i64 ((↑found : Int) / (2 : Int) ^ (0 : Nat)) (1 : Int) == (1 : Int)) = false → ((((↑many2 : Int) == (↑many : Int)) = true → ((ConOK Try.prog ((12 : Nat)) (C12)) ∧ (Con.pre (C12) ⟨⟨[], []⟩, []⟩) ∧ 
R (.ret (.bool true)))) ∧
(((↑many2 : Int) == (↑many : Int)) = false → R (.ret (.bool false))))))) ∧
((decide ((↑many2 : Int) ≥ IntKind.i64.wrap ((↑many : Int) - (1 : Int)))) = false → R (.ret (.bool false))))) ∧
((decide ((↑many2 : Int) ≤ (↑many : Int))) = false → R (.ret (.bool false))))) ∧
(((↑many : Int) == (↑(popN found) : Int)) = false → R (.ret (.bool false)))))))))))))))))))))) := by kernel_rfl

theorem f7Bf (p b w : Int) (n c found own many n2 many2 : Nat) (ap : Bool) (f : Nat → Mv) (pl ms2 pl2 : List Value) (R : ARes → Prop) : (vx.call 7 [hV p n c, .bool false, .int .u8 b, .int .u8 w] (retK R) (m1 (mvs n f)) ([(17, .split ((7, Hint.con C12) :: []) ((4, Hint.con ((C21 p n c f).when (ARes.ret (Value.bool true)))) :: (6, Hint.con (C25 false p n c f found)) :: (16, .val (.int .i64 (IntKind.i64.wrap ((1 : Int) * (2 : Int) ^ n)))) :: (8, Hint.loopW T7o (AExit.exit (0 : Nat)) T7o fun x => st7o false w p n c f found (1 : Int) own ap n) :: [(4, .split ((3, Hint.con (C29 own)) :: (2, Hint.con (C29 found)) :: [(0, .split ([]) ((3, Hint.con (C29 own)) :: (2, Hint.con (C29 found)) :: [(0, .split ([(3, .split ([]) ([(8, .split ([(2, .split ((1, Hint.con C12) :: []) ([]))]) ((6, .val (.int .i64 ((0 : Int)))) :: (12, .val (.slice (.some ⟨((0 : Nat)), ((4 : Nat)), .none⟩) ((0 : Nat)) (c - (1 : Nat)))) :: (1, Hint.again) :: (0, Hint.same) :: (4, Hint.conN (C24c false p n c (mvs n f) many pl)) :: (9, Hint.conN (C24c false p n2 n2 ms2 many2 pl2)) :: (17, Hint.con (C29 found)) :: [(0, .split ([(4, .split ([(5, .split ([(6, .split ((4, Hint.con C12) :: []) ([(3, .split ((3, Hint.con C12) :: []) ([]))]))]) ([]))]) ([]))]) ([]))]))]))]) ([(9, .split ([(2, .split ((1, Hint.con C12) :: []) ([]))]) ((6, .val (.int .i64 ((0 : Int)))) :: (12, .val (.slice (.some ⟨((0 : Nat)), ((4 : Nat)), .none⟩) ((0 : Nat)) (c - (1 : Nat)))) :: (1, Hint.again) :: (0, Hint.same) :: (4, Hint.conN (C24c false p n c (mvs n f) many pl)) :: (9, Hint.conN (C24c false p n2 n2 ms2 many2 pl2)) :: (17, Hint.con (C29 found)) :: [(0, .split ([(4, .split ([(5, .split ([(6, .split ((4, Hint.con C12) :: []) ([(3, .split ((3, Hint.con C12) :: []) ([]))]))]) ([]))]) ([]))]) ([]))]))]))]))]) ([(7, .split ([(2, .split ((1, Hint.con C12) :: []) ([]))]) ((6, .val (.int .i64 ((0 : Int)))) :: (12, .val (.slice (.some ⟨((0 : Nat)), ((4 : Nat)), .none⟩) ((0 : Nat)) (c - (1 : Nat)))) :: (1, Hint.again) :: (0, Hint.same) :: (4, Hint.conN (C24c false p n c (mvs n f) many pl)) :: (9, Hint.conN (C24c false p n2 n2 ms2 many2 pl2)) :: (17, Hint.con (C29 found)) :: [(0, .split ([(4, .split ([(5, .split ([(6, .split ((4, Hint.con C12) :: []) ([(3, .split ((3, Hint.con C12) :: []) ([]))]))]) ([]))]) ([]))]) ([]))]))]))]))])) =
((((decide ((if (↑(0 : Nat) : Int) > (↑n : Int) then (↑(0 : Nat) : Int) else (↑n : Int)) > (40 : Int))) = true → ((ConOK Try.prog ((12 : Nat)) (C12)) ∧ (Con.pre (C12) ⟨⟨[], []⟩, []⟩) ∧ 
R (.ret (.bool true)))) ∧
((decide ((if (↑(0 : Nat) : Int) > (↑n : Int) then (↑(0 : Nat) : Int) else (↑n : Int)) > (40 : Int))) = false → ((ConOK Try.prog ((21 : Nat)) ((C21 p n c f).when (ARes.ret (Value.bool true)))) ∧ (Con.pre ((C21 p n c f).when (ARes.ret (Value.bool true))) ⟨⟨[(.int .i64 (p))], [⟨(n), (c)⟩]⟩, [(mvs n f)]⟩) ∧ 
((ConOK Try.prog ((25 : Nat)) (C25 false p n c f found)) ∧ (Con.pre (C25 false p n c f found) ⟨⟨[(.int .i64 (p)), (.bool false)], [⟨(n), (c)⟩]⟩, [(mvs n f)]⟩) ∧ 
((((((0 : Int) ≤ (↑n : Int))) ∧ (((↑n : Int) ≤ (↑(64 : Nat) : Int)))) ∧ (((.int .i64 (IntKind.i64.wrap ((1 : Int) * (2 : Int) ^ n))) : Value) = (.int .i64 (IntKind.i64.wrap ((1 : Int) * (2 : Int) ^ n))))) ∧
((ClW ⟨⟨[(.bool false), (.int .u8 (w)), (.int .i64 ((↑found : Int))), (.int .i64 ((1 : Int))), (.int .i64 (bits BinOp.and IntKind.i64 (IntKind.i64.wrap b) (IntKind.i64.wrap (IntKind.i64.wrap ((1 : Int) * (2 : Int) ^ n) - (1 : Int))))), (.bool true), (.int .i64 ((↑n : Int))), (.int .i64 ((0 : Int))), (.int .i64 (p))], [⟨(n), (c)⟩]⟩, [(mvs n f)], []⟩) ∧ (LoopOW Try.prog .none p7o (T7o) ⟨⟨[(.bool false), (.int .u8 (w)), (.int .i64 ((↑found : Int))), (.int .i64 ((1 : Int))), (.int .i64 (bits BinOp.and IntKind.i64 (IntKind.i64.wrap b) (IntKind.i64.wrap (IntKind.i64.wrap ((1 : Int) * (2 : Int) ^ n) - (1 : Int))))), (.bool true), (.int .i64 ((↑n : Int))), (.int .i64 ((0 : Int))), (.int .i64 (p))], [⟨(n), (c)⟩]⟩, [(mvs n f)], []⟩ (.exit ((0 : Nat))) (T7o) ⟨⟨[(.bool false), (.int .u8 (w)), (.int .i64 ((↑found : Int))), (.int .i64 ((1 : Int))), (.int .i64 ((↑own : Int))), (.bool (ap)), (.int .i64 ((↑n : Int))), (.int .i64 ((↑n : Int))), (.int .i64 (p))], [⟨(n), (c)⟩]⟩, [(mvs n f)], []⟩) ∧ 
(((ap) = true → ((ConOK Try.prog ((29 : Nat)) (C29 own)) ∧ (Con.pre (C29 own) ⟨⟨[(.int .i64 ((↑own : Int)))], []⟩, []⟩) ∧ 
((ConOK Try.prog ((29 : Nat)) (C29 found)) ∧ (Con.pre (C29 found) ⟨⟨[(.int .i64 ((↑found : Int)))], []⟩, []⟩) ∧ 
(((decide ((↑(popN own) : Int) > (↑(popN found) : Int))) = true → R (.ret (.bool false))) ∧
((decide ((↑(popN own) : Int) > (↑(popN found) : Int))) = false → ((ConOK Try.prog ((29 : Nat)) (C29 own)) ∧ (Con.pre (C29 own) ⟨⟨[(.int .i64 ((↑own : Int)))], []⟩, []⟩) ∧ 
((ConOK Try.prog ((29 : Nat)) (C29 found)) ∧ (Con.pre (C29 found) ⟨⟨[(.int .i64 ((↑found : Int)))], []⟩, []⟩) ∧ 
((((↑(popN own) : Int) == (↑(popN found) : Int)) = true → (((decide ((↑own : Int) < (↑found : Int))) = true → R (.ret (.bool false))) ∧
((decide ((↑own : Int) < (↑found : Int))) = false → ((((↑n : Int) == (0 : Int)) = true → ((((↑found : Int) == (0 : Int)) = true → ((ConOK Try.prog ((12 : Nat)) (C12)) ∧ (Con.pre (C12) ⟨⟨[], []⟩, []⟩) ∧ 
R (.ret (.bool true)))) ∧
(((↑found : Int) == (0 : Int)) = false → R (.ret (.bool false))))) ∧
(((↑n : Int) == (0 : Int)) = false → ((((((↑n : Int) ≠ (0 : Int))) ∧ ((IntKind.i64 = IntKind.i64))) ∧ (((.int .i64 ((0 : Int))) : Value) = (.int .i64 ((IntKind.i64.wrap w).tmod (↑n : Int))))) ∧
((((((0 : Int) ≤ IntKind.i64.wrap ((0 : Int) + (1 : Int)))) ∧ (((IntKind.i64.wrap ((0 : Int) + (1 : Int)) ≤ (↑n : Int))) ∧ (((↑n : Int) ≤ (↑c : Int))))) ∧ (((.slice (.some ⟨((0 : Nat)), ((4 : Nat)), .none⟩) ((0 : Nat)) (c - (1 : Nat))) : Value) = (.slice (.some ⟨((0 : Nat)), ((4 : Nat)), .none⟩) (n - (1 : Nat)) (c - (1 : Nat))))) ∧
(((((((0 : Int) ≤ IntKind.i64.wrap ((0 : Int) + (1 : Int)))) ∧ (((IntKind.i64.wrap ((0 : Int) + (1 : Int)) ≤ (↑n : Int))) ∧ (((↑n : Int) ≤ (↑c : Int))))) ∧ (((.slice (.some ⟨((0 : Nat)), ((4 : Nat)), .none⟩) ((0 : Nat)) (c - (1 : Nat))) : Value) = (.slice (.some ⟨((0 : Nat)), ((4 : Nat)), .none⟩) (n - (1 : Nat)) (c - (1 : Nat))))) ∧ ((((some (.slice (.some ⟨0, 0, .none⟩) (n) (c)) : Option Value) = some (.slice (.some ⟨0, 0, .none⟩) (n) (c)))) ∧ (True))) ∧ 
(((((0 : Nat) = (0 : Nat))) ∧ (((4 : Nat) ≤ (mvs n f).length))) ∧ 
((ConNOK Try.prog ((24 : Nat)) (C24c false p n c (mvs n f) many pl)) ∧ (ConN.pre (C24c false p n c (mvs n f) many pl) ⟨⟨[(.int .i64 (p)), (.bool false)], [⟨(n), (c)⟩]⟩, [(mvs n f)]⟩) ∧ 
((ConNOK Try.prog ((24 : Nat)) (C24c false p n2 n2 ms2 many2 pl2)) ∧ (ConN.pre (C24c false p n2 n2 ms2 many2 pl2) ⟨⟨[(.int .i64 (p)), (.bool false)], [⟨((0 : Nat)), ((0 : Nat))⟩]⟩, [[]]⟩) ∧ 
((ConOK Try.prog ((29 : Nat)) (C29 found)) ∧ (Con.pre (C29 found) ⟨⟨[(.int .i64 ((↑found : Int)))], []⟩, []⟩) ∧ 
((((↑many : Int) == (↑(popN found) : Int)) = true → (((decide ((↑many2 : Int) ≤ (↑many : Int))) = true → (((decide ((↑many2 : Int) ≥ IntKind.i64.wrap ((↑many : Int) - (1 : Int)))) = true → (((bits BinOp.and IntKind.i64 ((↑found : Int) / (2 : Int) ^ (0 : Nat)) (1 : Int) == (1 : Int)) = true → ((ConOK Try.prog ((12 : Nat)) (C12)) ∧ (Con.pre (C12) ⟨⟨[], []⟩, []⟩) ∧ 
R (.ret (.bool true)))) ∧
((bits BinOp.and IntKind.i64 ((↑found : Int) / (2 : Int) ^ (0 : Nat)) (1 : Int) == (1 : Int)) = false → ((((↑many2 : Int) == (↑many : Int)) = true → ((ConOK Try.prog ((12 : Nat)) (C12)) ∧ (Con.pre (C12) ⟨⟨[], []⟩, []⟩) ∧ 
R (.ret (.bool true)))) ∧
(((↑many2 : Int) == (↑many : Int)) = false → R (.ret (.bool false))))))) ∧
((decide ((↑many2 : Int) ≥ IntKind.i64.wrap ((↑many : Int) - (1 : Int)))) = false → R (.ret (.bool false))))) ∧
((decide ((↑many2 : Int) ≤ (↑many : Int))) = false → R (.ret (.bool false))))) ∧
(((↑many : Int) == (↑(popN found) : Int)) = false → R (.ret (.bool false)))))))))))))))) ∧
(((↑(popN own) : Int) == (↑(popN found) : Int)) = false → ((((↑n : Int) == (0 : Int)) = true → ((((↑found : Int) == (0 : Int)) = true → ((ConOK Try.prog ((12 : Nat)) (C12)) ∧ (Con.pre (C12) ⟨⟨[], []⟩, []⟩) ∧ 
R (.ret (.bool true)))) ∧
(((↑found : Int) == (0 : Int)) = false → R (.ret (.bool false))))) ∧
(((↑n : Int) == (0 : Int)) = false → ((((((↑n : Int) ≠ (0 : Int))) ∧ ((IntKind.i64 = IntKind.i64))) ∧ (((.int .i64 ((0 : Int))) : Value) = (.int .i64 ((IntKind.i64.wrap w).tmod (↑n : Int))))) ∧
((((((0 : Int) ≤ IntKind.i64.wrap ((0 : Int) + (1 : Int)))) ∧ (((IntKind.i64.wrap ((0 : Int) + (1 : Int)) ≤ (↑n : Int))) ∧ (((↑n : Int) ≤ (↑c : Int))))) ∧ (((.slice (.some ⟨((0 : Nat)), ((4 : Nat)), .none⟩) ((0 : Nat)) (c - (1 : Nat))) : Value) = (.slice (.some ⟨((0 : Nat)), ((4 : Nat)), .none⟩) (n - (1 : Nat)) (c - (1 : Nat))))) ∧
(((((((0 : Int) ≤ IntKind.i64.wrap ((0 : Int) + (1 : Int)))) ∧ (((IntKind.i64.wrap ((0 : Int) + (1 : Int)) ≤ (↑n : Int))) ∧ (((↑n : Int) ≤ (↑c : Int))))) ∧ (((.slice (.some ⟨((0 : Nat)), ((4 : Nat)), .none⟩) ((0 : Nat)) (c - (1 : Nat))) : Value) = (.slice (.some ⟨((0 : Nat)), ((4 : Nat)), .none⟩) (n - (1 : Nat)) (c - (1 : Nat))))) ∧ ((((some (.slice (.some ⟨0, 0, .none⟩) (n) (c)) : Option Value) = some (.slice (.some ⟨0, 0, .none⟩) (n) (c)))) ∧ (True))) ∧ 
(((((0 : Nat) = (0 : Nat))) ∧ (((4 : Nat) ≤ (mvs n f).length))) ∧ 
((ConNOK Try.prog ((24 : Nat)) (C24c false p n c (mvs n f) many pl)) ∧ (ConN.pre (C24c false p n c (mvs n f) many pl) ⟨⟨[(.int .i64 (p)), (.bool false)], [⟨(n), (c)⟩]⟩, [(mvs n f)]⟩) ∧ 
((ConNOK Try.prog ((24 : Nat)) (C24c false p n2 n2 ms2 many2 pl2)) ∧ (ConN.pre (C24c false p n2 n2 ms2 many2 pl2) ⟨⟨[(.int .i64 (p)), (.bool false)], [⟨((0 : Nat)), ((0 : Nat))⟩]⟩, [[]]⟩) ∧ 
((ConOK Try.prog ((29 : Nat)) (C29 found)) ∧ (Con.pre (C29 found) ⟨⟨[(.int .i64 ((↑found : Int)))], []⟩, []⟩) ∧ 
((((↑many : Int) == (↑(popN found) : Int)) = true → (((decide ((↑many2 : Int) ≤ (↑many : Int))) = true → (((decide ((↑many2 : Int) ≥ IntKind.i64.wrap ((↑many : Int) - (1 : Int)))) = true → (((bits BinOp.and IntKind.i64 ((↑found : Int) / (2 : Int) ^ (0 : Nat)) (1 : Int) == (1 : Int)) = true → ((ConOK Try.prog ((12 : Nat)) (C12)) ∧ (Con.pre (C12) ⟨⟨[], []⟩, []⟩) ∧ 
R (.ret (.bool true)))) ∧
((bits BinOp.and IntKind.i64 ((↑found : Int) / (2 : Int) ^ (0 : Nat)) (1 : Int) == (1 : Int)) = false → ((((↑many2 : Int) == (↑many : Int)) = true → ((ConOK Try.prog ((12 : Nat)) (C12)) ∧ (Con.pre (C12) ⟨⟨[], []⟩, []⟩) ∧ 
R (.ret (.bool true)))) ∧
(((↑many2 : Int) == (↑many : Int)) = false → R (.ret (.bool false))))))) ∧
((decide ((↑many2 : Int) ≥ IntKind.i64.wrap ((↑many : Int) - (1 : Int)))) = false → R (.ret (.bool false))))) ∧
((decide ((↑many2 : Int) ≤ (↑many : Int))) = false → R (.ret (.bool false))))) ∧
(((↑many : Int) == (↑(popN found) : Int)) = false → R (.ret (.bool false)))))))))))))))))))))) ∧
((ap) = false → ((((↑n : Int) == (0 : Int)) = true → ((((↑found : Int) == (0 : Int)) = true → ((ConOK Try.prog ((12 : Nat)) (C12)) ∧ (Con.pre (C12) ⟨⟨[], []⟩, []⟩) ∧ 
R (.ret (.bool true)))) ∧
(((↑found : Int) == (0 : Int)) = false → R (.ret (.bool false))))) ∧
(((↑n : Int) == (0 : Int)) = false → ((((((↑n : Int) ≠ (0 : Int))) ∧ ((IntKind.i64 = IntKind.i64))) ∧ (((.int .i64 ((0 : Int))) : Value) = (.int .i64 ((IntKind.i64.wrap w).tmod (↑n : Int))))) ∧
((((((0 : Int) ≤ IntKind.i64.wrap ((0 : Int) + (1 : Int)))) ∧ (((IntKind.i64.wrap ((0 : Int) + (1 : Int)) ≤ (↑n : Int))) ∧ (((↑n : Int) ≤ (↑c : Int))))) ∧ (((.slice (.some ⟨((0 : Nat)), ((4 : Nat)), .none⟩) ((0 : Nat)) (c - (1 : Nat))) : Value) = (.slice (.some ⟨((0 : Nat)), ((4 : Nat)), .none⟩) (n - (1 : Nat)) (c - (1 : Nat))))) ∧
(((((((0 : Int) ≤ IntKind.i64.wrap ((0 : Int) + (1 : Int)))) ∧ (((IntKind.i64.wrap ((0 : Int) + (1 : Int)) ≤ (↑n : Int))) ∧ (((↑n : Int) ≤ (↑c : Int))))) ∧ (((.slice (.some ⟨((0 : Nat)), ((4 : Nat)), .none⟩) ((0 : Nat)) (c - (1 : Nat))) : Value) = (.slice (.some ⟨((0 : Nat)), ((4 : Nat)), .none⟩) (n - (1 : Nat)) (c - (1 : Nat))))) ∧ ((((some (.slice (.some ⟨0, 0, .none⟩) (n) (c)) : Option Value) = some (.slice (.some ⟨0, 0, .none⟩) (n) (c)))) ∧ (True))) ∧ 
(((((0 : Nat) = (0 : Nat))) ∧ (((4 : Nat) ≤ (mvs n f).length))) ∧ 
((ConNOK Try.prog ((24 : Nat)) (C24c false p n c (mvs n f) many pl)) ∧ (ConN.pre (C24c false p n c (mvs n f) many pl) ⟨⟨[(.int .i64 (p)), (.bool false)], [⟨(n), (c)⟩]⟩, [(mvs n f)]⟩) ∧ 
((ConNOK Try.prog ((24 : Nat)) (C24c false p n2 n2 ms2 many2 pl2)) ∧ (ConN.pre (C24c false p n2 n2 ms2 many2 pl2) ⟨⟨[(.int .i64 (p)), (.bool false)], [⟨((0 : Nat)), ((0 : Nat))⟩]⟩, [[]]⟩) ∧ 
((ConOK Try.prog ((29 : Nat)) (C29 found)) ∧ (Con.pre (C29 found) ⟨⟨[(.int .i64 ((↑found : Int)))], []⟩, []⟩) ∧ 
((((↑many : Int) == (↑(popN found) : Int)) = true → (((decide ((↑many2 : Int) ≤ (↑many : Int))) = true → (((decide ((↑many2 : Int) ≥ IntKind.i64.wrap ((↑many : Int) - (1 : Int)))) = true → (((bits BinOp.and IntKind.i64 ((↑found : Int) / (2 : Int) ^ (0 : Nat)) (1 : Int) == (1 : Int)) = true → ((ConOK Try.prog ((12 : Nat)) (C12)) ∧ (Con.pre (C12) ⟨⟨[], []⟩, []⟩) ∧ 
R (.ret (.bool true)))) ∧
((bits BinOp.and IntKind.i64 ((↑found : Int) / (2 : Int) ^ (0 : Nat)) (1 : Int) == (1 : Int)) = false → ((((↑many2 : Int) == (↑many : Int)) = true → ((ConOK Try.prog ((12 : Nat)) (C12)) ∧ (Con.pre (C12) ⟨⟨[], []⟩, []⟩) ∧ 
R (.ret (.bool true)))) ∧
(((↑many2 : Int) == (↑many : Int)) = false → R (.ret (.bool false))))))) ∧
((decide ((↑many2 : Int) ≥ IntKind.i64.wrap ((↑many : Int) - (1 : Int)))) = false → R (.ret (.bool false))))) ∧
((decide ((↑many2 : Int) ≤ (↑many : Int))) = false → R (.ret (.bool false))))) ∧
(((↑many : Int) == (↑(popN found) : Int)) = false → R (.ret (.bool false)))))))))))))))))))))) := by kernel_rfl

theorem law7Bt (p b w : Int) (n c : Nat) (f : Nat → Mv) (hn : n = 1) (hc : n ≤ c) (hb : 0 ≤ b ∧ b < 256) (hw : (0 : Int) = (IntKind.i64.wrap w).tmod (n : Int)) (hok : okH p n f = true) :
    ∃ hs, vx.call 7 [hV p n c, .bool true, .int .u8 b, .int .u8 w] (retK fun r => r = .ret (.bool true)) (m1 (mvs n f)) hs := by
  have hH := okH_iff hok
  have hn7 := hH.n7
  have hwhen : ConOK Try.prog 21 ((C21 p n c f).when (.ret (.bool true))) := con_when (C21_ok p n c f (by omega)) _
  have hr : (C21 p n c f).res ⟨⟨[I p], [(n, c)]⟩, [mvs n f]⟩ = .ret (.bool true) := by show ARes.ret (.bool (okH p n f)) = _; rw [hok]
  have h25 : ConOK Try.prog 25 (C25 true p n c f (proofH true p n f)) := C25_ok true hok hn7
  have h29o := C29_ok (own_128 b hn7)
  have h29f := C29_ok (proof_128 (p := p) (f := f) (sure := true) hn7)
  have hown := own_eq hb hn7
  have hl := loop7o (c := c) hok true w (proofH true p n f) 2 (ownN b n)
  have hcl := cl7o (p := p) (n := n) (c := c) (f := f) true w (proofH true p n f) 2 (ownN b n) true 0
  have hbest := own_best hH true b
  have h24 := C24c_ok (c := c) true hok hn7 (by omega)
  have e1 := proof_few (sure := true) hH
  have q7 := few_7 (p := p) (f := f) true hn7
  have h24' : ConNOK Try.prog 24 (C24c true p 0 0 [] 0 []) := C24z_ok (f := f) true (okH_of ⟨hH.p0, hH.p3, by omega, fun i hi => by omega⟩)
  have e2 : 0 ≤ fewH true p n f := Nat.zero_le _
  have e3 : fewH true p n f ≤ 0 + (if (proofH true p n f).testBit 0 = true then 1 else 0) := by
    subst hn
    exact drop_ge (m := 0) (i := 0) hH (by omega)
  have hbit : (bits BinOp.and IntKind.i64 (((proofH true p n f : Nat) : Int) / (2 : Int) ^ (0 : Nat)) (1 : Int) == (1 : Int)) = (proofH true p n f).testBit 0 := hasI_mask _ _ (by have := proof_128 (p := p) (f := f) (sure := true) hn7; omega)
  have key : ∀ R : ARes → Prop, R (.ret (.bool true)) → ∃ hs, vx.call 7 [hV p n c, .bool true, .int .u8 b, .int .u8 w] (retK R) (m1 (mvs n f)) hs := by
    intro R hR
    have hwi : IntKind.i64.wrap ((0 : Int) + 1) = 1 := by decide
    have hwa : IntKind.i64.wrap (((fewH true p n f : Nat) : Int) - 1) = ((fewH true p n f : Nat) : Int) - 1 := wrapI (by omega) (by omega)
    have hS2 : (Value.slice (some ⟨0, 4, none⟩) 0 (c - 1)) = .slice (some ⟨0, 4, none⟩) (n - 1) (c - 1) := by congr 1; omega
    have hnz : ((n : Int) ≠ 0) := by omega
    have hn0 : ¬ ((n : Int) == (0 : Int)) = true := by simp; omega
    generalize fewH true p n f = many at *
    generalize proofH true p n f = found at *
    generalize hap : apO p n f 2 (ownN b n) n = ap at *
    have hbest : ap = true → popN (ownN b n) ≤ popN found ∧ (popN (ownN b n) = popN found → found ≤ ownN b n) := fun h => hbest (hap.trans h)
    have x1 : (((many : Nat) : Int) == ((popN found : Nat) : Int)) = false → False := fun h => by
      have := beq_eq_false_iff_ne.1 h
      omega
    have x2 : decide (((0 : Nat) : Int) ≤ ((many : Nat) : Int)) = false → False := fun h => by
      have := of_decide_eq_false h
      omega
    have x3 : decide (((0 : Nat) : Int) ≥ ((many : Nat) : Int) - 1) = false → False := fun h => by
      have := of_decide_eq_false h
      have : many ≤ 0 + 1 := Nat.le_trans e3 (by split <;> omega)
      omega
    have x4 : found.testBit 0 = false → (((0 : Nat) : Int) == ((many : Nat) : Int)) = false → False := fun h1 h2 => by
      have := beq_eq_false_iff_ne.1 h2
      rw [h1] at e3
      simp only [Bool.false_eq_true, if_false, Nat.add_zero] at e3
      omega
    refine ⟨_, (f7Bt p b w n c found (ownN b n) many 0 0 ap f (planC true p n f) [] [] R).mpr ?_⟩
    simp only [hown, hwi, Int.toNat_natCast, hwa, hbit]
    refine ⟨fun _ => ⟨C12_ok, rfl, hR⟩, fun _ => ⟨hwhen, ⟨rfl, hr⟩, h25, rfl, ⟨⟨by omega, by omega⟩, by first | exact rfl | exact trivial⟩, hcl, hl, fun ha => ⟨h29o, rfl, h29f, rfl, fun h => absurd (of_decide_eq_true h) (by have := (hbest ha).1; omega), fun _ => ⟨h29o, rfl, h29f, rfl, fun he => ⟨fun h => absurd (of_decide_eq_true h) (by have := (hbest ha).2 (by have := eq_of_beq he; omega); omega), fun _ => ?_⟩, fun _ => ?_⟩⟩, fun _ => ?_⟩⟩
    all_goals
      refine ⟨fun h => absurd h hn0, fun _ => ?_⟩
      repeat' (first | with_reducible apply And.intro | with_reducible intro)
      all_goals first
        | exact hnz
        | exact h24
        | exact h24'
        | exact h29f
        | exact C12_ok
        | exact hR
        | exact trivial
        | exact congrArg _ hw
        | exact hS2
        | exact ones_mvs n f _ _
        | omega
        | (rw [mvs_len]; omega)
        | rfl
        | (exfalso; rename_i h; exact x1 h)
        | (exfalso; rename_i h; exact x2 h)
        | (exfalso; rename_i h; exact x3 h)
        | (exfalso; rename_i h2 h; exact x4 h2 h)
  exact key _ rfl
theorem law7Bf (p b w : Int) (n c : Nat) (f : Nat → Mv) (hn : n = 1) (hc : n ≤ c) (hb : 0 ≤ b ∧ b < 256) (hw : (0 : Int) = (IntKind.i64.wrap w).tmod (n : Int)) (hok : okH p n f = true) :
    ∃ hs, vx.call 7 [hV p n c, .bool false, .int .u8 b, .int .u8 w] (retK fun r => r = .ret (.bool true)) (m1 (mvs n f)) hs := by
  have hH := okH_iff hok
  have hn7 := hH.n7
  have hwhen : ConOK Try.prog 21 ((C21 p n c f).when (.ret (.bool true))) := con_when (C21_ok p n c f (by omega)) _
  have hr : (C21 p n c f).res ⟨⟨[I p], [(n, c)]⟩, [mvs n f]⟩ = .ret (.bool true) := by show ARes.ret (.bool (okH p n f)) = _; rw [hok]
  have h25 : ConOK Try.prog 25 (C25 false p n c f (proofH false p n f)) := C25_ok false hok hn7
  have h29o := C29_ok (own_128 b hn7)
  have h29f := C29_ok (proof_128 (p := p) (f := f) (sure := false) hn7)
  have hown := own_eq hb hn7
  have hl := loop7o (c := c) hok false w (proofH false p n f) 1 (ownN b n)
  have hcl := cl7o (p := p) (n := n) (c := c) (f := f) false w (proofH false p n f) 1 (ownN b n) true 0
  have hbest := own_best hH false b
  have h24 := C24c_ok (c := c) false hok hn7 (by omega)
  have e1 := proof_few (sure := false) hH
  have q7 := few_7 (p := p) (f := f) false hn7
  have h24' : ConNOK Try.prog 24 (C24c false p 0 0 [] 0 []) := C24z_ok (f := f) false (okH_of ⟨hH.p0, hH.p3, by omega, fun i hi => by omega⟩)
  have e2 : 0 ≤ fewH false p n f := Nat.zero_le _
  have e3 : fewH false p n f ≤ 0 + (if (proofH false p n f).testBit 0 = true then 1 else 0) := by
    subst hn
    exact drop_ge (m := 0) (i := 0) hH (by omega)
  have hbit : (bits BinOp.and IntKind.i64 (((proofH false p n f : Nat) : Int) / (2 : Int) ^ (0 : Nat)) (1 : Int) == (1 : Int)) = (proofH false p n f).testBit 0 := hasI_mask _ _ (by have := proof_128 (p := p) (f := f) (sure := false) hn7; omega)
  have key : ∀ R : ARes → Prop, R (.ret (.bool true)) → ∃ hs, vx.call 7 [hV p n c, .bool false, .int .u8 b, .int .u8 w] (retK R) (m1 (mvs n f)) hs := by
    intro R hR
    have hwi : IntKind.i64.wrap ((0 : Int) + 1) = 1 := by decide
    have hwa : IntKind.i64.wrap (((fewH false p n f : Nat) : Int) - 1) = ((fewH false p n f : Nat) : Int) - 1 := wrapI (by omega) (by omega)
    have hS2 : (Value.slice (some ⟨0, 4, none⟩) 0 (c - 1)) = .slice (some ⟨0, 4, none⟩) (n - 1) (c - 1) := by congr 1; omega
    have hnz : ((n : Int) ≠ 0) := by omega
    have hn0 : ¬ ((n : Int) == (0 : Int)) = true := by simp; omega
    generalize fewH false p n f = many at *
    generalize proofH false p n f = found at *
    generalize hap : apO p n f 1 (ownN b n) n = ap at *
    have hbest : ap = true → popN (ownN b n) ≤ popN found ∧ (popN (ownN b n) = popN found → found ≤ ownN b n) := fun h => hbest (hap.trans h)
    have x1 : (((many : Nat) : Int) == ((popN found : Nat) : Int)) = false → False := fun h => by
      have := beq_eq_false_iff_ne.1 h
      omega
    have x2 : decide (((0 : Nat) : Int) ≤ ((many : Nat) : Int)) = false → False := fun h => by
      have := of_decide_eq_false h
      omega
    have x3 : decide (((0 : Nat) : Int) ≥ ((many : Nat) : Int) - 1) = false → False := fun h => by
      have := of_decide_eq_false h
      have : many ≤ 0 + 1 := Nat.le_trans e3 (by split <;> omega)
      omega
    have x4 : found.testBit 0 = false → (((0 : Nat) : Int) == ((many : Nat) : Int)) = false → False := fun h1 h2 => by
      have := beq_eq_false_iff_ne.1 h2
      rw [h1] at e3
      simp only [Bool.false_eq_true, if_false, Nat.add_zero] at e3
      omega
    refine ⟨_, (f7Bf p b w n c found (ownN b n) many 0 0 ap f (planC false p n f) [] [] R).mpr ?_⟩
    simp only [hown, hwi, Int.toNat_natCast, hwa, hbit]
    refine ⟨fun _ => ⟨C12_ok, rfl, hR⟩, fun _ => ⟨hwhen, ⟨rfl, hr⟩, h25, rfl, ⟨⟨by omega, by omega⟩, by first | exact rfl | exact trivial⟩, hcl, hl, fun ha => ⟨h29o, rfl, h29f, rfl, fun h => absurd (of_decide_eq_true h) (by have := (hbest ha).1; omega), fun _ => ⟨h29o, rfl, h29f, rfl, fun he => ⟨fun h => absurd (of_decide_eq_true h) (by have := (hbest ha).2 (by have := eq_of_beq he; omega); omega), fun _ => ?_⟩, fun _ => ?_⟩⟩, fun _ => ?_⟩⟩
    all_goals
      refine ⟨fun h => absurd h hn0, fun _ => ?_⟩
      repeat' (first | with_reducible apply And.intro | with_reducible intro)
      all_goals first
        | exact hnz
        | exact h24
        | exact h24'
        | exact h29f
        | exact C12_ok
        | exact hR
        | exact trivial
        | exact congrArg _ hw
        | exact hS2
        | exact ones_mvs n f _ _
        | omega
        | (rw [mvs_len]; omega)
        | rfl
        | (exfalso; rename_i h; exact x1 h)
        | (exfalso; rename_i h; exact x2 h)
        | (exfalso; rename_i h; exact x3 h)
        | (exfalso; rename_i h2 h; exact x4 h2 h)
  exact key _ rfl
end Go.Ab

/- the law HorseProof: all forms of its arguments. -/
set_option maxRecDepth 100000
namespace Go.Ab
open Go Go.RowKit Go.Proofs
theorem x7 (p b w : Int) (sure : Bool) (n c : Nat) (f : Nat → Mv) (R : ARes → Prop) : (vx.call 7 [hV p n c, .bool sure, .int .u8 b, .int .u8 w] (retK R) (m1 (mvs n f)) ([(17, .split ((7, Hint.con C12) :: []) ((4, Hint.con ((C21 p n c f).when (ARes.ret (Value.bool false)))) :: (4, Hint.con C12) :: []))])) =
((((decide ((if (↑(0 : Nat) : Int) > (↑n : Int) then (↑(0 : Nat) : Int) else (↑n : Int)) > (40 : Int))) = true → ((ConOK Try.prog ((12 : Nat)) (C12)) ∧ (Con.pre (C12) ⟨⟨[], []⟩, []⟩) ∧ 
R (.ret (.bool true)))) ∧
((decide ((if (↑(0 : Nat) : Int) > (↑n : Int) then (↑(0 : Nat) : Int) else (↑n : Int)) > (40 : Int))) = false → ((ConOK Try.prog ((21 : Nat)) ((C21 p n c f).when (ARes.ret (Value.bool false)))) ∧ (Con.pre ((C21 p n c f).when (ARes.ret (Value.bool false))) ⟨⟨[(.int .i64 (p))], [⟨(n), (c)⟩]⟩, [(mvs n f)]⟩) ∧ 
((ConOK Try.prog ((12 : Nat)) (C12)) ∧ (Con.pre (C12) ⟨⟨[], []⟩, []⟩) ∧ 
R (.ret (.bool true))))))) := by kernel_rfl

theorem y7t (p b w : Int) (own : Nat) (R : ARes → Prop) : (vx.call 7 [.agg ⟨[I p, .slice none 0 0]⟩, .bool true, .int .u8 b, .int .u8 w] (retK R) ⟨fillX [.dead] 0 .nil, 1⟩ ([(31, .split ([(3, .split ([(53, .split ([(3, .split ((37, Hint.again) :: (28, Hint.again) :: (271, Hint.con (C29 own)) :: (2, Hint.con (C29 (0 : Nat))) :: [(0, .split ([]) ((3, Hint.con (C29 own)) :: (2, Hint.con (C29 (0 : Nat))) :: [(0, .split ([(3, .split ([]) ((13, Hint.con C12) :: []))]) ((14, Hint.con C12) :: []))]))]) ([]))]) ([]))]) ((11, Hint.con C12) :: []))]) ((12, Hint.con C12) :: []))])) =
((((decide ((0 : Int) ≤ p)) = true → (((decide (p ≤ (3 : Int))) = true → (((decide ((0 : Int) ≤ p)) = true → (((decide (p ≤ (3 : Int))) = true → ((((((2 : Nat) ≤ (2 : Nat))) ∧ (((.agg ⟨[(.int .i64 (p)), (.slice .none ((0 : Nat)) ((0 : Nat)))]⟩) : Value) = (.agg ⟨[(.int .i64 (p)), (.slice .none ((0 : Nat)) ((0 : Nat)))]⟩))) ∧ (((((2 : Nat) ≤ (2 : Nat))) ∧ (((.agg ⟨[(.int .i64 (p)), (.slice .none ((0 : Nat)) ((0 : Nat)))]⟩) : Value) = (.agg ⟨[(.int .i64 (p)), (.slice .none ((0 : Nat)) ((0 : Nat)))]⟩))) ∧ (True))) ∧ 
((((((2 : Nat) ≤ (2 : Nat))) ∧ (((.agg ⟨[(.int .i64 (p)), (.slice .none ((0 : Nat)) ((0 : Nat)))]⟩) : Value) = (.agg ⟨[(.int .i64 (p)), (.slice .none ((0 : Nat)) ((0 : Nat)))]⟩))) ∧ (True)) ∧ 
((ConOK Try.prog ((29 : Nat)) (C29 own)) ∧ (Con.pre (C29 own) ⟨⟨[(.int .i64 (bits BinOp.and IntKind.i64 (IntKind.i64.wrap b) (IntKind.i64.wrap (IntKind.i64.wrap ((1 : Int) * (2 : Int) ^ (0 : Nat)) - (1 : Int)))))], []⟩, []⟩) ∧ 
((ConOK Try.prog ((29 : Nat)) (C29 (0 : Nat))) ∧ (Con.pre (C29 (0 : Nat)) ⟨⟨[(.int .i64 ((0 : Int)))], []⟩, []⟩) ∧ 
(((decide ((↑(popN own) : Int) > (↑(0 : Nat) : Int))) = true → R (.ret (.bool false))) ∧
((decide ((↑(popN own) : Int) > (↑(0 : Nat) : Int))) = false → ((ConOK Try.prog ((29 : Nat)) (C29 own)) ∧ (Con.pre (C29 own) ⟨⟨[(.int .i64 (bits BinOp.and IntKind.i64 (IntKind.i64.wrap b) (IntKind.i64.wrap (IntKind.i64.wrap ((1 : Int) * (2 : Int) ^ (0 : Nat)) - (1 : Int)))))], []⟩, []⟩) ∧ 
((ConOK Try.prog ((29 : Nat)) (C29 (0 : Nat))) ∧ (Con.pre (C29 (0 : Nat)) ⟨⟨[(.int .i64 ((0 : Int)))], []⟩, []⟩) ∧ 
((((↑(popN own) : Int) == (↑(0 : Nat) : Int)) = true → (((decide (bits BinOp.and IntKind.i64 (IntKind.i64.wrap b) (IntKind.i64.wrap (IntKind.i64.wrap ((1 : Int) * (2 : Int) ^ (0 : Nat)) - (1 : Int))) < (0 : Int))) = true → R (.ret (.bool false))) ∧
((decide (bits BinOp.and IntKind.i64 (IntKind.i64.wrap b) (IntKind.i64.wrap (IntKind.i64.wrap ((1 : Int) * (2 : Int) ^ (0 : Nat)) - (1 : Int))) < (0 : Int))) = false → ((ConOK Try.prog ((12 : Nat)) (C12)) ∧ (Con.pre (C12) ⟨⟨[], []⟩, []⟩) ∧ 
R (.ret (.bool true)))))) ∧
(((↑(popN own) : Int) == (↑(0 : Nat) : Int)) = false → ((ConOK Try.prog ((12 : Nat)) (C12)) ∧ (Con.pre (C12) ⟨⟨[], []⟩, []⟩) ∧ 
R (.ret (.bool true)))))))))))))) ∧
((decide (p ≤ (3 : Int))) = false → R (.ret (.bool false))))) ∧
((decide ((0 : Int) ≤ p)) = false → R (.ret (.bool false))))) ∧
((decide (p ≤ (3 : Int))) = false → ((ConOK Try.prog ((12 : Nat)) (C12)) ∧ (Con.pre (C12) ⟨⟨[], []⟩, []⟩) ∧ 
R (.ret (.bool true)))))) ∧
((decide ((0 : Int) ≤ p)) = false → ((ConOK Try.prog ((12 : Nat)) (C12)) ∧ (Con.pre (C12) ⟨⟨[], []⟩, []⟩) ∧ 
R (.ret (.bool true)))))) := by kernel_rfl

theorem y7f (p b w : Int) (own : Nat) (R : ARes → Prop) : (vx.call 7 [.agg ⟨[I p, .slice none 0 0]⟩, .bool false, .int .u8 b, .int .u8 w] (retK R) ⟨fillX [.dead] 0 .nil, 1⟩ ([(31, .split ([(3, .split ([(53, .split ([(3, .split ((37, Hint.again) :: (28, Hint.again) :: (270, Hint.con (C29 own)) :: (2, Hint.con (C29 (0 : Nat))) :: [(0, .split ([]) ((3, Hint.con (C29 own)) :: (2, Hint.con (C29 (0 : Nat))) :: [(0, .split ([(3, .split ([]) ((13, Hint.con C12) :: []))]) ((14, Hint.con C12) :: []))]))]) ([]))]) ([]))]) ((11, Hint.con C12) :: []))]) ((12, Hint.con C12) :: []))])) =
((((decide ((0 : Int) ≤ p)) = true → (((decide (p ≤ (3 : Int))) = true → (((decide ((0 : Int) ≤ p)) = true → (((decide (p ≤ (3 : Int))) = true → ((((((2 : Nat) ≤ (2 : Nat))) ∧ (((.agg ⟨[(.int .i64 (p)), (.slice .none ((0 : Nat)) ((0 : Nat)))]⟩) : Value) = (.agg ⟨[(.int .i64 (p)), (.slice .none ((0 : Nat)) ((0 : Nat)))]⟩))) ∧ (((((2 : Nat) ≤ (2 : Nat))) ∧ (((.agg ⟨[(.int .i64 (p)), (.slice .none ((0 : Nat)) ((0 : Nat)))]⟩) : Value) = (.agg ⟨[(.int .i64 (p)), (.slice .none ((0 : Nat)) ((0 : Nat)))]⟩))) ∧ (True))) ∧ 
((((((2 : Nat) ≤ (2 : Nat))) ∧ (((.agg ⟨[(.int .i64 (p)), (.slice .none ((0 : Nat)) ((0 : Nat)))]⟩) : Value) = (.agg ⟨[(.int .i64 (p)), (.slice .none ((0 : Nat)) ((0 : Nat)))]⟩))) ∧ (True)) ∧ 
((ConOK Try.prog ((29 : Nat)) (C29 own)) ∧ (Con.pre (C29 own) ⟨⟨[(.int .i64 (bits BinOp.and IntKind.i64 (IntKind.i64.wrap b) (IntKind.i64.wrap (IntKind.i64.wrap ((1 : Int) * (2 : Int) ^ (0 : Nat)) - (1 : Int)))))], []⟩, []⟩) ∧ 
((ConOK Try.prog ((29 : Nat)) (C29 (0 : Nat))) ∧ (Con.pre (C29 (0 : Nat)) ⟨⟨[(.int .i64 ((0 : Int)))], []⟩, []⟩) ∧ 
(((decide ((↑(popN own) : Int) > (↑(0 : Nat) : Int))) = true → R (.ret (.bool false))) ∧
((decide ((↑(popN own) : Int) > (↑(0 : Nat) : Int))) = false → ((ConOK Try.prog ((29 : Nat)) (C29 own)) ∧ (Con.pre (C29 own) ⟨⟨[(.int .i64 (bits BinOp.and IntKind.i64 (IntKind.i64.wrap b) (IntKind.i64.wrap (IntKind.i64.wrap ((1 : Int) * (2 : Int) ^ (0 : Nat)) - (1 : Int)))))], []⟩, []⟩) ∧ 
((ConOK Try.prog ((29 : Nat)) (C29 (0 : Nat))) ∧ (Con.pre (C29 (0 : Nat)) ⟨⟨[(.int .i64 ((0 : Int)))], []⟩, []⟩) ∧ 
((((↑(popN own) : Int) == (↑(0 : Nat) : Int)) = true → (((decide (bits BinOp.and IntKind.i64 (IntKind.i64.wrap b) (IntKind.i64.wrap (IntKind.i64.wrap ((1 : Int) * (2 : Int) ^ (0 : Nat)) - (1 : Int))) < (0 : Int))) = true → R (.ret (.bool false))) ∧
((decide (bits BinOp.and IntKind.i64 (IntKind.i64.wrap b) (IntKind.i64.wrap (IntKind.i64.wrap ((1 : Int) * (2 : Int) ^ (0 : Nat)) - (1 : Int))) < (0 : Int))) = false → ((ConOK Try.prog ((12 : Nat)) (C12)) ∧ (Con.pre (C12) ⟨⟨[], []⟩, []⟩) ∧ 
R (.ret (.bool true)))))) ∧
(((↑(popN own) : Int) == (↑(0 : Nat) : Int)) = false → ((ConOK Try.prog ((12 : Nat)) (C12)) ∧ (Con.pre (C12) ⟨⟨[], []⟩, []⟩) ∧ 
R (.ret (.bool true)))))))))))))) ∧
((decide (p ≤ (3 : Int))) = false → R (.ret (.bool false))))) ∧
((decide ((0 : Int) ≤ p)) = false → R (.ret (.bool false))))) ∧
((decide (p ≤ (3 : Int))) = false → ((ConOK Try.prog ((12 : Nat)) (C12)) ∧ (Con.pre (C12) ⟨⟨[], []⟩, []⟩) ∧ 
R (.ret (.bool true)))))) ∧
((decide ((0 : Int) ≤ p)) = false → ((ConOK Try.prog ((12 : Nat)) (C12)) ∧ (Con.pre (C12) ⟨⟨[], []⟩, []⟩) ∧ 
R (.ret (.bool true)))))) := by kernel_rfl

theorem own_0 (b : Int) : ownN b 0 = 0 := by simp [ownN]
theorem law7Zt (p b w : Int) (c : Nat) (f : Nat → Mv) (hb : 0 ≤ b ∧ b < 256) (hok : okH p 0 f = true) :
    ∃ hs, vx.call 7 [hV p 0 c, .bool true, .int .u8 b, .int .u8 w] (retK fun r => r = .ret (.bool true)) (m1 (mvs 0 f)) hs := by
  have hH := okH_iff hok
  have hn7 := hH.n7
  have hwhen : ConOK Try.prog 21 ((C21 p 0 c f).when (.ret (.bool true))) := con_when (C21_ok p 0 c f (by omega)) _
  have hr : (C21 p 0 c f).res ⟨⟨[I p], [(0, c)]⟩, [mvs 0 f]⟩ = .ret (.bool true) := by show ARes.ret (.bool (okH p 0 f)) = _; rw [hok]
  have h25 : ConOK Try.prog 25 (C25 true p 0 c f (proofH true p 0 f)) := C25_ok true hok hn7
  have h29o := C29_ok (own_128 b hn7)
  have h29f := C29_ok (proof_128 (p := p) (f := f) (sure := true) hn7)
  have hown := own_eq hb hn7
  have hl := loop7o (c := c) hok true w (proofH true p 0 f) 2 (ownN b 0)
  have hcl := cl7o (p := p) (n := 0) (c := c) (f := f) true w (proofH true p 0 f) 2 (ownN b 0) true 0
  have hbest := own_best hH true b
  have hf0 : proofH true p 0 f = 0 := by have := proof_lt (p := p) (f := f) (sure := true) hn7; omega
  have key : ∀ R : ARes → Prop, R (.ret (.bool true)) → ∃ hs, vx.call 7 [hV p 0 c, .bool true, .int .u8 b, .int .u8 w] (retK R) (m1 (mvs 0 f)) hs := by
    intro R hR
    generalize hap : apO p 0 f 2 (ownN b 0) 0 = ap at *
    have hbest : ap = true → popN (ownN b 0) ≤ popN (proofH true p 0 f) ∧ (popN (ownN b 0) = popN (proofH true p 0 f) → proofH true p 0 f ≤ ownN b 0) := fun h => hbest (hap.trans h)
    refine ⟨_, (f7Bt p b w 0 c (proofH true p 0 f) (ownN b 0) 0 0 0 ap f [] [] [] R).mpr ?_⟩
    simp only [hown]
    refine ⟨fun _ => ⟨C12_ok, rfl, hR⟩, fun _ => ⟨hwhen, ⟨rfl, hr⟩, h25, rfl, ⟨⟨by omega, by omega⟩, by first | exact rfl | exact trivial⟩, hcl, hl, fun ha => ⟨h29o, rfl, h29f, rfl, fun h => absurd (of_decide_eq_true h) (by have := (hbest ha).1; omega), fun _ => ⟨h29o, rfl, h29f, rfl, fun he => ⟨fun h => absurd (of_decide_eq_true h) (by have := (hbest ha).2 (by have := eq_of_beq he; omega); omega), fun _ => ?_⟩, fun _ => ?_⟩⟩, fun _ => ?_⟩⟩
    all_goals exact ⟨fun _ => ⟨fun _ => ⟨C12_ok, rfl, hR⟩, fun h => absurd h (by rw [hf0]; decide)⟩, fun h => absurd h (by decide)⟩
  exact key _ rfl
theorem law7Zf (p b w : Int) (c : Nat) (f : Nat → Mv) (hb : 0 ≤ b ∧ b < 256) (hok : okH p 0 f = true) :
    ∃ hs, vx.call 7 [hV p 0 c, .bool false, .int .u8 b, .int .u8 w] (retK fun r => r = .ret (.bool true)) (m1 (mvs 0 f)) hs := by
  have hH := okH_iff hok
  have hn7 := hH.n7
  have hwhen : ConOK Try.prog 21 ((C21 p 0 c f).when (.ret (.bool true))) := con_when (C21_ok p 0 c f (by omega)) _
  have hr : (C21 p 0 c f).res ⟨⟨[I p], [(0, c)]⟩, [mvs 0 f]⟩ = .ret (.bool true) := by show ARes.ret (.bool (okH p 0 f)) = _; rw [hok]
  have h25 : ConOK Try.prog 25 (C25 false p 0 c f (proofH false p 0 f)) := C25_ok false hok hn7
  have h29o := C29_ok (own_128 b hn7)
  have h29f := C29_ok (proof_128 (p := p) (f := f) (sure := false) hn7)
  have hown := own_eq hb hn7
  have hl := loop7o (c := c) hok false w (proofH false p 0 f) 1 (ownN b 0)
  have hcl := cl7o (p := p) (n := 0) (c := c) (f := f) false w (proofH false p 0 f) 1 (ownN b 0) true 0
  have hbest := own_best hH false b
  have hf0 : proofH false p 0 f = 0 := by have := proof_lt (p := p) (f := f) (sure := false) hn7; omega
  have key : ∀ R : ARes → Prop, R (.ret (.bool true)) → ∃ hs, vx.call 7 [hV p 0 c, .bool false, .int .u8 b, .int .u8 w] (retK R) (m1 (mvs 0 f)) hs := by
    intro R hR
    generalize hap : apO p 0 f 1 (ownN b 0) 0 = ap at *
    have hbest : ap = true → popN (ownN b 0) ≤ popN (proofH false p 0 f) ∧ (popN (ownN b 0) = popN (proofH false p 0 f) → proofH false p 0 f ≤ ownN b 0) := fun h => hbest (hap.trans h)
    refine ⟨_, (f7Bf p b w 0 c (proofH false p 0 f) (ownN b 0) 0 0 0 ap f [] [] [] R).mpr ?_⟩
    simp only [hown]
    refine ⟨fun _ => ⟨C12_ok, rfl, hR⟩, fun _ => ⟨hwhen, ⟨rfl, hr⟩, h25, rfl, ⟨⟨by omega, by omega⟩, by first | exact rfl | exact trivial⟩, hcl, hl, fun ha => ⟨h29o, rfl, h29f, rfl, fun h => absurd (of_decide_eq_true h) (by have := (hbest ha).1; omega), fun _ => ⟨h29o, rfl, h29f, rfl, fun he => ⟨fun h => absurd (of_decide_eq_true h) (by have := (hbest ha).2 (by have := eq_of_beq he; omega); omega), fun _ => ?_⟩, fun _ => ?_⟩⟩, fun _ => ?_⟩⟩
    all_goals exact ⟨fun _ => ⟨fun _ => ⟨C12_ok, rfl, hR⟩, fun h => absurd h (by rw [hf0]; decide)⟩, fun h => absurd h (by decide)⟩
  exact key _ rfl
/-- SOME MOVES, OR NONE, WHERE MOVES LIE. -/
theorem law7 (p b w : Int) (sure : Bool) (n c : Nat) (f : Nat → Mv) (hc : n ≤ c) (hb : 0 ≤ b ∧ b < 256) (hw : 0 ≤ w ∧ w < 256) :
    ∃ hs, vx.call 7 [hV p n c, .bool sure, .int .u8 b, .int .u8 w] (retK fun r => r = .ret (.bool true)) (m1 (mvs n f)) hs := by
  by_cases hfar : 40 < n
  · exact ⟨_, (x7 p b w sure n c f _).mpr ⟨fun _ => ⟨C12_ok, rfl, rfl⟩, fun h => absurd (of_decide_eq_false h) (by intro hh; apply hh; split <;> omega)⟩⟩
  cases hok : okH p n f with
  | false =>
    have hwhen : ConOK Try.prog 21 ((C21 p n c f).when (.ret (.bool false))) := con_when (C21_ok p n c f (by omega)) _
    have hr : (C21 p n c f).res ⟨⟨[I p], [(n, c)]⟩, [mvs n f]⟩ = .ret (.bool false) := by show ARes.ret (.bool (okH p n f)) = _; rw [hok]
    exact ⟨_, (x7 p b w sure n c f _).mpr ⟨fun _ => ⟨C12_ok, rfl, rfl⟩, fun _ => ⟨hwhen, ⟨rfl, hr⟩, C12_ok, rfl, rfl⟩⟩⟩
  | true =>
    have h7 := (okH_iff hok).n7
    rcases Nat.eq_zero_or_pos n with h0 | h0
    · subst h0
      cases sure
      · exact law7Zf p b w c f hb hok
      · exact law7Zt p b w c f hb hok
    · obtain ⟨z, rfl⟩ := Int.eq_ofNat_of_zero_le hw.1
      have ew : (IntKind.i64.wrap (z : Int)).tmod (n : Int) = ((z % n : Nat) : Int) := by
        rw [wrapI (by omega) (by omega)]; rfl
      have hlt : z % n < n := Nat.mod_lt z h0
      generalize hi : z % n = i at ew hlt
      rcases Nat.eq_zero_or_pos i with i0 | i0
      · subst i0
        by_cases h1 : n = 1
        · cases sure
          · exact law7Bf p b z n c f h1 hc hb ew.symm hok
          · exact law7Bt p b z n c f h1 hc hb ew.symm hok
        · cases sure
          · exact law7Cf p b z n c (n - 1) f (by omega) (by omega) hc hb ew.symm hok
          · exact law7Ct p b z n c (n - 1) f (by omega) (by omega) hc hb ew.symm hok
      · by_cases h1 : n = i + 1
        · cases sure
          · exact law7Df p b z n c i f h1 i0 hc hb ew.symm hok
          · exact law7Dt p b z n c i f h1 i0 hc hb ew.symm hok
        · cases sure
          · exact law7Af p b z n c i (n - (i + 1)) f (by omega) i0 (by omega) hc hb ew.symm hok
          · exact law7At p b z n c i (n - (i + 1)) f (by omega) i0 (by omega) hc hb ew.symm hok
/-- NO MOVES AT ALL. -/
theorem law7n (p b w : Int) (sure : Bool) (hb : 0 ≤ b ∧ b < 256) :
    ∃ hs, vx.call 7 [.agg ⟨[I p, .slice none 0 0]⟩, .bool sure, .int .u8 b, .int .u8 w] (retK fun r => r = .ret (.bool true)) ⟨fillX [.dead] 0 .nil, 1⟩ hs := by
  have h0 := C29_ok (show 0 < 128 by omega)
  have hown := own_eq hb (show 0 ≤ 7 by omega)
  rw [own_0] at hown
  have key : ∀ R : ARes → Prop, R (.ret (.bool true)) → ∃ hs, vx.call 7 [.agg ⟨[I p, .slice none 0 0]⟩, .bool sure, .int .u8 b, .int .u8 w] (retK R) ⟨fillX [.dead] 0 .nil, 1⟩ hs := by
    intro R hR
    cases sure
    · refine ⟨_, (y7f p b w 0 R).mpr ?_⟩
      simp only [hown]
      repeat' (first | with_reducible apply And.intro | with_reducible intro)
      all_goals first | exact C12_ok | exact hR | exact h0 | exact trivial | rfl | exact Nat.le_refl _ | (exfalso; rename_i h; have := of_decide_eq_true h; simp [popN] at this; done) | (exfalso; simp_all; done)
    · refine ⟨_, (y7t p b w 0 R).mpr ?_⟩
      simp only [hown]
      repeat' (first | with_reducible apply And.intro | with_reducible intro)
      all_goals first | exact C12_ok | exact hR | exact h0 | exact trivial | rfl | exact Nat.le_refl _ | (exfalso; rename_i h; have := of_decide_eq_true h; simp [popN] at this; done) | (exfalso; simp_all; done)
  exact key _ rfl
end Go.Ab

/- a world in which a slice that only is read lies: what a run that was reckoned gives there. -/
set_option maxRecDepth 100000
namespace Go.Ab
open Go Go.RowKit Go.Proofs
theorem e7t (p b w : Int) (own : Nat) (R : ARes → Prop) : (vx.call 7 [hV p 0 0, .bool true, .int .u8 b, .int .u8 w] (retK R) ⟨fillX [.dead] 0 .nil, 1⟩ ([(31, .split ([(3, .split ([(53, .split ([(3, .split ((37, Hint.again) :: (28, Hint.again) :: (271, Hint.con (C29 own)) :: (2, Hint.con (C29 (0 : Nat))) :: [(0, .split ([]) ((3, Hint.con (C29 own)) :: (2, Hint.con (C29 (0 : Nat))) :: [(0, .split ([(3, .split ([]) ((13, Hint.con C12) :: []))]) ((14, Hint.con C12) :: []))]))]) ([]))]) ([]))]) ((11, Hint.con C12) :: []))]) ((12, Hint.con C12) :: []))])) =
((((decide ((0 : Int) ≤ p)) = true → (((decide (p ≤ (3 : Int))) = true → (((decide ((0 : Int) ≤ p)) = true → (((decide (p ≤ (3 : Int))) = true → ((((((2 : Nat) ≤ (2 : Nat))) ∧ (((.agg ⟨[(.int .i64 (p)), (.slice (.some ⟨0, 0, .none⟩) ((0 : Nat)) ((0 : Nat)))]⟩) : Value) = (.agg ⟨[(.int .i64 (p)), (.slice (.some ⟨0, 0, .none⟩) ((0 : Nat)) ((0 : Nat)))]⟩))) ∧ (((((2 : Nat) ≤ (2 : Nat))) ∧ (((.agg ⟨[(.int .i64 (p)), (.slice (.some ⟨0, 0, .none⟩) ((0 : Nat)) ((0 : Nat)))]⟩) : Value) = (.agg ⟨[(.int .i64 (p)), (.slice (.some ⟨0, 0, .none⟩) ((0 : Nat)) ((0 : Nat)))]⟩))) ∧ (True))) ∧ 
((((((2 : Nat) ≤ (2 : Nat))) ∧ (((.agg ⟨[(.int .i64 (p)), (.slice (.some ⟨0, 0, .none⟩) ((0 : Nat)) ((0 : Nat)))]⟩) : Value) = (.agg ⟨[(.int .i64 (p)), (.slice (.some ⟨0, 0, .none⟩) ((0 : Nat)) ((0 : Nat)))]⟩))) ∧ (True)) ∧ 
((ConOK Try.prog ((29 : Nat)) (C29 own)) ∧ (Con.pre (C29 own) ⟨⟨[(.int .i64 (bits BinOp.and IntKind.i64 (IntKind.i64.wrap b) (IntKind.i64.wrap (IntKind.i64.wrap ((1 : Int) * (2 : Int) ^ (0 : Nat)) - (1 : Int)))))], []⟩, []⟩) ∧ 
((ConOK Try.prog ((29 : Nat)) (C29 (0 : Nat))) ∧ (Con.pre (C29 (0 : Nat)) ⟨⟨[(.int .i64 ((0 : Int)))], []⟩, []⟩) ∧ 
(((decide ((↑(popN own) : Int) > (↑(0 : Nat) : Int))) = true → R (.ret (.bool false))) ∧
((decide ((↑(popN own) : Int) > (↑(0 : Nat) : Int))) = false → ((ConOK Try.prog ((29 : Nat)) (C29 own)) ∧ (Con.pre (C29 own) ⟨⟨[(.int .i64 (bits BinOp.and IntKind.i64 (IntKind.i64.wrap b) (IntKind.i64.wrap (IntKind.i64.wrap ((1 : Int) * (2 : Int) ^ (0 : Nat)) - (1 : Int)))))], []⟩, []⟩) ∧ 
((ConOK Try.prog ((29 : Nat)) (C29 (0 : Nat))) ∧ (Con.pre (C29 (0 : Nat)) ⟨⟨[(.int .i64 ((0 : Int)))], []⟩, []⟩) ∧ 
((((↑(popN own) : Int) == (↑(0 : Nat) : Int)) = true → (((decide (bits BinOp.and IntKind.i64 (IntKind.i64.wrap b) (IntKind.i64.wrap (IntKind.i64.wrap ((1 : Int) * (2 : Int) ^ (0 : Nat)) - (1 : Int))) < (0 : Int))) = true → R (.ret (.bool false))) ∧
((decide (bits BinOp.and IntKind.i64 (IntKind.i64.wrap b) (IntKind.i64.wrap (IntKind.i64.wrap ((1 : Int) * (2 : Int) ^ (0 : Nat)) - (1 : Int))) < (0 : Int))) = false → ((ConOK Try.prog ((12 : Nat)) (C12)) ∧ (Con.pre (C12) ⟨⟨[], []⟩, []⟩) ∧ 
R (.ret (.bool true)))))) ∧
(((↑(popN own) : Int) == (↑(0 : Nat) : Int)) = false → ((ConOK Try.prog ((12 : Nat)) (C12)) ∧ (Con.pre (C12) ⟨⟨[], []⟩, []⟩) ∧ 
R (.ret (.bool true)))))))))))))) ∧
((decide (p ≤ (3 : Int))) = false → R (.ret (.bool false))))) ∧
((decide ((0 : Int) ≤ p)) = false → R (.ret (.bool false))))) ∧
((decide (p ≤ (3 : Int))) = false → ((ConOK Try.prog ((12 : Nat)) (C12)) ∧ (Con.pre (C12) ⟨⟨[], []⟩, []⟩) ∧ 
R (.ret (.bool true)))))) ∧
((decide ((0 : Int) ≤ p)) = false → ((ConOK Try.prog ((12 : Nat)) (C12)) ∧ (Con.pre (C12) ⟨⟨[], []⟩, []⟩) ∧ 
R (.ret (.bool true)))))) := by kernel_rfl

theorem e7f (p b w : Int) (own : Nat) (R : ARes → Prop) : (vx.call 7 [hV p 0 0, .bool false, .int .u8 b, .int .u8 w] (retK R) ⟨fillX [.dead] 0 .nil, 1⟩ ([(31, .split ([(3, .split ([(53, .split ([(3, .split ((37, Hint.again) :: (28, Hint.again) :: (270, Hint.con (C29 own)) :: (2, Hint.con (C29 (0 : Nat))) :: [(0, .split ([]) ((3, Hint.con (C29 own)) :: (2, Hint.con (C29 (0 : Nat))) :: [(0, .split ([(3, .split ([]) ((13, Hint.con C12) :: []))]) ((14, Hint.con C12) :: []))]))]) ([]))]) ([]))]) ((11, Hint.con C12) :: []))]) ((12, Hint.con C12) :: []))])) =
((((decide ((0 : Int) ≤ p)) = true → (((decide (p ≤ (3 : Int))) = true → (((decide ((0 : Int) ≤ p)) = true → (((decide (p ≤ (3 : Int))) = true → ((((((2 : Nat) ≤ (2 : Nat))) ∧ (((.agg ⟨[(.int .i64 (p)), (.slice (.some ⟨0, 0, .none⟩) ((0 : Nat)) ((0 : Nat)))]⟩) : Value) = (.agg ⟨[(.int .i64 (p)), (.slice (.some ⟨0, 0, .none⟩) ((0 : Nat)) ((0 : Nat)))]⟩))) ∧ (((((2 : Nat) ≤ (2 : Nat))) ∧ (((.agg ⟨[(.int .i64 (p)), (.slice (.some ⟨0, 0, .none⟩) ((0 : Nat)) ((0 : Nat)))]⟩) : Value) = (.agg ⟨[(.int .i64 (p)), (.slice (.some ⟨0, 0, .none⟩) ((0 : Nat)) ((0 : Nat)))]⟩))) ∧ (True))) ∧ 
((((((2 : Nat) ≤ (2 : Nat))) ∧ (((.agg ⟨[(.int .i64 (p)), (.slice (.some ⟨0, 0, .none⟩) ((0 : Nat)) ((0 : Nat)))]⟩) : Value) = (.agg ⟨[(.int .i64 (p)), (.slice (.some ⟨0, 0, .none⟩) ((0 : Nat)) ((0 : Nat)))]⟩))) ∧ (True)) ∧ 
((ConOK Try.prog ((29 : Nat)) (C29 own)) ∧ (Con.pre (C29 own) ⟨⟨[(.int .i64 (bits BinOp.and IntKind.i64 (IntKind.i64.wrap b) (IntKind.i64.wrap (IntKind.i64.wrap ((1 : Int) * (2 : Int) ^ (0 : Nat)) - (1 : Int)))))], []⟩, []⟩) ∧ 
((ConOK Try.prog ((29 : Nat)) (C29 (0 : Nat))) ∧ (Con.pre (C29 (0 : Nat)) ⟨⟨[(.int .i64 ((0 : Int)))], []⟩, []⟩) ∧ 
(((decide ((↑(popN own) : Int) > (↑(0 : Nat) : Int))) = true → R (.ret (.bool false))) ∧
((decide ((↑(popN own) : Int) > (↑(0 : Nat) : Int))) = false → ((ConOK Try.prog ((29 : Nat)) (C29 own)) ∧ (Con.pre (C29 own) ⟨⟨[(.int .i64 (bits BinOp.and IntKind.i64 (IntKind.i64.wrap b) (IntKind.i64.wrap (IntKind.i64.wrap ((1 : Int) * (2 : Int) ^ (0 : Nat)) - (1 : Int)))))], []⟩, []⟩) ∧ 
((ConOK Try.prog ((29 : Nat)) (C29 (0 : Nat))) ∧ (Con.pre (C29 (0 : Nat)) ⟨⟨[(.int .i64 ((0 : Int)))], []⟩, []⟩) ∧ 
((((↑(popN own) : Int) == (↑(0 : Nat) : Int)) = true → (((decide (bits BinOp.and IntKind.i64 (IntKind.i64.wrap b) (IntKind.i64.wrap (IntKind.i64.wrap ((1 : Int) * (2 : Int) ^ (0 : Nat)) - (1 : Int))) < (0 : Int))) = true → R (.ret (.bool false))) ∧
((decide (bits BinOp.and IntKind.i64 (IntKind.i64.wrap b) (IntKind.i64.wrap (IntKind.i64.wrap ((1 : Int) * (2 : Int) ^ (0 : Nat)) - (1 : Int))) < (0 : Int))) = false → ((ConOK Try.prog ((12 : Nat)) (C12)) ∧ (Con.pre (C12) ⟨⟨[], []⟩, []⟩) ∧ 
R (.ret (.bool true)))))) ∧
(((↑(popN own) : Int) == (↑(0 : Nat) : Int)) = false → ((ConOK Try.prog ((12 : Nat)) (C12)) ∧ (Con.pre (C12) ⟨⟨[], []⟩, []⟩) ∧ 
R (.ret (.bool true)))))))))))))) ∧
((decide (p ≤ (3 : Int))) = false → R (.ret (.bool false))))) ∧
((decide ((0 : Int) ≤ p)) = false → R (.ret (.bool false))))) ∧
((decide (p ≤ (3 : Int))) = false → ((ConOK Try.prog ((12 : Nat)) (C12)) ∧ (Con.pre (C12) ⟨⟨[], []⟩, []⟩) ∧ 
R (.ret (.bool true)))))) ∧
((decide ((0 : Int) ≤ p)) = false → ((ConOK Try.prog ((12 : Nat)) (C12)) ∧ (Con.pre (C12) ⟨⟨[], []⟩, []⟩) ∧ 
R (.ret (.bool true)))))) := by kernel_rfl

/-- Where a name's cells lie, and which they are. -/
abbrev RoB := Option (BInfo × List Value × TypeId)
def roX : RoB → XB
  | none => .dead
  | some (_, cs, e) => .cells cs e .ro
noncomputable def roM (x : RoB) : Mem := ⟨fillX [roX x] 0 .nil, 1⟩
/-- What the world must hold. -/
def RoHolds (W : World) : RoB → Prop
  | none => True
  | some (f, cs, _) => ∃ c t fr, W.heap[f.blk]? = some (.cells c t fr) ∧ ∀ (j : Nat) v, cs[j]? = some v → atomic v = true ∧ c[f.off + j]? = some v
/-- The naming; where nothing lies any place will do. -/
def roN (x : RoB) : NMap := fun i => if i = 0 then some ((x.map (·.1)).getD ⟨0, 0, 0⟩) else none
theorem roM_H (x : RoB) (i : Nat) : (roM x).H i = if i = 0 then some (roX x).a else none := by
  simp only [roM, Mem.H]
  rw [fillX_get _ (by simp)]
  match i with
  | 0 => rfl
  | n + 1 =>
    rw [if_neg (by simp only [List.length_cons, List.length_nil]; omega), if_neg (by omega)]
    rfl
theorem rel_ro {W : World} {x : RoB} (hx : RoHolds W x) : Rel Try.prog (upTo W.heap.size) (roN x) (roM x).H W := by
  have one : ∀ (z : RoB) (f : BInfo), RoHolds W z → (z.map (·.1)).getD ⟨0, 0, 0⟩ = f → BlkRel Try.prog (upTo W.heap.size) (roN x) W (roX z).a f := by
    intro z f hz hf
    cases z with
    | none => trivial
    | some q =>
      obtain ⟨g, cs, e⟩ := q
      obtain ⟨c, t, fr, h1, h2⟩ := hz
      have hf : g = f := hf
      subst hf
      refine ⟨c, t, fr, h1, fun j v hj => ⟨v, (h2 j v hj).2, VRel.of_atomic (h2 j v hj).1⟩, fun hk => absurd rfl hk, fun _ => (Array.getElem?_eq_some_iff.1 h1).1, fun hk => (by cases hk)⟩
  have own : ∀ z : RoB, (roX z).a.own = false := fun z => by
    cases z with
    | none => rfl
    | some q => rfl
  refine ⟨?_, ?_, ⟨1, fun i hi => ⟨?_, ?_⟩⟩, fun _ h => h, fun g hg => ?_, fun _ i hi => ?_⟩
  · intro i b f hb hf
    rw [roM_H] at hb
    simp only [roN] at hf
    by_cases h0 : i = 0
    · rw [if_pos h0] at hb hf
      cases hb; cases hf
      exact one x _ hx rfl
    · rw [if_neg h0] at hb; cases hb
  · intro i j b c f g _ hb _ hob
    rw [roM_H] at hb
    by_cases h0 : i = 0
    · rw [if_pos h0] at hb; cases hb
      rw [own] at hob; cases hob
    · rw [if_neg h0] at hb; cases hb
  · simp only [roN]; rw [if_neg (by omega)]
  · rw [roM_H, if_neg (by omega)]
  · rw [nglob] at hg; omega
  · rw [roM_H] at hi
    simp only [roN]
    by_cases h0 : i = 0
    · rw [if_pos h0] at hi; cases hi
    · rw [if_neg h0]
/-- A run that was reckoned, in such a world. -/
theorem calls_ro {W : World} {x : RoB} (hx : RoHolds W x) {f : FuncId} {args args' : List Value} (ha : VsRel (roN x) args args') {b : Bool} (h : ∃ hs, vx.call f args (retK fun r => r = .ret (.bool b)) (roM x) hs) :
    Calls Try.prog f ⟨args'⟩ W fun e W' => e = .returned (.bool b) ∧ Below W.heap.size W W' := by
  obtain ⟨hs, h⟩ := h
  have h2 := (vx_sound.call h).2 (upTo W.heap.size) (roN x) W args' (rel_ro hx) ha 0
  refine callsIn_wide.1 (CallsIn.mono (h2 : CallsIn Fence.wide 0 Try.prog f ⟨args'⟩ W _) ?_)
  rintro e W' ⟨r, H', m', ⟨mm, hs', hk, _⟩, _, _, hb, hq⟩
  have hk : r = .ret (.bool b) := hk
  subst hk
  obtain ⟨v', rfl, hv⟩ := hq
  exact ⟨by rw [hv.eq_of_atomic rfl], hb.below⟩
/-- A SLICE OF CAPACITY 0. -/
theorem law7e (p b w : Int) (sure : Bool) (hb : 0 ≤ b ∧ b < 256) :
    ∃ hs, vx.call 7 [hV p 0 0, .bool sure, .int .u8 b, .int .u8 w] (retK fun r => r = .ret (.bool true)) ⟨fillX [.dead] 0 .nil, 1⟩ hs := by
  have h0 := C29_ok (show 0 < 128 by omega)
  have hown := own_eq hb (show 0 ≤ 7 by omega)
  rw [own_0] at hown
  have key : ∀ R : ARes → Prop, R (.ret (.bool true)) → ∃ hs, vx.call 7 [hV p 0 0, .bool sure, .int .u8 b, .int .u8 w] (retK R) ⟨fillX [.dead] 0 .nil, 1⟩ hs := by
    intro R hR
    cases sure
    · refine ⟨_, (e7f p b w 0 R).mpr ?_⟩
      simp only [hown]
      repeat' (first | with_reducible apply And.intro | with_reducible intro)
      all_goals first | exact C12_ok | exact hR | exact h0 | exact trivial | rfl | exact Nat.le_refl _ | (exfalso; rename_i h; have := of_decide_eq_true h; simp [popN] at this; done) | (exfalso; simp_all; done)
    · refine ⟨_, (e7t p b w 0 R).mpr ?_⟩
      simp only [hown]
      repeat' (first | with_reducible apply And.intro | with_reducible intro)
      all_goals first | exact C12_ok | exact hR | exact h0 | exact trivial | rfl | exact Nat.le_refl _ | (exfalso; rename_i h; have := of_decide_eq_true h; simp [popN] at this; done) | (exfalso; simp_all; done)
  exact key _ rfl
end Go.Ab

/- what slices of moves that a row hands in are, in a world; what the law's run gives for them. -/
set_option maxRecDepth 100000
namespace Go.Ab
open Go Go.RowKit Go.Proofs Go.ChangeShapes Go.WideShapes Go.Deep

theorem cells5 : Try.prog.cellsOf 5 = 1 := by kernel_rfl
theorem cells33 : Try.prog.cellsOf 33 = 4 := by kernel_rfl
theorem cells31 : Try.prog.cellsOf 31 = 2 := by kernel_rfl
theorem cells3 : Try.prog.cellsOf 3 = 1 := by kernel_rfl
theorem cells22 : Try.prog.cellsOf 22 = 1 := by kernel_rfl
theorem cells24 : Try.prog.cellsOf 24 = 2 := by kernel_rfl

/-- A cell that is read lies in a block of cells. -/
theorem cell_block {W : World} {a : Addr} {i : Nat} {v : Value} (h : W.cell? (a.add i) = some v) : ∃ c t fr, W.heap[a.block]? = some (.cells c t fr) ∧ c[a.off + i]? = some v ∧ (i = 0 → a.spot = none) := by
  unfold World.cell? Addr.add at h
  by_cases h0 : i = 0
  · subst h0
    rw [if_pos rfl] at h
    split at h
    · rename_i c t fr hc
      split at h
      · cases h
      · rename_i hs
        exact ⟨c, t, fr, hc, h, fun _ => by cases hsp : a.spot with
          | none => rfl
          | some x => rw [hsp] at hs; exact absurd rfl hs⟩
    · cases h
  · rw [if_neg h0] at h
    split at h
    · rename_i c t fr hc
      exact ⟨c, t, fr, hc, h, fun h1 => absurd h1 h0⟩
    · cases h

theorem wf_u8 {n : Int} (h : (Lit.int .u8 n).wf = true) : 0 ≤ n ∧ n < 256 := by
  simp only [Lit.wf, Bool.and_eq_true, decide_eq_true_eq] at h
  have h1 : IntKind.min .u8 ≤ n := h.1
  have h2 : n ≤ IntKind.max .u8 := h.2
  have e1 : IntKind.min .u8 = 0 := by decide
  have e2 : IntKind.max .u8 = 255 := by decide
  omega

/-- Where a slice that is not nil lies, and that its cells are these. -/
def SlAt (W : World) (v : Value) (n : Nat) (cs : List Value) (e : TypeId) : Prop :=
  ∃ (b o cap : Nat), v = .slice (some ⟨b, o, none⟩) n cap ∧ n ≤ cap ∧ RoHolds W (some (⟨b, o, 0⟩, cs, e))

section
variable {H : Type} {enc : TypeId × Value → H} {W : World}
theorem int_in {fuel : Nat} {cs : List Value} {x : DataW H × List MemPlace} (h : DataW.trod enc Try.prog W 0 (fun _ => true) true fuel 3 cs = some x) : ∃ z : Int, cs = [I z] := by
  obtain ⟨z, h1, _, _⟩ := DataW.trod_int Try.underlying3 h
  exact ⟨z, h1⟩

theorem move_in {fuel : Nat} {cs : List Value} {x : DataW H × List MemPlace} (h : DataW.trod enc Try.prog W 0 (fun _ => true) true fuel 33 cs = some x) : ∃ m : Mv, cs = mvV m := by
  obtain ⟨y0, y1, y2, n, _, hl, h0, h1, h2⟩ := trod_struct3 Try.underlying33 h
  rw [cells33] at hl
  match cs, hl with
  | [w0, w1, w2, w3], _ =>
    obtain ⟨a, ha⟩ := int_in h0
    obtain ⟨b, hb⟩ := int_in h1
    obtain ⟨z0, z1, k, _, _, k0, k1⟩ := trod_struct2 Try.underlying31 h2
    obtain ⟨c, hc⟩ := int_in k0
    obtain ⟨d, hd⟩ := int_in k1
    have ha : [w0] = [I a] := ha
    have hb : [w1] = [I b] := hb
    have hc : [w2] = [I c] := hc
    have hd : [w3] = [I d] := hd
    cases ha; cases hb; cases hc; cases hd
    exact ⟨⟨a, b, c, d⟩, rfl⟩

/-- MOVES. -/
theorem moves_in {fuel : Nat} {v : Value} {x : DataW H × List MemPlace} (h : DataW.trod enc Try.prog W 0 (fun _ => true) true fuel 22 [v] = some x) :
    v = .slice none 0 0 ∨ (∃ a, v = .slice (some a) 0 0) ∨ ∃ (n : Nat) (f : Nat → Mv), SlAt W v n (mvs n f) 1 := by
  rcases open_slice Try.underlying22 h with ⟨h0, _⟩ | ⟨a, len, cap, m, n, D, Pl, hv, _, hl, _, hm, _, hx⟩
  · exact Or.inl (List.cons.inj h0).1
  right
  obtain rfl := (List.cons.inj hv).1
  have hm : m = cap := by simpa using hm
  subst hm
  rw [cells33] at hx
  rcases Nat.eq_zero_or_pos m with h0 | h0
  · subst h0
    obtain rfl : len = 0 := by omega
    exact Or.inl ⟨a, rfl⟩
  · right
    have each : ∀ i, i < m → ∃ z : Mv, ∀ j, j < 4 → W.cell? ((a.add (i * 4)).add j) = (mvV z)[j]? := by
      intro i hi
      obtain ⟨cs', h1, h2⟩ := hx i hi
      obtain ⟨z, rfl⟩ := move_in h2
      exact ⟨z, (World.cells?_some h1).2.2⟩
    haveI : Inhabited Mv := ⟨⟨0, 0, 0, 0⟩⟩
    obtain ⟨f, hf⟩ := choose_lt (α := Mv) each
    have cellOf : ∀ i j, i < m → j < 4 → W.cell? (a.add (i * 4 + j)) = (mvV (f i))[j]? := fun i j hi hj => by rw [← add_add]; exact hf i hi j hj
    obtain ⟨c, t, fr, hc, _, hsp⟩ := cell_block (show W.cell? (a.add 0) = some (I (f 0).at_) from cellOf 0 0 h0 (by omega))
    have hsp := hsp rfl
    refine ⟨len, f, a.block, a.off, m, ?_, hl, c, t, fr, hc, ?_⟩
    · obtain ⟨b, o, s⟩ := a
      cases hsp
      rfl
    · intro j v hj
      have hlen := flatC_len (n := len) (k := 4) (g := fun i => mvV (f i)) (fun _ _ => rfl)
      have hj : (flatC len fun i => mvV (f i))[j]? = some v := hj
      have hjl : j < len * 4 := by
        have := (List.getElem?_eq_some_iff.1 hj).1
        omega
      have hi : j / 4 < len := by omega
      have hr : j % 4 < 4 := by omega
      have e := flatC_get (n := len) (k := 4) (g := fun i => mvV (f i)) (fun _ _ => rfl) hi hr
      rw [show j / 4 * 4 + j % 4 = j by omega, hj] at e
      have e2 := cellOf (j / 4) (j % 4) (by omega) hr
      rw [show j / 4 * 4 + j % 4 = j by omega, ← e] at e2
      refine ⟨flatC_atomic (n := len) (g := fun i => mvV (f i)) (fun i _ w hw => ?_) v (List.mem_of_getElem? hj), ?_⟩
      · have hw : w ∈ [I (f i).at_, I (f i).place, I (f i).lo, I (f i).hi] := hw
        simp only [List.mem_cons, List.not_mem_nil, or_false] at hw
        rcases hw with rfl | rfl | rfl | rfl <;> rfl
      · obtain ⟨c', t', fr', hc', hv', _⟩ := cell_block e2
        rw [hc] at hc'
        cases hc'
        exact hv'

/-- WHAT A HORSES IS. -/
theorem horses_in {fuel : Nat} {cs : List Value} {x : DataW H × List MemPlace} (h : DataW.trod enc Try.prog W 0 (fun _ => true) true fuel 24 cs = some x) :
    ∃ (p : Int) (v : Value), cs = [I p, v] ∧ (v = .slice none 0 0 ∨ (∃ a, v = .slice (some a) 0 0) ∨ ∃ (n : Nat) (f : Nat → Mv), SlAt W v n (mvs n f) 1) := by
  obtain ⟨y0, y1, n, _, hl, h0, h1⟩ := trod_struct2 Try.underlying24 h
  rw [cells24] at hl
  match cs, hl with
  | [w0, w1], _ =>
    obtain ⟨p, hp⟩ := int_in h0
    have hp : [w0] = [I p] := hp
    cases hp
    exact ⟨p, w1, rfl, moves_in (show DataW.trod enc Try.prog W 0 (fun _ => true) true n 22 [w1] = some y1 from h1)⟩
end

section
variable {W : World}
theorem vs7 {x : RoB} {p : Int} {s : Bool} {b w : Int} {v v' : Value} (hv : VRel (roN x) v v') :
    VsRel (roN x) [.agg ⟨[I p, v]⟩, .bool s, .int .u8 b, .int .u8 w] [.agg ⟨[I p, v']⟩, .bool s, .int .u8 b, .int .u8 w] :=
  .agg (.atom rfl hv) (.atom rfl (.atom rfl (.atom rfl .nil)))
theorem v_none {x : RoB} : VRel (roN x) (.slice none 0 0) (.slice none 0 0) := .atom rfl .nil
theorem v_zero {x : RoB} {i : Nat} {a : Addr} {f : BInfo} (h : roN x i = some f) (he : f.extra = 0) : VRel (roN x) (.slice (some ⟨i, 0, none⟩) 0 0) (.slice (some a) 0 0) := by
  have := VsRel.slice (m := roN x) (i := i) (o := 0) (n := 0) (c := 0) (f := f) (a := a) (l := []) (l' := []) h (Nat.le_refl _) (fun hp => by omega) .nil
  rw [he] at this
  exact this
theorem v_at {x : RoB} {i b o n c : Nat} (h : roN x i = some ⟨b, o, 0⟩) (hn : n ≤ c) : VRel (roN x) (.slice (some ⟨i, 0, none⟩) n c) (.slice (some ⟨b, o, none⟩) n c) :=
  VsRel.slice (m := roN x) (i := i) (o := 0) (n := n) (c := c) (f := ⟨b, o, 0⟩) (a := ⟨b, o, none⟩) (l := []) (l' := []) h hn (fun _ => rfl) .nil
/-- THE RUN OF THE LAW, FOR ALL THAT A ROW HANDS IN. -/
theorem run7 {p : Int} {s : Bool} {b w : Int} {v : Value}
    (hv : v = .slice none 0 0 ∨ (∃ a, v = .slice (some a) 0 0) ∨ ∃ (n : Nat) (f : Nat → Mv), SlAt W v n (mvs n f) 1) (hb : 0 ≤ b ∧ b < 256) (hw : 0 ≤ w ∧ w < 256) :
    Calls Try.prog 7 #[.agg #[I p, v], .bool s, .int .u8 b, .int .u8 w] W fun e W' => e = .returned (.bool true) ∧ Below W.heap.size W W' := by
  rcases hv with rfl | ⟨a, rfl⟩ | ⟨n, f, bb, o, c, rfl, hn, hx⟩
  · exact calls_ro (x := none) trivial (vs7 v_none) (law7n p b w s hb)
  · exact calls_ro (x := none) trivial (vs7 (v_zero (i := 0) rfl rfl)) (law7e p b w s hb)
  · exact calls_ro (x := some (⟨bb, o, 0⟩, mvs n f, 1)) hx (vs7 (v_at rfl hn)) (law7 p b w s n c f hn hb hw)
end
end Go.Ab

