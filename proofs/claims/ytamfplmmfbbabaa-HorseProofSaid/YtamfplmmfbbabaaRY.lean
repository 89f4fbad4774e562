/- the law HorseProof: without one move: some moves on both sides. -/
import Derived.Test.YtamfplmmfbbabaaRX
set_option maxRecDepth 100000
namespace Go.Ab
open Go Go.RowKit Go.Proofs
theorem f7At (p b w : Int) (n c i m found own many n2 many2 : Nat) (ap : Bool) (f : Nat → Mv) (pl ms2 pl2 : List Value) (R : ARes → Prop) : (vx.call 7 [hV p n c, .bool true, .int .u8 b, .int .u8 w] (retK R) (m1 (mvs n f)) ([(17, .split ((7, Hint.con C12) :: []) ((4, Hint.con ((C21 p n c f).when (ARes.ret (Value.bool true)))) :: (6, Hint.con (C25 true p n c f found)) :: (17, .val (.int .i64 (IntKind.i64.wrap ((1 : Int) * (2 : Int) ^ n)))) :: (8, Hint.loopW T7o (AExit.exit (0 : Nat)) T7o fun x => st7o true w p n c f found (2 : Int) own ap n) :: [(4, .split ((3, Hint.con (C29 own)) :: (2, Hint.con (C29 found)) :: [(0, .split ([]) ((3, Hint.con (C29 own)) :: (2, Hint.con (C29 found)) :: [(0, .split ([(3, .split ([]) ([(8, .split ([(2, .split ((1, Hint.con C12) :: []) ([]))]) ((6, .val (.int .i64 ((↑i : Int)))) :: (7, .val (.slice (.some ⟨0, 0, .none⟩) (i) (c))) :: (4, .val (.slice (.some ⟨((0 : Nat)), ((i + (1 : Nat)) * (4 : Nat)), .none⟩) (m) (c - (i + (1 : Nat))))) :: (0, Hint.growN) :: (0, Hint.again) :: (0, Hint.growN) :: (4, Hint.conN (C24c true p n c (mvs n f) many pl)) :: (9, Hint.conN (C24c true p n2 n2 ms2 many2 pl2)) :: (17, Hint.con (C29 found)) :: [(0, .split ([(4, .split ([(5, .split ((4, .val (.int .i64 ((↑found : Int) / (2 : Int) ^ i))) :: [(1, .split ((4, Hint.con C12) :: []) ([(3, .split ((3, Hint.con C12) :: []) ([]))]))]) ([]))]) ([]))]) ([]))]))]))]) ([(9, .split ([(2, .split ((1, Hint.con C12) :: []) ([]))]) ((6, .val (.int .i64 ((↑i : Int)))) :: (7, .val (.slice (.some ⟨0, 0, .none⟩) (i) (c))) :: (4, .val (.slice (.some ⟨((0 : Nat)), ((i + (1 : Nat)) * (4 : Nat)), .none⟩) (m) (c - (i + (1 : Nat))))) :: (0, Hint.growN) :: (0, Hint.again) :: (0, Hint.growN) :: (4, Hint.conN (C24c true p n c (mvs n f) many pl)) :: (9, Hint.conN (C24c true p n2 n2 ms2 many2 pl2)) :: (17, Hint.con (C29 found)) :: [(0, .split ([(4, .split ([(5, .split ((4, .val (.int .i64 ((↑found : Int) / (2 : Int) ^ i))) :: [(1, .split ((4, Hint.con C12) :: []) ([(3, .split ((3, Hint.con C12) :: []) ([]))]))]) ([]))]) ([]))]) ([]))]))]))]))]) ([(7, .split ([(2, .split ((1, Hint.con C12) :: []) ([]))]) ((6, .val (.int .i64 ((↑i : Int)))) :: (7, .val (.slice (.some ⟨0, 0, .none⟩) (i) (c))) :: (4, .val (.slice (.some ⟨((0 : Nat)), ((i + (1 : Nat)) * (4 : Nat)), .none⟩) (m) (c - (i + (1 : Nat))))) :: (0, Hint.growN) :: (0, Hint.again) :: (0, Hint.growN) :: (4, Hint.conN (C24c true p n c (mvs n f) many pl)) :: (9, Hint.conN (C24c true p n2 n2 ms2 many2 pl2)) :: (17, Hint.con (C29 found)) :: [(0, .split ([(4, .split ([(5, .split ((4, .val (.int .i64 ((↑found : Int) / (2 : Int) ^ i))) :: [(1, .split ((4, Hint.con C12) :: []) ([(3, .split ((3, Hint.con C12) :: []) ([]))]))]) ([]))]) ([]))]) ([]))]))]))]))])) =
((((decide ((if (↑(0 : Nat) : Int) > (↑n : Int) then (↑(0 : Nat) : Int) else (↑n : Int)) > (40 : Int))) = true → ((ConOK Try.prog ((12 : Nat)) (C12)) ∧ (Con.pre (C12) ⟨⟨[], []⟩, []⟩) ∧ 
R (.ret (.bool true)))) ∧
((decide ((if (↑(0 : Nat) : Int) > (↑n : Int) then (↑(0 : Nat) : Int) else (↑n : Int)) > (40 : Int))) = false → ((ConOK Try.prog ((21 : Nat)) ((C21 p n c f).when (ARes.ret (Value.bool true)))) ∧ (Con.pre ((C21 p n c f).when (ARes.ret (Value.bool true))) ⟨⟨[(.int .i64 (p))], [⟨(n), (c)⟩]⟩, [(mvs n f)]⟩) ∧ 
((ConOK Try.prog ((25 : Nat)) (C25 true p n c f found)) ∧ (Con.pre (C25 true p n c f found) ⟨⟨[(.int .i64 (p)), (.bool true)], [⟨(n), (c)⟩]⟩, [(mvs n f)]⟩) ∧ 
((((((0 : Int) ≤ (↑n : Int))) ∧ (((↑n : Int) ≤ (↑(64 : Nat) : Int)))) ∧ (((.int .i64 (IntKind.i64.wrap ((1 : Int) * (2 : Int) ^ n))) : Value) = (.int .i64 (IntKind.i64.wrap ((1 : Int) * (2 : Int) ^ n))))) ∧
((ClW ⟨⟨[(.bool true), (.int .u8 (w)), (.int .i64 ((↑found : Int))), (.int .i64 ((2 : Int))), (.int .i64 (bits BinOp.and IntKind.i64 (IntKind.i64.wrap b) (IntKind.i64.wrap (IntKind.i64.wrap ((1 : Int) * (2 : Int) ^ n) - (1 : Int))))), (.bool true), (.int .i64 ((↑n : Int))), (.int .i64 ((0 : Int))), (.int .i64 (p))], [⟨(n), (c)⟩]⟩, [(mvs n f)], []⟩) ∧ (LoopOW Try.prog .none p7o (T7o) ⟨⟨[(.bool true), (.int .u8 (w)), (.int .i64 ((↑found : Int))), (.int .i64 ((2 : Int))), (.int .i64 (bits BinOp.and IntKind.i64 (IntKind.i64.wrap b) (IntKind.i64.wrap (IntKind.i64.wrap ((1 : Int) * (2 : Int) ^ n) - (1 : Int))))), (.bool true), (.int .i64 ((↑n : Int))), (.int .i64 ((0 : Int))), (.int .i64 (p))], [⟨(n), (c)⟩]⟩, [(mvs n f)], []⟩ (.exit ((0 : Nat))) (T7o) ⟨⟨[(.bool true), (.int .u8 (w)), (.int .i64 ((↑found : Int))), (.int .i64 ((2 : Int))), (.int .i64 ((↑own : Int))), (.bool (ap)), (.int .i64 ((↑n : Int))), (.int .i64 ((↑n : Int))), (.int .i64 (p))], [⟨(n), (c)⟩]⟩, [(mvs n f)], []⟩) ∧ 
(((ap) = true → ((ConOK Try.prog ((29 : Nat)) (C29 own)) ∧ (Con.pre (C29 own) ⟨⟨[(.int .i64 ((↑own : Int)))], []⟩, []⟩) ∧ 
((ConOK Try.prog ((29 : Nat)) (C29 found)) ∧ (Con.pre (C29 found) ⟨⟨[(.int .i64 ((↑found : Int)))], []⟩, []⟩) ∧ 
(((decide ((↑(popN own) : Int) > (↑(popN found) : Int))) = true → R (.ret (.bool false))) ∧
((decide ((↑(popN own) : Int) > (↑(popN found) : Int))) = false → ((ConOK Try.prog ((29 : Nat)) (C29 own)) ∧ (Con.pre (C29 own) ⟨⟨[(.int .i64 ((↑own : Int)))], []⟩, []⟩) ∧ 
((ConOK Try.prog ((29 : Nat)) (C29 found)) ∧ (Con.pre (C29 found) ⟨⟨[(.int .i64 ((↑found : Int)))], []⟩, []⟩) ∧ 
((((↑(popN own) : Int) == (↑(popN found) : Int)) = true → (((decide ((↑own : Int) < (↑found : Int))) = true → R (.ret (.bool false))) ∧
((decide ((↑own : Int) < (↑found : Int))) = false → ((((↑n : Int) == (0 : Int)) = true → ((((↑found : Int) == (0 : Int)) = true → ((ConOK Try.prog ((12 : Nat)) (C12)) ∧ (Con.pre (C12) ⟨⟨[], []⟩, []⟩) ∧ 
R (.ret (.bool true)))) ∧
(((↑found : Int) == (0 : Int)) = false → R (.ret (.bool false))))) ∧
(((↑n : Int) == (0 : Int)) = false → ((((((↑n : Int) ≠ (0 : Int))) ∧ ((IntKind.i64 = IntKind.i64))) ∧ (((.int .i64 ((↑i : Int))) : Value) = (.int .i64 ((IntKind.i64.wrap w).tmod (↑n : Int))))) ∧
((((((0 : Int) ≤ (↑i : Int))) ∧ (((↑i : Int) ≤ (↑c : Int)))) ∧ (((.slice (.some ⟨0, 0, .none⟩) (i) (c)) : Value) = (.slice (.some ⟨0, 0, .none⟩) (i) (c)))) ∧
((((((0 : Int) ≤ IntKind.i64.wrap ((↑i : Int) + (1 : Int)))) ∧ (((IntKind.i64.wrap ((↑i : Int) + (1 : Int)) ≤ (↑n : Int))) ∧ (((↑n : Int) ≤ (↑c : Int))))) ∧ (((.slice (.some ⟨((0 : Nat)), ((i + (1 : Nat)) * (4 : Nat)), .none⟩) (m) (c - (i + (1 : Nat)))) : Value) = (.slice (.some ⟨((0 : Nat)), ((0 : Nat) + (IntKind.i64.wrap ((↑i : Int) + (1 : Int))).toNat * (4 : Nat)), .none⟩) (n - (IntKind.i64.wrap ((↑i : Int) + (1 : Int))).toNat) (c - (IntKind.i64.wrap ((↑i : Int) + (1 : Int))).toNat)))) ∧
(((((((0 : Nat) < i)) ∧ (((0 : Nat) + i * (4 : Nat) ≤ (mvs n f).length))) ∧ (((List.take (i * (4 : Nat)) (List.drop (0 : Nat) (mvs n f))).all one = true))) ∧ (((¬(0 : Nat) + i ≤ (0 : Nat))) ∧ ((((0 : Nat) = (0 : Nat))) ∧ (((((0 : Nat) + i) * (32 : Nat) ≤ (140737488355328 : Nat))) ∧ (((0 : Nat) + i ≤ (4611686018427387904 : Nat))))))) ∧ 
(((((((0 : Int) ≤ IntKind.i64.wrap ((↑i : Int) + (1 : Int)))) ∧ (((IntKind.i64.wrap ((↑i : Int) + (1 : Int)) ≤ (↑n : Int))) ∧ (((↑n : Int) ≤ (↑c : Int))))) ∧ (((.slice (.some ⟨((0 : Nat)), ((i + (1 : Nat)) * (4 : Nat)), .none⟩) (m) (c - (i + (1 : Nat)))) : Value) = (.slice (.some ⟨((0 : Nat)), ((0 : Nat) + (IntKind.i64.wrap ((↑i : Int) + (1 : Int))).toNat * (4 : Nat)), .none⟩) (n - (IntKind.i64.wrap ((↑i : Int) + (1 : Int))).toNat) (c - (IntKind.i64.wrap ((↑i : Int) + (1 : Int))).toNat)))) ∧ ((((some (.slice (.some ⟨0, 0, .none⟩) (n) (c)) : Option Value) = some (.slice (.some ⟨0, 0, .none⟩) (n) (c)))) ∧ (True))) ∧ 
(((((((0 : Nat) < m)) ∧ (((i + (1 : Nat)) * (4 : Nat) + m * (4 : Nat) ≤ (mvs n f).length))) ∧ (((List.take (m * (4 : Nat)) (List.drop ((i + (1 : Nat)) * (4 : Nat)) (mvs n f))).all one = true))) ∧ (((¬(0 : Nat) + i + m ≤ (0 : Nat) + i)) ∧ (((((0 : Nat) + i) * (4 : Nat) = (List.take (0 : Nat) (zCells [Value.int .i64 (0 : Int), Value.int .i64 (0 : Int), Value.int .i64 (0 : Int), Value.int .i64 (0 : Int)] (0 : Nat)) ++ List.take (i * (4 : Nat)) (List.drop (0 : Nat) (mvs n f))).length)) ∧ (((((0 : Nat) + i + m) * (32 : Nat) ≤ (140737488355328 : Nat))) ∧ (((0 : Nat) + i + m ≤ (4611686018427387904 : Nat))))))) ∧ 
((ConNOK Try.prog ((24 : Nat)) (C24c true p n c (mvs n f) many pl)) ∧ (ConN.pre (C24c true p n c (mvs n f) many pl) ⟨⟨[(.int .i64 (p)), (.bool true)], [⟨(n), (c)⟩]⟩, [(mvs n f)]⟩) ∧ 
((ConNOK Try.prog ((24 : Nat)) (C24c true p n2 n2 ms2 many2 pl2)) ∧ (ConN.pre (C24c true p n2 n2 ms2 many2 pl2) ⟨⟨[(.int .i64 (p)), (.bool true)], [⟨((0 : Nat) + i + m), ((0 : Nat) + i + m)⟩]⟩, [((List.take (((0 : Nat) + i) * (4 : Nat)) ([] ++ (List.take (i * (4 : Nat)) (List.drop ((0 : Nat)) (mvs n f))))) ++ (List.take (m * (4 : Nat)) (List.drop ((i + (1 : Nat)) * (4 : Nat)) (mvs n f))))]⟩) ∧ 
((ConOK Try.prog ((29 : Nat)) (C29 found)) ∧ (Con.pre (C29 found) ⟨⟨[(.int .i64 ((↑found : Int)))], []⟩, []⟩) ∧ 
((((↑many : Int) == (↑(popN found) : Int)) = true → (((decide ((↑many2 : Int) ≤ (↑many : Int))) = true → (((decide ((↑many2 : Int) ≥ IntKind.i64.wrap ((↑many : Int) - (1 : Int)))) = true → ((((((0 : Int) ≤ (↑i : Int))) ∧ (((↑i : Int) ≤ (↑(64 : Nat) : Int)))) ∧ (((.int .i64 ((↑found : Int) / (2 : Int) ^ i)) : Value) = (.int .i64 ((↑found : Int) / (2 : Int) ^ i)))) ∧
(((bits BinOp.and IntKind.i64 ((↑found : Int) / (2 : Int) ^ i) (1 : Int) == (1 : Int)) = true → ((ConOK Try.prog ((12 : Nat)) (C12)) ∧ (Con.pre (C12) ⟨⟨[], []⟩, []⟩) ∧ 
R (.ret (.bool true)))) ∧
((bits BinOp.and IntKind.i64 ((↑found : Int) / (2 : Int) ^ i) (1 : Int) == (1 : Int)) = false → ((((↑many2 : Int) == (↑many : Int)) = true → ((ConOK Try.prog ((12 : Nat)) (C12)) ∧ (Con.pre (C12) ⟨⟨[], []⟩, []⟩) ∧ 
R (.ret (.bool true)))) ∧
(((↑many2 : Int) == (↑many : Int)) = false → R (.ret (.bool false)))))))) ∧
((decide ((↑many2 : Int) ≥ IntKind.i64.wrap ((↑many : Int) - (1 : Int)))) = false → R (.ret (.bool false))))) ∧
((decide ((↑many2 : Int) ≤ (↑many : Int))) = false → R (.ret (.bool false))))) ∧
(((↑many : Int) == (↑(popN found) : Int)) = false → R (.ret (.bool false)))))))))))))))))) ∧
(((↑(popN own) : Int) == (↑(popN found) : Int)) = false → ((((↑n : Int) == (0 : Int)) = true → ((((↑found : Int) == (0 : Int)) = true → ((ConOK Try.prog ((12 : Nat)) (C12)) ∧ (Con.pre (C12) ⟨⟨[], []⟩, []⟩) ∧ 
R (.ret (.bool true)))) ∧
(((↑found : Int) == (0 : Int)) = false → R (.ret (.bool false))))) ∧
(((↑n : Int) == (0 : Int)) = false → ((((((↑n : Int) ≠ (0 : Int))) ∧ ((IntKind.i64 = IntKind.i64))) ∧ (((.int .i64 ((↑i : Int))) : Value) = (.int .i64 ((IntKind.i64.wrap w).tmod (↑n : Int))))) ∧
((((((0 : Int) ≤ (↑i : Int))) ∧ (((↑i : Int) ≤ (↑c : Int)))) ∧ (((.slice (.some ⟨0, 0, .none⟩) (i) (c)) : Value) = (.slice (.some ⟨0, 0, .none⟩) (i) (c)))) ∧
((((((0 : Int) ≤ IntKind.i64.wrap ((↑i : Int) + (1 : Int)))) ∧ (((IntKind.i64.wrap ((↑i : Int) + (1 : Int)) ≤ (↑n : Int))) ∧ (((↑n : Int) ≤ (↑c : Int))))) ∧ (((.slice (.some ⟨((0 : Nat)), ((i + (1 : Nat)) * (4 : Nat)), .none⟩) (m) (c - (i + (1 : Nat)))) : Value) = (.slice (.some ⟨((0 : Nat)), ((0 : Nat) + (IntKind.i64.wrap ((↑i : Int) + (1 : Int))).toNat * (4 : Nat)), .none⟩) (n - (IntKind.i64.wrap ((↑i : Int) + (1 : Int))).toNat) (c - (IntKind.i64.wrap ((↑i : Int) + (1 : Int))).toNat)))) ∧
(((((((0 : Nat) < i)) ∧ (((0 : Nat) + i * (4 : Nat) ≤ (mvs n f).length))) ∧ (((List.take (i * (4 : Nat)) (List.drop (0 : Nat) (mvs n f))).all one = true))) ∧ (((¬(0 : Nat) + i ≤ (0 : Nat))) ∧ ((((0 : Nat) = (0 : Nat))) ∧ (((((0 : Nat) + i) * (32 : Nat) ≤ (140737488355328 : Nat))) ∧ (((0 : Nat) + i ≤ (4611686018427387904 : Nat))))))) ∧ 
(((((((0 : Int) ≤ IntKind.i64.wrap ((↑i : Int) + (1 : Int)))) ∧ (((IntKind.i64.wrap ((↑i : Int) + (1 : Int)) ≤ (↑n : Int))) ∧ (((↑n : Int) ≤ (↑c : Int))))) ∧ (((.slice (.some ⟨((0 : Nat)), ((i + (1 : Nat)) * (4 : Nat)), .none⟩) (m) (c - (i + (1 : Nat)))) : Value) = (.slice (.some ⟨((0 : Nat)), ((0 : Nat) + (IntKind.i64.wrap ((↑i : Int) + (1 : Int))).toNat * (4 : Nat)), .none⟩) (n - (IntKind.i64.wrap ((↑i : Int) + (1 : Int))).toNat) (c - (IntKind.i64.wrap ((↑i : Int) + (1 : Int))).toNat)))) ∧ ((((some (.slice (.some ⟨0, 0, .none⟩) (n) (c)) : Option Value) = some (.slice (.some ⟨0, 0, .none⟩) (n) (c)))) ∧ (True))) ∧ 
(((((((0 : Nat) < m)) ∧ (((i + (1 : Nat)) * (4 : Nat) + m * (4 : Nat) ≤ (mvs n f).length))) ∧ (((List.take (m * (4 : Nat)) (List.drop ((i + (1 : Nat)) * (4 : Nat)) (mvs n f))).all one = true))) ∧ (((¬(0 : Nat) + i + m ≤ (0 : Nat) + i)) ∧ (((((0 : Nat) + i) * (4 : Nat) = (List.take (0 : Nat) (zCells [Value.int .i64 (0 : Int), Value.int .i64 (0 : Int), Value.int .i64 (0 : Int), Value.int .i64 (0 : Int)] (0 : Nat)) ++ List.take (i * (4 : Nat)) (List.drop (0 : Nat) (mvs n f))).length)) ∧ (((((0 : Nat) + i + m) * (32 : Nat) ≤ (140737488355328 : Nat))) ∧ (((0 : Nat) + i + m ≤ (4611686018427387904 : Nat))))))) ∧ 
((ConNOK Try.prog ((24 : Nat)) (C24c true p n c (mvs n f) many pl)) ∧ (ConN.pre (C24c true p n c (mvs n f) many pl) ⟨⟨[(.int .i64 (p)), (.bool true)], [⟨(n), (c)⟩]⟩, [(mvs n f)]⟩) ∧ 
((ConNOK Try.prog ((24 : Nat)) (C24c true p n2 n2 ms2 many2 pl2)) ∧ (ConN.pre (C24c true p n2 n2 ms2 many2 pl2) ⟨⟨[(.int .i64 (p)), (.bool true)], [⟨((0 : Nat) + i + m), ((0 : Nat) + i + m)⟩]⟩, [((List.take (((0 : Nat) + i) * (4 : Nat)) ([] ++ (List.take (i * (4 : Nat)) (List.drop ((0 : Nat)) (mvs n f))))) ++ (List.take (m * (4 : Nat)) (List.drop ((i + (1 : Nat)) * (4 : Nat)) (mvs n f))))]⟩) ∧ 
((ConOK Try.prog ((29 : Nat)) (C29 found)) ∧ (Con.pre (C29 found) ⟨⟨[(.int .i64 ((↑found : Int)))], []⟩, []⟩) ∧ 
((((↑many : Int) == (↑(popN found) : Int)) = true → (((decide ((↑many2 : Int) ≤ (↑many : Int))) = true → (((decide ((↑many2 : Int) ≥ IntKind.i64.wrap ((↑many : Int) - (1 : Int)))) = true → ((((((0 : Int) ≤ (↑i : Int))) ∧ (((↑i : Int) ≤ (↑(64 : Nat) : Int)))) ∧ (((.int .i64 ((↑found : Int) / (2 : Int) ^ i)) : Value) = (.int .i64 ((↑found : Int) / (2 : Int) ^ i)))) ∧
(((bits BinOp.and IntKind.i64 ((↑found : Int) / (2 : Int) ^ i) (1 : Int) == (1 : Int)) = true → ((ConOK Try.prog ((12 : Nat)) (C12)) ∧ (Con.pre (C12) ⟨⟨[], []⟩, []⟩) ∧ 
R (.ret (.bool true)))) ∧
((bits BinOp.and IntKind.i64 ((↑found : Int) / (2 : Int) ^ i) (1 : Int) == (1 : Int)) = false → ((((↑many2 : Int) == (↑many : Int)) = true → ((ConOK Try.prog ((12 : Nat)) (C12)) ∧ (Con.pre (C12) ⟨⟨[], []⟩, []⟩) ∧ 
R (.ret (.bool true)))) ∧
(((↑many2 : Int) == (↑many : Int)) = false → R (.ret (.bool false)))))))) ∧
((decide ((↑many2 : Int) ≥ IntKind.i64.wrap ((↑many : Int) - (1 : Int)))) = false → R (.ret (.bool false))))) ∧
((decide ((↑many2 : Int) ≤ (↑many : Int))) = false → R (.ret (.bool false))))) ∧
(((↑many : Int) == (↑(popN found) : Int)) = false → R (.ret (.bool false)))))))))))))))))))))))) ∧
((ap) = false → ((((↑n : Int) == (0 : Int)) = true → ((((↑found : Int) == (0 : Int)) = true → ((ConOK Try.prog ((12 : Nat)) (C12)) ∧ (Con.pre (C12) ⟨⟨[], []⟩, []⟩) ∧ 
R (.ret (.bool true)))) ∧
(((↑found : Int) == (0 : Int)) = false → R (.ret (.bool false))))) ∧
(((↑n : Int) == (0 : Int)) = false → ((((((↑n : Int) ≠ (0 : Int))) ∧ ((IntKind.i64 = IntKind.i64))) ∧ (((.int .i64 ((↑i : Int))) : Value) = (.int .i64 ((IntKind.i64.wrap w).tmod (↑n : Int))))) ∧
((((((0 : Int) ≤ (↑i : Int))) ∧ (((↑i : Int) ≤ (↑c : Int)))) ∧ (((.slice (.some ⟨0, 0, .none⟩) (i) (c)) : Value) = (.slice (.some ⟨0, 0, .none⟩) (i) (c)))) ∧
((((((0 : Int) ≤ IntKind.i64.wrap ((↑i : Int) + (1 : Int)))) ∧ (((IntKind.i64.wrap ((↑i : Int) + (1 : Int)) ≤ (↑n : Int))) ∧ (((↑n : Int) ≤ (↑c : Int))))) ∧ (((.slice (.some ⟨((0 : Nat)), ((i + (1 : Nat)) * (4 : Nat)), .none⟩) (m) (c - (i + (1 : Nat)))) : Value) = (.slice (.some ⟨((0 : Nat)), ((0 : Nat) + (IntKind.i64.wrap ((↑i : Int) + (1 : Int))).toNat * (4 : Nat)), .none⟩) (n - (IntKind.i64.wrap ((↑i : Int) + (1 : Int))).toNat) (c - (IntKind.i64.wrap ((↑i : Int) + (1 : Int))).toNat)))) ∧
(((((((0 : Nat) < i)) ∧ (((0 : Nat) + i * (4 : Nat) ≤ (mvs n f).length))) ∧ (((List.take (i * (4 : Nat)) (List.drop (0 : Nat) (mvs n f))).all one = true))) ∧ (((¬(0 : Nat) + i ≤ (0 : Nat))) ∧ ((((0 : Nat) = (0 : Nat))) ∧ (((((0 : Nat) + i) * (32 : Nat) ≤ (140737488355328 : Nat))) ∧ (((0 : Nat) + i ≤ (4611686018427387904 : Nat))))))) ∧ 
(((((((0 : Int) ≤ IntKind.i64.wrap ((↑i : Int) + (1 : Int)))) ∧ (((IntKind.i64.wrap ((↑i : Int) + (1 : Int)) ≤ (↑n : Int))) ∧ (((↑n : Int) ≤ (↑c : Int))))) ∧ (((.slice (.some ⟨((0 : Nat)), ((i + (1 : Nat)) * (4 : Nat)), .none⟩) (m) (c - (i + (1 : Nat)))) : Value) = (.slice (.some ⟨((0 : Nat)), ((0 : Nat) + (IntKind.i64.wrap ((↑i : Int) + (1 : Int))).toNat * (4 : Nat)), .none⟩) (n - (IntKind.i64.wrap ((↑i : Int) + (1 : Int))).toNat) (c - (IntKind.i64.wrap ((↑i : Int) + (1 : Int))).toNat)))) ∧ ((((some (.slice (.some ⟨0, 0, .none⟩) (n) (c)) : Option Value) = some (.slice (.some ⟨0, 0, .none⟩) (n) (c)))) ∧ (True))) ∧ 
(((((((0 : Nat) < m)) ∧ (((i + (1 : Nat)) * (4 : Nat) + m * (4 : Nat) ≤ (mvs n f).length))) ∧ (((List.take (m * (4 : Nat)) (List.drop ((i + (1 : Nat)) * (4 : Nat)) (mvs n f))).all one = true))) ∧ (((¬(0 : Nat) + i + m ≤ (0 : Nat) + i)) ∧ (((((0 : Nat) + i) * (4 : Nat) = (List.take (0 : Nat) (zCells [Value.int .i64 (0 : Int), Value.int .i64 (0 : Int), Value.int .i64 (0 : Int), Value.int .i64 (0 : Int)] (0 : Nat)) ++ List.take (i * (4 : Nat)) (List.drop (0 : Nat) (mvs n f))).length)) ∧ (((((0 : Nat) + i + m) * (32 : Nat) ≤ (140737488355328 : Nat))) ∧ (((0 : Nat) + i + m ≤ (4611686018427387904 : Nat))))))) ∧ 
((ConNOK Try.prog ((24 : Nat)) (C24c true p n c (mvs n f) many pl)) ∧ (ConN.pre (C24c true p n c (mvs n f) many pl) ⟨⟨[(.int .i64 (p)), (.bool true)], [⟨(n), (c)⟩]⟩, [(mvs n f)]⟩) ∧ 
((ConNOK Try.prog ((24 : Nat)) (C24c true p n2 n2 ms2 many2 pl2)) ∧ (ConN.pre (C24c true p n2 n2 ms2 many2 pl2) ⟨⟨[(.int .i64 (p)), (.bool true)], [⟨((0 : Nat) + i + m), ((0 : Nat) + i + m)⟩]⟩, [((List.take (((0 : Nat) + i) * (4 : Nat)) ([] ++ (List.take (i * (4 : Nat)) (List.drop ((0 : Nat)) (mvs n f))))) ++ (List.take (m * (4 : Nat)) (List.drop ((i + (1 : Nat)) * (4 : Nat)) (mvs n f))))]⟩) ∧ 
((ConOK Try.prog ((29 : Nat)) (C29 found)) ∧ (Con.pre (C29 found) ⟨⟨[(.int .i64 ((↑found : Int)))], []⟩, []⟩) ∧ 
((((↑many : Int) == (↑(popN found) : Int)) = true → (((decide ((↑many2 : Int) ≤ (↑many : Int))) = true → (((decide ((↑many2 : Int) ≥ IntKind.i64.wrap ((↑many : Int) - (1 : Int)))) = true → ((((((0 : Int) ≤ (↑i : Int))) ∧ (((↑i : Int) ≤ (↑(64 : Nat) : Int)))) ∧ (((.int .i64 ((↑found : Int) / (2 : Int) ^ i)) : Value) = (.int .i64 ((↑found : Int) / (2 : Int) ^ i)))) ∧
(((bits BinOp.and IntKind.i64 ((↑found : Int) / (2 : Int) ^ i) (1 : Int) == (1 : Int)) = true → ((ConOK Try.prog ((12 : Nat)) (C12)) ∧ (Con.pre (C12) ⟨⟨[], []⟩, []⟩) ∧ 
R (.ret (.bool true)))) ∧
((bits BinOp.and IntKind.i64 ((↑found : Int) / (2 : Int) ^ i) (1 : Int) == (1 : Int)) = false → ((((↑many2 : Int) == (↑many : Int)) = true → ((ConOK Try.prog ((12 : Nat)) (C12)) ∧ (Con.pre (C12) ⟨⟨[], []⟩, []⟩) ∧ 
R (.ret (.bool true)))) ∧
(((↑many2 : Int) == (↑many : Int)) = false → R (.ret (.bool false)))))))) ∧
((decide ((↑many2 : Int) ≥ IntKind.i64.wrap ((↑many : Int) - (1 : Int)))) = false → R (.ret (.bool false))))) ∧
((decide ((↑many2 : Int) ≤ (↑many : Int))) = false → R (.ret (.bool false))))) ∧
(((↑many : Int) == (↑(popN found) : Int)) = false → R (.ret (.bool false)))))))))))))))))))))))) := by kernel_rfl

theorem f7Af (p b w : Int) (n c i m found own many n2 many2 : Nat) (ap : Bool) (f : Nat → Mv) (pl ms2 pl2 : List Value) (R : ARes → Prop) : (vx.call 7 [hV p n c, .bool false, .int .u8 b, .int .u8 w] (retK R) (m1 (mvs n f)) ([(17, .split ((7, Hint.con C12) :: []) ((4, Hint.con ((C21 p n c f).when (ARes.ret (Value.bool true)))) :: (6, Hint.con (C25 false p n c f found)) :: (16, .val (.int .i64 (IntKind.i64.wrap ((1 : Int) * (2 : Int) ^ n)))) :: (8, Hint.loopW T7o (AExit.exit (0 : Nat)) T7o fun x => st7o false w p n c f found (1 : Int) own ap n) :: [(4, .split ((3, Hint.con (C29 own)) :: (2, Hint.con (C29 found)) :: [(0, .split ([]) ((3, Hint.con (C29 own)) :: (2, Hint.con (C29 found)) :: [(0, .split ([(3, .split ([]) ([(8, .split ([(2, .split ((1, Hint.con C12) :: []) ([]))]) ((6, .val (.int .i64 ((↑i : Int)))) :: (7, .val (.slice (.some ⟨0, 0, .none⟩) (i) (c))) :: (4, .val (.slice (.some ⟨((0 : Nat)), ((i + (1 : Nat)) * (4 : Nat)), .none⟩) (m) (c - (i + (1 : Nat))))) :: (0, Hint.growN) :: (0, Hint.again) :: (0, Hint.growN) :: (4, Hint.conN (C24c false p n c (mvs n f) many pl)) :: (9, Hint.conN (C24c false p n2 n2 ms2 many2 pl2)) :: (17, Hint.con (C29 found)) :: [(0, .split ([(4, .split ([(5, .split ((4, .val (.int .i64 ((↑found : Int) / (2 : Int) ^ i))) :: [(1, .split ((4, Hint.con C12) :: []) ([(3, .split ((3, Hint.con C12) :: []) ([]))]))]) ([]))]) ([]))]) ([]))]))]))]) ([(9, .split ([(2, .split ((1, Hint.con C12) :: []) ([]))]) ((6, .val (.int .i64 ((↑i : Int)))) :: (7, .val (.slice (.some ⟨0, 0, .none⟩) (i) (c))) :: (4, .val (.slice (.some ⟨((0 : Nat)), ((i + (1 : Nat)) * (4 : Nat)), .none⟩) (m) (c - (i + (1 : Nat))))) :: (0, Hint.growN) :: (0, Hint.again) :: (0, Hint.growN) :: (4, Hint.conN (C24c false p n c (mvs n f) many pl)) :: (9, Hint.conN (C24c false p n2 n2 ms2 many2 pl2)) :: (17, Hint.con (C29 found)) :: [(0, .split ([(4, .split ([(5, .split ((4, .val (.int .i64 ((↑found : Int) / (2 : Int) ^ i))) :: [(1, .split ((4, Hint.con C12) :: []) ([(3, .split ((3, Hint.con C12) :: []) ([]))]))]) ([]))]) ([]))]) ([]))]))]))]))]) ([(7, .split ([(2, .split ((1, Hint.con C12) :: []) ([]))]) ((6, .val (.int .i64 ((↑i : Int)))) :: (7, .val (.slice (.some ⟨0, 0, .none⟩) (i) (c))) :: (4, .val (.slice (.some ⟨((0 : Nat)), ((i + (1 : Nat)) * (4 : Nat)), .none⟩) (m) (c - (i + (1 : Nat))))) :: (0, Hint.growN) :: (0, Hint.again) :: (0, Hint.growN) :: (4, Hint.conN (C24c false p n c (mvs n f) many pl)) :: (9, Hint.conN (C24c false p n2 n2 ms2 many2 pl2)) :: (17, Hint.con (C29 found)) :: [(0, .split ([(4, .split ([(5, .split ((4, .val (.int .i64 ((↑found : Int) / (2 : Int) ^ i))) :: [(1, .split ((4, Hint.con C12) :: []) ([(3, .split ((3, Hint.con C12) :: []) ([]))]))]) ([]))]) ([]))]) ([]))]))]))]))])) =
((((decide ((if (↑(0 : Nat) : Int) > (↑n : Int) then (↑(0 : Nat) : Int) else (↑n : Int)) > (40 : Int))) = true → ((ConOK Try.prog ((12 : Nat)) (C12)) ∧ (Con.pre (C12) ⟨⟨[], []⟩, []⟩) ∧ 
R (.ret (.bool true)))) ∧
((decide ((if (↑(0 : Nat) : Int) > (↑n : Int) then (↑(0 : Nat) : Int) else (↑n : Int)) > (40 : Int))) = false → ((ConOK Try.prog ((21 : Nat)) ((C21 p n c f).when (ARes.ret (Value.bool true)))) ∧ (Con.pre ((C21 p n c f).when (ARes.ret (Value.bool true))) ⟨⟨[(.int .i64 (p))], [⟨(n), (c)⟩]⟩, [(mvs n f)]⟩) ∧ 
((ConOK Try.prog ((25 : Nat)) (C25 false p n c f found)) ∧ (Con.pre (C25 false p n c f found) ⟨⟨[(.int .i64 (p)), (.bool false)], [⟨(n), (c)⟩]⟩, [(mvs n f)]⟩) ∧ 
((((((0 : Int) ≤ (↑n : Int))) ∧ (((↑n : Int) ≤ (↑(64 : Nat) : Int)))) ∧ (((.int .i64 (IntKind.i64.wrap ((1 : Int) * (2 : Int) ^ n))) : Value) = (.int .i64 (IntKind.i64.wrap ((1 : Int) * (2 : Int) ^ n))))) ∧
((ClW ⟨⟨[(.bool false), (.int .u8 (w)), (.int .i64 ((↑found : Int))), (.int .i64 ((1 : Int))), (.int .i64 (bits BinOp.and IntKind.i64 (IntKind.i64.wrap b) (IntKind.i64.wrap (IntKind.i64.wrap ((1 : Int) * (2 : Int) ^ n) - (1 : Int))))), (.bool true), (.int .i64 ((↑n : Int))), (.int .i64 ((0 : Int))), (.int .i64 (p))], [⟨(n), (c)⟩]⟩, [(mvs n f)], []⟩) ∧ (LoopOW Try.prog .none p7o (T7o) ⟨⟨[(.bool false), (.int .u8 (w)), (.int .i64 ((↑found : Int))), (.int .i64 ((1 : Int))), (.int .i64 (bits BinOp.and IntKind.i64 (IntKind.i64.wrap b) (IntKind.i64.wrap (IntKind.i64.wrap ((1 : Int) * (2 : Int) ^ n) - (1 : Int))))), (.bool true), (.int .i64 ((↑n : Int))), (.int .i64 ((0 : Int))), (.int .i64 (p))], [⟨(n), (c)⟩]⟩, [(mvs n f)], []⟩ (.exit ((0 : Nat))) (T7o) ⟨⟨[(.bool false), (.int .u8 (w)), (.int .i64 ((↑found : Int))), (.int .i64 ((1 : Int))), (.int .i64 ((↑own : Int))), (.bool (ap)), (.int .i64 ((↑n : Int))), (.int .i64 ((↑n : Int))), (.int .i64 (p))], [⟨(n), (c)⟩]⟩, [(mvs n f)], []⟩) ∧ 
(((ap) = true → ((ConOK Try.prog ((29 : Nat)) (C29 own)) ∧ (Con.pre (C29 own) ⟨⟨[(.int .i64 ((↑own : Int)))], []⟩, []⟩) ∧ 
((ConOK Try.prog ((29 : Nat)) (C29 found)) ∧ (Con.pre (C29 found) ⟨⟨[(.int .i64 ((↑found : Int)))], []⟩, []⟩) ∧ 
(((decide ((↑(popN own) : Int) > (↑(popN found) : Int))) = true → R (.ret (.bool false))) ∧
((decide ((↑(popN own) : Int) > (↑(popN found) : Int))) = false → ((ConOK Try.prog ((29 : Nat)) (C29 own)) ∧ (Con.pre (C29 own) ⟨⟨[(.int .i64 ((↑own : Int)))], []⟩, []⟩) ∧ 
((ConOK Try.prog ((29 : Nat)) (C29 found)) ∧ (Con.pre (C29 found) ⟨⟨[(.int .i64 ((↑found : Int)))], []⟩, []⟩) ∧ 
((((↑(popN own) : Int) == (↑(popN found) : Int)) = true → (((decide ((↑own : Int) < (↑found : Int))) = true → R (.ret (.bool false))) ∧
((decide ((↑own : Int) < (↑found : Int))) = false → ((((↑n : Int) == (0 : Int)) = true → ((((↑found : Int) == (0 : Int)) = true → ((ConOK Try.prog ((12 : Nat)) (C12)) ∧ (Con.pre (C12) ⟨⟨[], []⟩, []⟩) ∧ 
R (.ret (.bool true)))) ∧
(((↑found : Int) == (0 : Int)) = false → R (.ret (.bool false))))) ∧
(((↑n : Int) == (0 : Int)) = false → ((((((↑n : Int) ≠ (0 : Int))) ∧ ((IntKind.i64 = IntKind.i64))) ∧ (((.int .i64 ((↑i : Int))) : Value) = (.int .i64 ((IntKind.i64.wrap w).tmod (↑n : Int))))) ∧
((((((0 : Int) ≤ (↑i : Int))) ∧ (((↑i : Int) ≤ (↑c : Int)))) ∧ (((.slice (.some ⟨0, 0, .none⟩) (i) (c)) : Value) = (.slice (.some ⟨0, 0, .none⟩) (i) (c)))) ∧
((((((0 : Int) ≤ IntKind.i64.wrap ((↑i : Int) + (1 : Int)))) ∧ (((IntKind.i64.wrap ((↑i : Int) + (1 : Int)) ≤ (↑n : Int))) ∧ (((↑n : Int) ≤ (↑c : Int))))) ∧ (((.slice (.some ⟨((0 : Nat)), ((i + (1 : Nat)) * (4 : Nat)), .none⟩) (m) (c - (i + (1 : Nat)))) : Value) = (.slice (.some ⟨((0 : Nat)), ((0 : Nat) + (IntKind.i64.wrap ((↑i : Int) + (1 : Int))).toNat * (4 : Nat)), .none⟩) (n - (IntKind.i64.wrap ((↑i : Int) + (1 : Int))).toNat) (c - (IntKind.i64.wrap ((↑i : Int) + (1 : Int))).toNat)))) ∧
(((((((0 : Nat) < i)) ∧ (((0 : Nat) + i * (4 : Nat) ≤ (mvs n f).length))) ∧ (((List.take (i * (4 : Nat)) (List.drop (0 : Nat) (mvs n f))).all one = true))) ∧ (((¬(0 : Nat) + i ≤ (0 : Nat))) ∧ ((((0 : Nat) = (0 : Nat))) ∧ (((((0 : Nat) + i) * (32 : Nat) ≤ (140737488355328 : Nat))) ∧ (((0 : Nat) + i ≤ (4611686018427387904 : Nat))))))) ∧ 
(((((((0 : Int) ≤ IntKind.i64.wrap ((↑i : Int) + (1 : Int)))) ∧ (((IntKind.i64.wrap ((↑i : Int) + (1 : Int)) ≤ (↑n : Int))) ∧ (((↑n : Int) ≤ (↑c : Int))))) ∧ (((.slice (.some ⟨((0 : Nat)), ((i + (1 : Nat)) * (4 : Nat)), .none⟩) (m) (c - (i + (1 : Nat)))) : Value) = (.slice (.some ⟨((0 : Nat)), ((0 : Nat) + (IntKind.i64.wrap ((↑i : Int) + (1 : Int))).toNat * (4 : Nat)), .none⟩) (n - (IntKind.i64.wrap ((↑i : Int) + (1 : Int))).toNat) (c - (IntKind.i64.wrap ((↑i : Int) + (1 : Int))).toNat)))) ∧ ((((some (.slice (.some ⟨0, 0, .none⟩) (n) (c)) : Option Value) = some (.slice (.some ⟨0, 0, .none⟩) (n) (c)))) ∧ (True))) ∧ 
(((((((0 : Nat) < m)) ∧ (((i + (1 : Nat)) * (4 : Nat) + m * (4 : Nat) ≤ (mvs n f).length))) ∧ (((List.take (m * (4 : Nat)) (List.drop ((i + (1 : Nat)) * (4 : Nat)) (mvs n f))).all one = true))) ∧ (((¬(0 : Nat) + i + m ≤ (0 : Nat) + i)) ∧ (((((0 : Nat) + i) * (4 : Nat) = (List.take (0 : Nat) (zCells [Value.int .i64 (0 : Int), Value.int .i64 (0 : Int), Value.int .i64 (0 : Int), Value.int .i64 (0 : Int)] (0 : Nat)) ++ List.take (i * (4 : Nat)) (List.drop (0 : Nat) (mvs n f))).length)) ∧ (((((0 : Nat) + i + m) * (32 : Nat) ≤ (140737488355328 : Nat))) ∧ (((0 : Nat) + i + m ≤ (4611686018427387904 : Nat))))))) ∧ 
((ConNOK Try.prog ((24 : Nat)) (C24c false p n c (mvs n f) many pl)) ∧ (ConN.pre (C24c false p n c (mvs n f) many pl) ⟨⟨[(.int .i64 (p)), (.bool false)], [⟨(n), (c)⟩]⟩, [(mvs n f)]⟩) ∧ 
((ConNOK Try.prog ((24 : Nat)) (C24c false p n2 n2 ms2 many2 pl2)) ∧ (ConN.pre (C24c false p n2 n2 ms2 many2 pl2) ⟨⟨[(.int .i64 (p)), (.bool false)], [⟨((0 : Nat) + i + m), ((0 : Nat) + i + m)⟩]⟩, [((List.take (((0 : Nat) + i) * (4 : Nat)) ([] ++ (List.take (i * (4 : Nat)) (List.drop ((0 : Nat)) (mvs n f))))) ++ (List.take (m * (4 : Nat)) (List.drop ((i + (1 : Nat)) * (4 : Nat)) (mvs n f))))]⟩) ∧ 
((ConOK Try.prog ((29 : Nat)) (C29 found)) ∧ (Con.pre (C29 found) ⟨⟨[(.int .i64 ((↑found : Int)))], []⟩, []⟩) ∧ 
((((↑many : Int) == (↑(popN found) : Int)) = true → (((decide ((↑many2 : Int) ≤ (↑many : Int))) = true → (((decide ((↑many2 : Int) ≥ IntKind.i64.wrap ((↑many : Int) - (1 : Int)))) = true → ((((((0 : Int) ≤ (↑i : Int))) ∧ (((↑i : Int) ≤ (↑(64 : Nat) : Int)))) ∧ (((.int .i64 ((↑found : Int) / (2 : Int) ^ i)) : Value) = (.int .i64 ((↑found : Int) / (2 : Int) ^ i)))) ∧
(((bits BinOp.and IntKind.i64 ((↑found : Int) / (2 : Int) ^ i) (1 : Int) == (1 : Int)) = true → ((ConOK Try.prog ((12 : Nat)) (C12)) ∧ (Con.pre (C12) ⟨⟨[], []⟩, []⟩) ∧ 
R (.ret (.bool true)))) ∧
((bits BinOp.and IntKind.i64 ((↑found : Int) / (2 : Int) ^ i) (1 : Int) == (1 : Int)) = false → ((((↑many2 : Int) == (↑many : Int)) = true → ((ConOK Try.prog ((12 : Nat)) (C12)) ∧ (Con.pre (C12) ⟨⟨[], []⟩, []⟩) ∧ 
R (.ret (.bool true)))) ∧
(((↑many2 : Int) == (↑many : Int)) = false → R (.ret (.bool false)))))))) ∧
((decide ((↑many2 : Int) ≥ IntKind.i64.wrap ((↑many : Int) - (1 : Int)))) = false → R (.ret (.bool false))))) ∧
((decide ((↑many2 : Int) ≤ (↑many : Int))) = false → R (.ret (.bool false))))) ∧
(((↑many : Int) == (↑(popN found) : Int)) = false → R (.ret (.bool false)))))))))))))))))) ∧
(((↑(popN own) : Int) == (↑(popN found) : Int)) = false → ((((↑n : Int) == (0 : Int)) = true → ((((↑found : Int) == (0 : Int)) = true → ((ConOK Try.prog ((12 : Nat)) (C12)) ∧ (Con.pre (C12) ⟨⟨[], []⟩, []⟩) ∧ 
R (.ret (.bool true)))) ∧
(((↑found : Int) == (0 : Int)) = false → R (.ret (.bool false))))) ∧
(((↑n : Int) == (0 : Int)) = false → ((((((↑n : Int) ≠ (0 : Int))) ∧ ((IntKind.i64 = IntKind.i64))) ∧ (((.int .i64 ((↑i : Int))) : Value) = (.int .i64 ((IntKind.i64.wrap w).tmod (↑n : Int))))) ∧
((((((0 : Int) ≤ (↑i : Int))) ∧ (((↑i : Int) ≤ (↑c : Int)))) ∧ (((.slice (.some ⟨0, 0, .none⟩) (i) (c)) : Value) = (.slice (.some ⟨0, 0, .none⟩) (i) (c)))) ∧
((((((0 : Int) ≤ IntKind.i64.wrap ((↑i : Int) + (1 : Int)))) ∧ (((IntKind.i64.wrap ((↑i : Int) + (1 : Int)) ≤ (↑n : Int))) ∧ (((↑n : Int) ≤ (↑c : Int))))) ∧ (((.slice (.some ⟨((0 : Nat)), ((i + (1 : Nat)) * (4 : Nat)), .none⟩) (m) (c - (i + (1 : Nat)))) : Value) = (.slice (.some ⟨((0 : Nat)), ((0 : Nat) + (IntKind.i64.wrap ((↑i : Int) + (1 : Int))).toNat * (4 : Nat)), .none⟩) (n - (IntKind.i64.wrap ((↑i : Int) + (1 : Int))).toNat) (c - (IntKind.i64.wrap ((↑i : Int) + (1 : Int))).toNat)))) ∧
(((((((0 : Nat) < i)) ∧ (((0 : Nat) + i * (4 : Nat) ≤ (mvs n f).length))) ∧ (((List.take (i * (4 : Nat)) (List.drop (0 : Nat) (mvs n f))).all one = true))) ∧ (((¬(0 : Nat) + i ≤ (0 : Nat))) ∧ ((((0 : Nat) = (0 : Nat))) ∧ (((((0 : Nat) + i) * (32 : Nat) ≤ (140737488355328 : Nat))) ∧ (((0 : Nat) + i ≤ (4611686018427387904 : Nat))))))) ∧ 
(((((((0 : Int) ≤ IntKind.i64.wrap ((↑i : Int) + (1 : Int)))) ∧ (((IntKind.i64.wrap ((↑i : Int) + (1 : Int)) ≤ (↑n : Int))) ∧ (((↑n : Int) ≤ (↑c : Int))))) ∧ (((.slice (.some ⟨((0 : Nat)), ((i + (1 : Nat)) * (4 : Nat)), .none⟩) (m) (c - (i + (1 : Nat)))) : Value) = (.slice (.some ⟨((0 : Nat)), ((0 : Nat) + (IntKind.i64.wrap ((↑i : Int) + (1 : Int))).toNat * (4 : Nat)), .none⟩) (n - (IntKind.i64.wrap ((↑i : Int) + (1 : Int))).toNat) (c - (IntKind.i64.wrap ((↑i : Int) + (1 : Int))).toNat)))) ∧ ((((some (.slice (.some ⟨0, 0, .none⟩) (n) (c)) : Option Value) = some (.slice (.some ⟨0, 0, .none⟩) (n) (c)))) ∧ (True))) ∧ 
(((((((0 : Nat) < m)) ∧ (((i + (1 : Nat)) * (4 : Nat) + m * (4 : Nat) ≤ (mvs n f).length))) ∧ (((List.take (m * (4 : Nat)) (List.drop ((i + (1 : Nat)) * (4 : Nat)) (mvs n f))).all one = true))) ∧ (((¬(0 : Nat) + i + m ≤ (0 : Nat) + i)) ∧ (((((0 : Nat) + i) * (4 : Nat) = (List.take (0 : Nat) (zCells [Value.int .i64 (0 : Int), Value.int .i64 (0 : Int), Value.int .i64 (0 : Int), Value.int .i64 (0 : Int)] (0 : Nat)) ++ List.take (i * (4 : Nat)) (List.drop (0 : Nat) (mvs n f))).length)) ∧ (((((0 : Nat) + i + m) * (32 : Nat) ≤ (140737488355328 : Nat))) ∧ (((0 : Nat) + i + m ≤ (4611686018427387904 : Nat))))))) ∧ 
((ConNOK Try.prog ((24 : Nat)) (C24c false p n c (mvs n f) many pl)) ∧ (ConN.pre (C24c false p n c (mvs n f) many pl) ⟨⟨[(.int .i64 (p)), (.bool false)], [⟨(n), (c)⟩]⟩, [(mvs n f)]⟩) ∧ 
((ConNOK Try.prog ((24 : Nat)) (C24c false p n2 n2 ms2 many2 pl2)) ∧ (ConN.pre (C24c false p n2 n2 ms2 many2 pl2) ⟨⟨[(.int .i64 (p)), (.bool false)], [⟨((0 : Nat) + i + m), ((0 : Nat) + i + m)⟩]⟩, [((List.take (((0 : Nat) + i) * (4 : Nat)) ([] ++ (List.take (i * (4 : Nat)) (List.drop ((0 : Nat)) (mvs n f))))) ++ (List.take (m * (4 : Nat)) (List.drop ((i + (1 : Nat)) * (4 : Nat)) (mvs n f))))]⟩) ∧ 
((ConOK Try.prog ((29 : Nat)) (C29 found)) ∧ (Con.pre (C29 found) ⟨⟨[(.int .i64 ((↑found : Int)))], []⟩, []⟩) ∧ 
((((↑many : Int) == (↑(popN found) : Int)) = true → (((decide ((↑many2 : Int) ≤ (↑many : Int))) = true → (((decide ((↑many2 : Int) ≥ IntKind.i64.wrap ((↑many : Int) - (1 : Int)))) = true → ((((((0 : Int) ≤ (↑i : Int))) ∧ (((↑i : Int) ≤ (↑(64 : Nat) : Int)))) ∧ (((.int .i64 ((↑found : Int) / (2 : Int) ^ i)) : Value) = (.int .i64 ((↑found : Int) / (2 : Int) ^ i)))) ∧
(((bits BinOp.and IntKind.i64 ((↑found : Int) / (2 : Int) ^ i) (1 : Int) == (1 : Int)) = true → ((ConOK Try.prog ((12 : Nat)) (C12)) ∧ (Con.pre (C12) ⟨⟨[], []⟩, []⟩) ∧ 
R (.ret (.bool true)))) ∧
((bits BinOp.and IntKind.i64 ((↑found : Int) / (2 : Int) ^ i) (1 : Int) == (1 : Int)) = false → ((((↑many2 : Int) == (↑many : Int)) = true → ((ConOK Try.prog ((12 : Nat)) (C12)) ∧ (Con.pre (C12) ⟨⟨[], []⟩, []⟩) ∧ 
R (.ret (.bool true)))) ∧
(((↑many2 : Int) == (↑many : Int)) = false → R (.ret (.bool false)))))))) ∧
((decide ((↑many2 : Int) ≥ IntKind.i64.wrap ((↑many : Int) - (1 : Int)))) = false → R (.ret (.bool false))))) ∧
((decide ((↑many2 : Int) ≤ (↑many : Int))) = false → R (.ret (.bool false))))) ∧
(((↑many : Int) == (↑(popN found) : Int)) = false → R (.ret (.bool false)))))))))))))))))))))))) ∧
((ap) = false → ((((↑n : Int) == (0 : Int)) = true → ((((↑found : Int) == (0 : Int)) = true → ((ConOK Try.prog ((12 : Nat)) (C12)) ∧ (Con.pre (C12) ⟨⟨[], []⟩, []⟩) ∧ 
R (.ret (.bool true)))) ∧
(((↑found : Int) == (0 : Int)) = false → R (.ret (.bool false))))) ∧
(((↑n : Int) == (0 : Int)) = false → ((((((↑n : Int) ≠ (0 : Int))) ∧ ((IntKind.i64 = IntKind.i64))) ∧ (((.int .i64 ((↑i : Int))) : Value) = (.int .i64 ((IntKind.i64.wrap w).tmod (↑n : Int))))) ∧
((((((0 : Int) ≤ (↑i : Int))) ∧ (((↑i : Int) ≤ (↑c : Int)))) ∧ (((.slice (.some ⟨0, 0, .none⟩) (i) (c)) : Value) = (.slice (.some ⟨0, 0, .none⟩) (i) (c)))) ∧
((((((0 : Int) ≤ IntKind.i64.wrap ((↑i : Int) + (1 : Int)))) ∧ (((IntKind.i64.wrap ((↑i : Int) + (1 : Int)) ≤ (↑n : Int))) ∧ (((↑n : Int) ≤ (↑c : Int))))) ∧ (((.slice (.some ⟨((0 : Nat)), ((i + (1 : Nat)) * (4 : Nat)), .none⟩) (m) (c - (i + (1 : Nat)))) : Value) = (.slice (.some ⟨((0 : Nat)), ((0 : Nat) + (IntKind.i64.wrap ((↑i : Int) + (1 : Int))).toNat * (4 : Nat)), .none⟩) (n - (IntKind.i64.wrap ((↑i : Int) + (1 : Int))).toNat) (c - (IntKind.i64.wrap ((↑i : Int) + (1 : Int))).toNat)))) ∧
(((((((0 : Nat) < i)) ∧ (((0 : Nat) + i * (4 : Nat) ≤ (mvs n f).length))) ∧ (((List.take (i * (4 : Nat)) (List.drop (0 : Nat) (mvs n f))).all one = true))) ∧ (((¬(0 : Nat) + i ≤ (0 : Nat))) ∧ ((((0 : Nat) = (0 : Nat))) ∧ (((((0 : Nat) + i) * (32 : Nat) ≤ (140737488355328 : Nat))) ∧ (((0 : Nat) + i ≤ (4611686018427387904 : Nat))))))) ∧ 
(((((((0 : Int) ≤ IntKind.i64.wrap ((↑i : Int) + (1 : Int)))) ∧ (((IntKind.i64.wrap ((↑i : Int) + (1 : Int)) ≤ (↑n : Int))) ∧ (((↑n : Int) ≤ (↑c : Int))))) ∧ (((.slice (.some ⟨((0 : Nat)), ((i + (1 : Nat)) * (4 : Nat)), .none⟩) (m) (c - (i + (1 : Nat)))) : Value) = (.slice (.some ⟨((0 : Nat)), ((0 : Nat) + (IntKind.i64.wrap ((↑i : Int) + (1 : Int))).toNat * (4 : Nat)), .none⟩) (n - (IntKind.i64.wrap ((↑i : Int) + (1 : Int))).toNat) (c - (IntKind.i64.wrap ((↑i : Int) + (1 : Int))).toNat)))) ∧ ((((some (.slice (.some ⟨0, 0, .none⟩) (n) (c)) : Option Value) = some (.slice (.some ⟨0, 0, .none⟩) (n) (c)))) ∧ (True))) ∧ 
(((((((0 : Nat) < m)) ∧ (((i + (1 : Nat)) * (4 : Nat) + m * (4 : Nat) ≤ (mvs n f).length))) ∧ (((List.take (m * (4 : Nat)) (List.drop ((i + (1 : Nat)) * (4 : Nat)) (mvs n f))).all one = true))) ∧ (((¬(0 : Nat) + i + m ≤ (0 : Nat) + i)) ∧ (((((0 : Nat) + i) * (4 : Nat) = (List.take (0 : Nat) (zCells [Value.int .i64 (0 : Int), Value.int .i64 (0 : Int), Value.int .i64 (0 : Int), Value.int .i64 (0 : Int)] (0 : Nat)) ++ List.take (i * (4 : Nat)) (List.drop (0 : Nat) (mvs n f))).length)) ∧ (((((0 : Nat) + i + m) * (32 : Nat) ≤ (140737488355328 : Nat))) ∧ (((0 : Nat) + i + m ≤ (4611686018427387904 : Nat))))))) ∧ 
((ConNOK Try.prog ((24 : Nat)) (C24c false p n c (mvs n f) many pl)) ∧ (ConN.pre (C24c false p n c (mvs n f) many pl) ⟨⟨[(.int .i64 (p)), (.bool false)], [⟨(n), (c)⟩]⟩, [(mvs n f)]⟩) ∧ 
((ConNOK Try.prog ((24 : Nat)) (C24c false p n2 n2 ms2 many2 pl2)) ∧ (ConN.pre (C24c false p n2 n2 ms2 many2 pl2) ⟨⟨[(.int .i64 (p)), (.bool false)], [⟨((0 : Nat) + i + m), ((0 : Nat) + i + m)⟩]⟩, [((List.take (((0 : Nat) + i) * (4 : Nat)) ([] ++ (List.take (i * (4 : Nat)) (List.drop ((0 : Nat)) (mvs n f))))) ++ (List.take (m * (4 : Nat)) (List.drop ((i + (1 : Nat)) * (4 : Nat)) (mvs n f))))]⟩) ∧ 
((ConOK Try.prog ((29 : Nat)) (C29 found)) ∧ (Con.pre (C29 found) ⟨⟨[(.int .i64 ((↑found : Int)))], []⟩, []⟩) ∧ 
((((↑many : Int) == (↑(popN found) : Int)) = true → (((decide ((↑many2 : Int) ≤ (↑many : Int))) = true → (((decide ((↑many2 : Int) ≥ IntKind.i64.wrap ((↑many : Int) - (1 : Int)))) = true → ((((((0 : Int) ≤ (↑i : Int))) ∧ (((↑i : Int) ≤ (↑(64 : Nat) : Int)))) ∧ (((.int .i64 ((↑found : Int) / (2 : Int) ^ i)) : Value) = (.int .i64 ((↑found : Int) / (2 : Int) ^ i)))) ∧
(((bits BinOp.and IntKind.i64 ((↑found : Int) / (2 : Int) ^ i) (1 : Int) == (1 : Int)) = true → ((ConOK Try.prog ((12 : Nat)) (C12)) ∧ (Con.pre (C12) ⟨⟨[], []⟩, []⟩) ∧ 
R (.ret (.bool true)))) ∧
((bits BinOp.and IntKind.i64 ((↑found : Int) / (2 : Int) ^ i) (1 : Int) == (1 : Int)) = false → ((((↑many2 : Int) == (↑many : Int)) = true → ((ConOK Try.prog ((12 : Nat)) (C12)) ∧ (Con.pre (C12) ⟨⟨[], []⟩, []⟩) ∧ 
R (.ret (.bool true)))) ∧
(((↑many2 : Int) == (↑many : Int)) = false → R (.ret (.bool false)))))))) ∧
((decide ((↑many2 : Int) ≥ IntKind.i64.wrap ((↑many : Int) - (1 : Int)))) = false → R (.ret (.bool false))))) ∧
((decide ((↑many2 : Int) ≤ (↑many : Int))) = false → R (.ret (.bool false))))) ∧
(((↑many : Int) == (↑(popN found) : Int)) = false → R (.ret (.bool false)))))))))))))))))))))))) := by kernel_rfl

theorem law7At (p b w : Int) (n c : Nat) (i m : Nat) (f : Nat → Mv) (hn : n = i + 1 + m) (hi0 : 0 < i) (hm0 : 0 < m) (hc : n ≤ c) (hb : 0 ≤ b ∧ b < 256) (hw : (i : Int) = (IntKind.i64.wrap w).tmod (n : Int)) (hok : okH p n f = true) :
    ∃ hs, vx.call 7 [hV p n c, .bool true, .int .u8 b, .int .u8 w] (retK fun r => r = .ret (.bool true)) (m1 (mvs n f)) hs := by
  have hH := okH_iff hok
  have hn7 := hH.n7
  have hwhen : ConOK Try.prog 21 ((C21 p n c f).when (.ret (.bool true))) := con_when (C21_ok p n c f (by omega)) _
  have hr : (C21 p n c f).res ⟨⟨[I p], [(n, c)]⟩, [mvs n f]⟩ = .ret (.bool true) := by show ARes.ret (.bool (okH p n f)) = _; rw [hok]
  have h25 : ConOK Try.prog 25 (C25 true p n c f (proofH true p n f)) := C25_ok true hok hn7
  have h29o := C29_ok (own_128 b hn7)
  have h29f := C29_ok (proof_128 (p := p) (f := f) (sure := true) hn7)
  have hown := own_eq hb hn7
  have hl := loop7o (c := c) hok true w (proofH true p n f) 2 (ownN b n)
  have hcl := cl7o (p := p) (n := n) (c := c) (f := f) true w (proofH true p n f) 2 (ownN b n) true 0
  have hbest := own_best hH true b
  have h24 := C24c_ok (c := c) true hok hn7 (by omega)
  have e1 := proof_few (sure := true) hH
  have q7 := few_7 (p := p) (f := f) true hn7
  have hH2 : HOK p (i + m) (dropF f i) := by
    have e : n = (i + m) + 1 := by omega
    rw [e] at hH
    exact hok_drop hH i
  have hcells : List.take ((0 + i) * 4) ([] ++ List.take (i * 4) (List.drop 0 (mvs n f))) ++ List.take (m * 4) (List.drop ((i + 1) * 4) (mvs n f)) = mvs (i + m) (dropF f i) := by
      rw [List.drop_zero, List.nil_append, mvs_take f (show i ≤ n by omega), Nat.zero_add, List.take_of_length_le (by rw [mvs_len]; omega)]
      exact mvs_skip f hn
  have h24' : ConNOK Try.prog 24 (C24c true p (0 + i + m) (0 + i + m) (List.take ((0 + i) * 4) ([] ++ List.take (i * 4) (List.drop 0 (mvs n f))) ++ List.take (m * 4) (List.drop ((i + 1) * 4) (mvs n f))) (fewH true p (i + m) (dropF f i)) (planC true p (i + m) (dropF f i))) := by
    rw [hcells]
    have e : (0 + i + m) = i + m := by omega
    rw [e]
    exact C24c_ok true (okH_of hH2) (by omega) (by omega)
  have e2 : fewH true p (i + m) (dropF f i) ≤ fewH true p n f := by
    have e : n = (i + m) + 1 := by omega
    rw [e] at hH ⊢
    exact drop_le hH (by omega)
  have e3 : fewH true p n f ≤ fewH true p (i + m) (dropF f i) + (if (proofH true p n f).testBit i = true then 1 else 0) := by
    have e : n = (i + m) + 1 := by omega
    rw [e] at hH ⊢
    exact drop_ge hH (by omega)
  have hbit : (bits BinOp.and IntKind.i64 (((proofH true p n f : Nat) : Int) / (2 : Int) ^ (i : Nat)) (1 : Int) == (1 : Int)) = (proofH true p n f).testBit i := hasI_mask _ _ (by have := proof_128 (p := p) (f := f) (sure := true) hn7; omega)
  have key : ∀ R : ARes → Prop, R (.ret (.bool true)) → ∃ hs, vx.call 7 [hV p n c, .bool true, .int .u8 b, .int .u8 w] (retK R) (m1 (mvs n f)) hs := by
    intro R hR
    have hwi : IntKind.i64.wrap ((i : Int) + 1) = ((i + 1 : Nat) : Int) := wrapI (by omega) (by omega)
    have hwa : IntKind.i64.wrap (((fewH true p n f : Nat) : Int) - 1) = ((fewH true p n f : Nat) : Int) - 1 := wrapI (by omega) (by omega)
    have hS2 : (Value.slice (some ⟨0, (i + 1) * 4, none⟩) m (c - (i + 1))) = .slice (some ⟨0, 0 + (i + 1) * 4, none⟩) (n - (i + 1)) (c - (i + 1)) := by
      rw [Nat.zero_add]; congr 1; omega
    have hG2 : (0 + i) * 4 = (List.take 0 (zCells [Value.int .i64 (0 : Int), Value.int .i64 (0 : Int), Value.int .i64 (0 : Int), Value.int .i64 (0 : Int)] 0) ++ List.take (i * 4) (List.drop 0 (mvs n f))).length := by
      rw [List.take_zero, List.nil_append, List.drop_zero, mvs_take f (show i ≤ n by omega), mvs_len]; omega
    have hnz : ((n : Int) ≠ 0) := by omega
    have hn0 : ¬ ((n : Int) == (0 : Int)) = true := by simp; omega
    generalize fewH true p n f = many at *
    generalize fewH true p (i + m) (dropF f i) = many2 at *
    generalize proofH true p n f = found at *
    generalize hap : apO p n f 2 (ownN b n) n = ap at *
    have hbest : ap = true → popN (ownN b n) ≤ popN found ∧ (popN (ownN b n) = popN found → found ≤ ownN b n) := fun h => hbest (hap.trans h)
    have x1 : (((many : Nat) : Int) == ((popN found : Nat) : Int)) = false → False := fun h => by
      have := beq_eq_false_iff_ne.1 h
      omega
    have x2 : decide (((many2 : Nat) : Int) ≤ ((many : Nat) : Int)) = false → False := fun h => by
      have := of_decide_eq_false h
      omega
    have x3 : decide (((many2 : Nat) : Int) ≥ ((many : Nat) : Int) - 1) = false → False := fun h => by
      have := of_decide_eq_false h
      have : many ≤ many2 + 1 := Nat.le_trans e3 (by split <;> omega)
      omega
    have x4 : found.testBit i = false → (((many2 : Nat) : Int) == ((many : Nat) : Int)) = false → False := fun h1 h2 => by
      have := beq_eq_false_iff_ne.1 h2
      rw [h1] at e3
      simp only [Bool.false_eq_true, if_false, Nat.add_zero] at e3
      omega
    refine ⟨_, (f7At p b w n c i m found (ownN b n) many (0 + i + m) many2 ap f (planC true p n f) (List.take ((0 + i) * 4) ([] ++ List.take (i * 4) (List.drop 0 (mvs n f))) ++ List.take (m * 4) (List.drop ((i + 1) * 4) (mvs n f))) (planC true p (i + m) (dropF f i)) R).mpr ?_⟩
    simp only [hown, hwi, Int.toNat_natCast, hwa, hbit]
    refine ⟨fun _ => ⟨C12_ok, rfl, hR⟩, fun _ => ⟨hwhen, ⟨rfl, hr⟩, h25, rfl, ⟨⟨by omega, by omega⟩, by first | exact rfl | exact trivial⟩, hcl, hl, fun ha => ⟨h29o, rfl, h29f, rfl, fun h => absurd (of_decide_eq_true h) (by have := (hbest ha).1; omega), fun _ => ⟨h29o, rfl, h29f, rfl, fun he => ⟨fun h => absurd (of_decide_eq_true h) (by have := (hbest ha).2 (by have := eq_of_beq he; omega); omega), fun _ => ?_⟩, fun _ => ?_⟩⟩, fun _ => ?_⟩⟩
    all_goals
      refine ⟨fun h => absurd h hn0, fun _ => ?_⟩
      repeat' (first | with_reducible apply And.intro | with_reducible intro)
      all_goals first
        | exact hnz
        | exact h24
        | exact h24'
        | exact h29f
        | exact C12_ok
        | exact hR
        | exact trivial
        | exact congrArg _ hw
        | exact hS2
        | exact ones_mvs n f _ _
        | omega
        | (rw [mvs_len]; omega)
        | rfl
        | exact hG2
        | (exfalso; rename_i h; exact x1 h)
        | (exfalso; rename_i h; exact x2 h)
        | (exfalso; rename_i h; exact x3 h)
        | (exfalso; rename_i h2 h; exact x4 h2 h)
  exact key _ rfl
theorem law7Af (p b w : Int) (n c : Nat) (i m : Nat) (f : Nat → Mv) (hn : n = i + 1 + m) (hi0 : 0 < i) (hm0 : 0 < m) (hc : n ≤ c) (hb : 0 ≤ b ∧ b < 256) (hw : (i : Int) = (IntKind.i64.wrap w).tmod (n : Int)) (hok : okH p n f = true) :
    ∃ hs, vx.call 7 [hV p n c, .bool false, .int .u8 b, .int .u8 w] (retK fun r => r = .ret (.bool true)) (m1 (mvs n f)) hs := by
  have hH := okH_iff hok
  have hn7 := hH.n7
  have hwhen : ConOK Try.prog 21 ((C21 p n c f).when (.ret (.bool true))) := con_when (C21_ok p n c f (by omega)) _
  have hr : (C21 p n c f).res ⟨⟨[I p], [(n, c)]⟩, [mvs n f]⟩ = .ret (.bool true) := by show ARes.ret (.bool (okH p n f)) = _; rw [hok]
  have h25 : ConOK Try.prog 25 (C25 false p n c f (proofH false p n f)) := C25_ok false hok hn7
  have h29o := C29_ok (own_128 b hn7)
  have h29f := C29_ok (proof_128 (p := p) (f := f) (sure := false) hn7)
  have hown := own_eq hb hn7
  have hl := loop7o (c := c) hok false w (proofH false p n f) 1 (ownN b n)
  have hcl := cl7o (p := p) (n := n) (c := c) (f := f) false w (proofH false p n f) 1 (ownN b n) true 0
  have hbest := own_best hH false b
  have h24 := C24c_ok (c := c) false hok hn7 (by omega)
  have e1 := proof_few (sure := false) hH
  have q7 := few_7 (p := p) (f := f) false hn7
  have hH2 : HOK p (i + m) (dropF f i) := by
    have e : n = (i + m) + 1 := by omega
    rw [e] at hH
    exact hok_drop hH i
  have hcells : List.take ((0 + i) * 4) ([] ++ List.take (i * 4) (List.drop 0 (mvs n f))) ++ List.take (m * 4) (List.drop ((i + 1) * 4) (mvs n f)) = mvs (i + m) (dropF f i) := by
      rw [List.drop_zero, List.nil_append, mvs_take f (show i ≤ n by omega), Nat.zero_add, List.take_of_length_le (by rw [mvs_len]; omega)]
      exact mvs_skip f hn
  have h24' : ConNOK Try.prog 24 (C24c false p (0 + i + m) (0 + i + m) (List.take ((0 + i) * 4) ([] ++ List.take (i * 4) (List.drop 0 (mvs n f))) ++ List.take (m * 4) (List.drop ((i + 1) * 4) (mvs n f))) (fewH false p (i + m) (dropF f i)) (planC false p (i + m) (dropF f i))) := by
    rw [hcells]
    have e : (0 + i + m) = i + m := by omega
    rw [e]
    exact C24c_ok false (okH_of hH2) (by omega) (by omega)
  have e2 : fewH false p (i + m) (dropF f i) ≤ fewH false p n f := by
    have e : n = (i + m) + 1 := by omega
    rw [e] at hH ⊢
    exact drop_le hH (by omega)
  have e3 : fewH false p n f ≤ fewH false p (i + m) (dropF f i) + (if (proofH false p n f).testBit i = true then 1 else 0) := by
    have e : n = (i + m) + 1 := by omega
    rw [e] at hH ⊢
    exact drop_ge hH (by omega)
  have hbit : (bits BinOp.and IntKind.i64 (((proofH false p n f : Nat) : Int) / (2 : Int) ^ (i : Nat)) (1 : Int) == (1 : Int)) = (proofH false p n f).testBit i := hasI_mask _ _ (by have := proof_128 (p := p) (f := f) (sure := false) hn7; omega)
  have key : ∀ R : ARes → Prop, R (.ret (.bool true)) → ∃ hs, vx.call 7 [hV p n c, .bool false, .int .u8 b, .int .u8 w] (retK R) (m1 (mvs n f)) hs := by
    intro R hR
    have hwi : IntKind.i64.wrap ((i : Int) + 1) = ((i + 1 : Nat) : Int) := wrapI (by omega) (by omega)
    have hwa : IntKind.i64.wrap (((fewH false p n f : Nat) : Int) - 1) = ((fewH false p n f : Nat) : Int) - 1 := wrapI (by omega) (by omega)
    have hS2 : (Value.slice (some ⟨0, (i + 1) * 4, none⟩) m (c - (i + 1))) = .slice (some ⟨0, 0 + (i + 1) * 4, none⟩) (n - (i + 1)) (c - (i + 1)) := by
      rw [Nat.zero_add]; congr 1; omega
    have hG2 : (0 + i) * 4 = (List.take 0 (zCells [Value.int .i64 (0 : Int), Value.int .i64 (0 : Int), Value.int .i64 (0 : Int), Value.int .i64 (0 : Int)] 0) ++ List.take (i * 4) (List.drop 0 (mvs n f))).length := by
      rw [List.take_zero, List.nil_append, List.drop_zero, mvs_take f (show i ≤ n by omega), mvs_len]; omega
    have hnz : ((n : Int) ≠ 0) := by omega
    have hn0 : ¬ ((n : Int) == (0 : Int)) = true := by simp; omega
    generalize fewH false p n f = many at *
    generalize fewH false p (i + m) (dropF f i) = many2 at *
    generalize proofH false p n f = found at *
    generalize hap : apO p n f 1 (ownN b n) n = ap at *
    have hbest : ap = true → popN (ownN b n) ≤ popN found ∧ (popN (ownN b n) = popN found → found ≤ ownN b n) := fun h => hbest (hap.trans h)
    have x1 : (((many : Nat) : Int) == ((popN found : Nat) : Int)) = false → False := fun h => by
      have := beq_eq_false_iff_ne.1 h
      omega
    have x2 : decide (((many2 : Nat) : Int) ≤ ((many : Nat) : Int)) = false → False := fun h => by
      have := of_decide_eq_false h
      omega
    have x3 : decide (((many2 : Nat) : Int) ≥ ((many : Nat) : Int) - 1) = false → False := fun h => by
      have := of_decide_eq_false h
      have : many ≤ many2 + 1 := Nat.le_trans e3 (by split <;> omega)
      omega
    have x4 : found.testBit i = false → (((many2 : Nat) : Int) == ((many : Nat) : Int)) = false → False := fun h1 h2 => by
      have := beq_eq_false_iff_ne.1 h2
      rw [h1] at e3
      simp only [Bool.false_eq_true, if_false, Nat.add_zero] at e3
      omega
    refine ⟨_, (f7Af p b w n c i m found (ownN b n) many (0 + i + m) many2 ap f (planC false p n f) (List.take ((0 + i) * 4) ([] ++ List.take (i * 4) (List.drop 0 (mvs n f))) ++ List.take (m * 4) (List.drop ((i + 1) * 4) (mvs n f))) (planC false p (i + m) (dropF f i)) R).mpr ?_⟩
    simp only [hown, hwi, Int.toNat_natCast, hwa, hbit]
    refine ⟨fun _ => ⟨C12_ok, rfl, hR⟩, fun _ => ⟨hwhen, ⟨rfl, hr⟩, h25, rfl, ⟨⟨by omega, by omega⟩, by first | exact rfl | exact trivial⟩, hcl, hl, fun ha => ⟨h29o, rfl, h29f, rfl, fun h => absurd (of_decide_eq_true h) (by have := (hbest ha).1; omega), fun _ => ⟨h29o, rfl, h29f, rfl, fun he => ⟨fun h => absurd (of_decide_eq_true h) (by have := (hbest ha).2 (by have := eq_of_beq he; omega); omega), fun _ => ?_⟩, fun _ => ?_⟩⟩, fun _ => ?_⟩⟩
    all_goals
      refine ⟨fun h => absurd h hn0, fun _ => ?_⟩
      repeat' (first | with_reducible apply And.intro | with_reducible intro)
      all_goals first
        | exact hnz
        | exact h24
        | exact h24'
        | exact h29f
        | exact C12_ok
        | exact hR
        | exact trivial
        | exact congrArg _ hw
        | exact hS2
        | exact ones_mvs n f _ _
        | omega
        | (rw [mvs_len]; omega)
        | rfl
        | exact hG2
        | (exfalso; rename_i h; exact x1 h)
        | (exfalso; rename_i h; exact x2 h)
        | (exfalso; rename_i h; exact x3 h)
        | (exfalso; rename_i h2 h; exact x4 h2 h)
  exact key _ rfl
end Go.Ab

/- the law HorseProof: without one move: the first move. -/
set_option maxRecDepth 100000
namespace Go.Ab
open Go Go.RowKit Go.Proofs
theorem f7Ct (p b w : Int) (n c m found own many n2 many2 : Nat) (ap : Bool) (f : Nat → Mv) (pl ms2 pl2 : List Value) (R : ARes → Prop) : (vx.call 7 [hV p n c, .bool true, .int .u8 b, .int .u8 w] (retK R) (m1 (mvs n f)) ([(17, .split ((7, Hint.con C12) :: []) ((4, Hint.con ((C21 p n c f).when (ARes.ret (Value.bool true)))) :: (6, Hint.con (C25 true p n c f found)) :: (17, .val (.int .i64 (IntKind.i64.wrap ((1 : Int) * (2 : Int) ^ n)))) :: (8, Hint.loopW T7o (AExit.exit (0 : Nat)) T7o fun x => st7o true w p n c f found (2 : Int) own ap n) :: [(4, .split ((3, Hint.con (C29 own)) :: (2, Hint.con (C29 found)) :: [(0, .split ([]) ((3, Hint.con (C29 own)) :: (2, Hint.con (C29 found)) :: [(0, .split ([(3, .split ([]) ([(8, .split ([(2, .split ((1, Hint.con C12) :: []) ([]))]) ((6, .val (.int .i64 ((0 : Int)))) :: (12, .val (.slice (.some ⟨((0 : Nat)), ((4 : Nat)), .none⟩) (m) (c - (1 : Nat)))) :: (1, Hint.again) :: (0, Hint.growN) :: (4, Hint.conN (C24c true p n c (mvs n f) many pl)) :: (9, Hint.conN (C24c true p n2 n2 ms2 many2 pl2)) :: (17, Hint.con (C29 found)) :: [(0, .split ([(4, .split ([(5, .split ([(6, .split ((4, Hint.con C12) :: []) ([(3, .split ((3, Hint.con C12) :: []) ([]))]))]) ([]))]) ([]))]) ([]))]))]))]) ([(9, .split ([(2, .split ((1, Hint.con C12) :: []) ([]))]) ((6, .val (.int .i64 ((0 : Int)))) :: (12, .val (.slice (.some ⟨((0 : Nat)), ((4 : Nat)), .none⟩) (m) (c - (1 : Nat)))) :: (1, Hint.again) :: (0, Hint.growN) :: (4, Hint.conN (C24c true p n c (mvs n f) many pl)) :: (9, Hint.conN (C24c true p n2 n2 ms2 many2 pl2)) :: (17, Hint.con (C29 found)) :: [(0, .split ([(4, .split ([(5, .split ([(6, .split ((4, Hint.con C12) :: []) ([(3, .split ((3, Hint.con C12) :: []) ([]))]))]) ([]))]) ([]))]) ([]))]))]))]))]) ([(7, .split ([(2, .split ((1, Hint.con C12) :: []) ([]))]) ((6, .val (.int .i64 ((0 : Int)))) :: (12, .val (.slice (.some ⟨((0 : Nat)), ((4 : Nat)), .none⟩) (m) (c - (1 : Nat)))) :: (1, Hint.again) :: (0, Hint.growN) :: (4, Hint.conN (C24c true p n c (mvs n f) many pl)) :: (9, Hint.conN (C24c true p n2 n2 ms2 many2 pl2)) :: (17, Hint.con (C29 found)) :: [(0, .split ([(4, .split ([(5, .split ([(6, .split ((4, Hint.con C12) :: []) ([(3, .split ((3, Hint.con C12) :: []) ([]))]))]) ([]))]) ([]))]) ([]))]))]))]))])) =
((((decide ((if (↑(0 : Nat) : Int) > (↑n : Int) then (↑(0 : Nat) : Int) else (↑n : Int)) > (40 : Int))) = true → ((ConOK Try.prog ((12 : Nat)) (C12)) ∧ (Con.pre (C12) ⟨⟨[], []⟩, []⟩) ∧ 
R (.ret (.bool true)))) ∧
((decide ((if (↑(0 : Nat) : Int) > (↑n : Int) then (↑(0 : Nat) : Int) else (↑n : Int)) > (40 : Int))) = false → ((ConOK Try.prog ((21 : Nat)) ((C21 p n c f).when (ARes.ret (Value.bool true)))) ∧ (Con.pre ((C21 p n c f).when (ARes.ret (Value.bool true))) ⟨⟨[(.int .i64 (p))], [⟨(n), (c)⟩]⟩, [(mvs n f)]⟩) ∧ 
((ConOK Try.prog ((25 : Nat)) (C25 true p n c f found)) ∧ (Con.pre (C25 true p n c f found) ⟨⟨[(.int .i64 (p)), (.bool true)], [⟨(n), (c)⟩]⟩, [(mvs n f)]⟩) ∧ 
((((((0 : Int) ≤ (↑n : Int))) ∧ (((↑n : Int) ≤ (↑(64 : Nat) : Int)))) ∧ (((.int .i64 (IntKind.i64.wrap ((1 : Int) * (2 : Int) ^ n))) : Value) = (.int .i64 (IntKind.i64.wrap ((1 : Int) * (2 : Int) ^ n))))) ∧
((ClW ⟨⟨[(.bool true), (.int .u8 (w)), (.int .i64 ((↑found : Int))), (.int .i64 ((2 : Int))), (.int .i64 (bits BinOp.and IntKind.i64 (IntKind.i64.wrap b) (IntKind.i64.wrap (IntKind.i64.wrap ((1 : Int) * (2 : Int) ^ n) - (1 : Int))))), (.bool true), (.int .i64 ((↑n : Int))), (.int .i64 ((0 : Int))), (.int .i64 (p))], [⟨(n), (c)⟩]⟩, [(mvs n f)], []⟩) ∧ (LoopOW Try.prog .none p7o (T7o) ⟨⟨[(.bool true), (.int .u8 (w)), (.int .i64 ((↑found : Int))), (.int .i64 ((2 : Int))), (.int .i64 (bits BinOp.and IntKind.i64 (IntKind.i64.wrap b) (IntKind.i64.wrap (IntKind.i64.wrap ((1 : Int) * (2 : Int) ^ n) - (1 : Int))))), (.bool true), (.int .i64 ((↑n : Int))), (.int .i64 ((0 : Int))), (.int .i64 (p))], [⟨(n), (c)⟩]⟩, [(mvs n f)], []⟩ (.exit ((0 : Nat))) (T7o) ⟨⟨[(.bool true), (.int .u8 (w)), (.int .i64 ((↑found : Int))), (.int .i64 ((2 : Int))), (.int .i64 ((↑own : Int))), (.bool (ap)), (.int .i64 ((↑n : Int))), (.int .i64 ((↑n : Int))), (.int .i64 (p))], [⟨(n), (c)⟩]⟩, [(mvs n f)], []⟩) ∧ 
(((ap) = true → ((ConOK Try.prog ((29 : Nat)) (C29 own)) ∧ (Con.pre (C29 own) ⟨⟨[(.int .i64 ((↑own : Int)))], []⟩, []⟩) ∧ 
((ConOK Try.prog ((29 : Nat)) (C29 found)) ∧ (Con.pre (C29 found) ⟨⟨[(.int .i64 ((↑found : Int)))], []⟩, []⟩) ∧ 
(((decide ((↑(popN own) : Int) > (↑(popN found) : Int))) = true → R (.ret (.bool false))) ∧
((decide ((↑(popN own) : Int) > (↑(popN found) : Int))) = false → ((ConOK Try.prog ((29 : Nat)) (C29 own)) ∧ (Con.pre (C29 own) ⟨⟨[(.int .i64 ((↑own : Int)))], []⟩, []⟩) ∧ 
((ConOK Try.prog ((29 : Nat)) (C29 found)) ∧ (Con.pre (C29 found) ⟨⟨[(.int .i64 ((↑found : Int)))], []⟩, []⟩) ∧ 
((((↑(popN own) : Int) == (↑(popN found) : Int)) = true → (((decide ((↑own : Int) < (↑found : Int))) = true → R (.ret (.bool false))) ∧
((decide ((↑own : Int) < (↑found : Int))) = false → ((((↑n : Int) == (0 : Int)) = true → ((((↑found : Int) == (0 : Int)) = true → ((ConOK Try.prog ((12 : Nat)) (C12)) ∧ (Con.pre (C12) ⟨⟨[], []⟩, []⟩) ∧ 
R (.ret (.bool true)))) ∧
(((↑found : Int) == (0 : Int)) = false → R (.ret (.bool false))))) ∧
(((↑n : Int) == (0 : Int)) = false → ((((((↑n : Int) ≠ (0 : Int))) ∧ ((IntKind.i64 = IntKind.i64))) ∧ (((.int .i64 ((0 : Int))) : Value) = (.int .i64 ((IntKind.i64.wrap w).tmod (↑n : Int))))) ∧
((((((0 : Int) ≤ IntKind.i64.wrap ((0 : Int) + (1 : Int)))) ∧ (((IntKind.i64.wrap ((0 : Int) + (1 : Int)) ≤ (↑n : Int))) ∧ (((↑n : Int) ≤ (↑c : Int))))) ∧ (((.slice (.some ⟨((0 : Nat)), ((4 : Nat)), .none⟩) (m) (c - (1 : Nat))) : Value) = (.slice (.some ⟨((0 : Nat)), ((4 : Nat)), .none⟩) (n - (1 : Nat)) (c - (1 : Nat))))) ∧
(((((((0 : Int) ≤ IntKind.i64.wrap ((0 : Int) + (1 : Int)))) ∧ (((IntKind.i64.wrap ((0 : Int) + (1 : Int)) ≤ (↑n : Int))) ∧ (((↑n : Int) ≤ (↑c : Int))))) ∧ (((.slice (.some ⟨((0 : Nat)), ((4 : Nat)), .none⟩) (m) (c - (1 : Nat))) : Value) = (.slice (.some ⟨((0 : Nat)), ((4 : Nat)), .none⟩) (n - (1 : Nat)) (c - (1 : Nat))))) ∧ ((((some (.slice (.some ⟨0, 0, .none⟩) (n) (c)) : Option Value) = some (.slice (.some ⟨0, 0, .none⟩) (n) (c)))) ∧ (True))) ∧ 
(((((((0 : Nat) < m)) ∧ (((4 : Nat) + m * (4 : Nat) ≤ (mvs n f).length))) ∧ (((List.take (m * (4 : Nat)) (List.drop (4 : Nat) (mvs n f))).all one = true))) ∧ (((¬(0 : Nat) + m ≤ (0 : Nat))) ∧ ((((0 : Nat) = (0 : Nat))) ∧ (((((0 : Nat) + m) * (32 : Nat) ≤ (140737488355328 : Nat))) ∧ (((0 : Nat) + m ≤ (4611686018427387904 : Nat))))))) ∧ 
((ConNOK Try.prog ((24 : Nat)) (C24c true p n c (mvs n f) many pl)) ∧ (ConN.pre (C24c true p n c (mvs n f) many pl) ⟨⟨[(.int .i64 (p)), (.bool true)], [⟨(n), (c)⟩]⟩, [(mvs n f)]⟩) ∧ 
((ConNOK Try.prog ((24 : Nat)) (C24c true p n2 n2 ms2 many2 pl2)) ∧ (ConN.pre (C24c true p n2 n2 ms2 many2 pl2) ⟨⟨[(.int .i64 (p)), (.bool true)], [⟨((0 : Nat) + m), ((0 : Nat) + m)⟩]⟩, [([] ++ (List.take (m * (4 : Nat)) (List.drop ((4 : Nat)) (mvs n f))))]⟩) ∧ 
((ConOK Try.prog ((29 : Nat)) (C29 found)) ∧ (Con.pre (C29 found) ⟨⟨[(.int .i64 ((↑found : Int)))], []⟩, []⟩) ∧ 
((((↑many : Int) == (↑(popN found) : Int)) = true → (((decide ((↑many2 : Int) ≤ (↑many : Int))) = true → (((decide ((↑many2 : Int) ≥ IntKind.i64.wrap ((↑many : Int) - (1 : Int)))) = true → (((bits BinOp.and IntKind.i64 ((↑found : Int) / (2 : Int) ^ (0 : Nat)) (1 : Int) == (1 : Int)) = true → ((ConOK Try.prog ((12 : Nat)) (C12)) ∧ (Con.pre (C12) ⟨⟨[], []⟩, []⟩) ∧ 
R (.ret (.bool true)))) ∧
((bits BinOp.and IntKind.i64 ((↑found : Int) / (2 : Int) ^ (0 : Nat)) (1 : Int) == (1 : Int)) = false → ((((↑many2 : Int) == (↑many : Int)) = true → ((ConOK Try.prog ((12 : Nat)) (C12)) ∧ (Con.pre (C12) ⟨⟨[], []⟩, []⟩) ∧ 
R (.ret (.bool true)))) ∧
(((↑many2 : Int) == (↑many : Int)) = false → R (.ret (.bool false))))))) ∧
((decide ((↑many2 : Int) ≥ IntKind.i64.wrap ((↑many : Int) - (1 : Int)))) = false → R (.ret (.bool false))))) ∧
((decide ((↑many2 : Int) ≤ (↑many : Int))) = false → R (.ret (.bool false))))) ∧
(((↑many : Int) == (↑(popN found) : Int)) = false → R (.ret (.bool false)))))))))))))))) ∧
(((↑(popN own) : Int) == (↑(popN found) : Int)) = false → ((((↑n : Int) == (0 : Int)) = true → ((((↑found : Int) == (0 : Int)) = true → ((ConOK Try.prog ((12 : Nat)) (C12)) ∧ (Con.pre (C12) ⟨⟨[], []⟩, []⟩) ∧ 
R (.ret (.bool true)))) ∧
(((↑found : Int) == (0 : Int)) = false → R (.ret (.bool false))))) ∧
(((↑n : Int) == (0 : Int)) = false → ((((((↑n : Int) ≠ (0 : Int))) ∧ ((IntKind.i64 = IntKind.i64))) ∧ (((.int .i64 ((0 : Int))) : Value) = (.int .i64 ((IntKind.i64.wrap w).tmod (↑n : Int))))) ∧
((((((0 : Int) ≤ IntKind.i64.wrap ((0 : Int) + (1 : Int)))) ∧ (((IntKind.i64.wrap ((0 : Int) + (1 : Int)) ≤ (↑n : Int))) ∧ (((↑n : Int) ≤ (↑c : Int))))) ∧ (((.slice (.some ⟨((0 : Nat)), ((4 : Nat)), .none⟩) (m) (c - (1 : Nat))) : Value) = (.slice (.some ⟨((0 : Nat)), ((4 : Nat)), .none⟩) (n - (1 : Nat)) (c - (1 : Nat))))) ∧
(((((((0 : Int) ≤ IntKind.i64.wrap ((0 : Int) + (1 : Int)))) ∧ (((IntKind.i64.wrap ((0 : Int) + (1 : Int)) ≤ (↑n : Int))) ∧ (((↑n : Int) ≤ (↑c : Int))))) ∧ (((.slice (.some ⟨((0 : Nat)), ((4 : Nat)), .none⟩) (m) (c - (1 : Nat))) : Value) = (.slice (.some ⟨((0 : Nat)), ((4 : Nat)), .none⟩) (n - (1 : Nat)) (c - (1 : Nat))))) ∧ ((((some (.slice (.some ⟨0, 0, .none⟩) (n) (c)) : Option Value) = some (.slice (.some ⟨0, 0, .none⟩) (n) (c)))) ∧ (True))) ∧ 
(((((((0 : Nat) < m)) ∧ (((4 : Nat) + m * (4 : Nat) ≤ (mvs n f).length))) ∧ (((List.take (m * (4 : Nat)) (List.drop (4 : Nat) (mvs n f))).all one = true))) ∧ (((¬(0 : Nat) + m ≤ (0 : Nat))) ∧ ((((0 : Nat) = (0 : Nat))) ∧ (((((0 : Nat) + m) * (32 : Nat) ≤ (140737488355328 : Nat))) ∧ (((0 : Nat) + m ≤ (4611686018427387904 : Nat))))))) ∧ 
((ConNOK Try.prog ((24 : Nat)) (C24c true p n c (mvs n f) many pl)) ∧ (ConN.pre (C24c true p n c (mvs n f) many pl) ⟨⟨[(.int .i64 (p)), (.bool true)], [⟨(n), (c)⟩]⟩, [(mvs n f)]⟩) ∧ 
((ConNOK Try.prog ((24 : Nat)) (C24c true p n2 n2 ms2 many2 pl2)) ∧ (ConN.pre (C24c true p n2 n2 ms2 many2 pl2) ⟨⟨[(.int .i64 (p)), (.bool true)], [⟨((0 : Nat) + m), ((0 : Nat) + m)⟩]⟩, [([] ++ (List.take (m * (4 : Nat)) (List.drop ((4 : Nat)) (mvs n f))))]⟩) ∧ 
((ConOK Try.prog ((29 : Nat)) (C29 found)) ∧ (Con.pre (C29 found) ⟨⟨[(.int .i64 ((↑found : Int)))], []⟩, []⟩) ∧ 
((((↑many : Int) == (↑(popN found) : Int)) = true → (((decide ((↑many2 : Int) ≤ (↑many : Int))) = true → (((decide ((↑many2 : Int) ≥ IntKind.i64.wrap ((↑many : Int) - (1 : Int)))) = true → (((bits BinOp.and IntKind.i64 ((↑found : Int) / (2 : Int) ^ (0 : Nat)) (1 : Int) == (1 : Int)) = true → ((ConOK Try.prog ((12 : Nat)) (C12)) ∧ (Con.pre (C12) ⟨⟨[], []⟩, []⟩) ∧ 
R (.ret (.bool true)))) ∧
((bits BinOp.and IntKind.i64 ((↑found : Int) / (2 : Int) ^ (0 : Nat)) (1 : Int) == (1 : Int)) = false → ((((↑many2 : Int) == (↑many : Int)) = true → ((ConOK Try.prog ((12 : Nat)) (C12)) ∧ (Con.pre (C12) ⟨⟨[], []⟩, []⟩) ∧ 
R (.ret (.bool true)))) ∧
(((↑many2 : Int) == (↑many : Int)) = false → R (.ret (.bool false))))))) ∧
((decide ((↑many2 : Int) ≥ IntKind.i64.wrap ((↑many : Int) - (1 : Int)))) = false → R (.ret (.bool false))))) ∧
((decide ((↑many2 : Int) ≤ (↑many : Int))) = false → R (.ret (.bool false))))) ∧
(((↑many : Int) == (↑(popN found) : Int)) = false → R (.ret (.bool false)))))))))))))))))))))) ∧
((ap) = false → ((((↑n : Int) == (0 : Int)) = true → ((((↑found : Int) == (0 : Int)) = true → ((ConOK Try.prog ((12 : Nat)) (C12)) ∧ (Con.pre (C12) ⟨⟨[], []⟩, []⟩) ∧ 
R (.ret (.bool true)))) ∧
(((↑found : Int) == (0 : Int)) = false → R (.ret (.bool false))))) ∧
(((↑n : Int) == (0 : Int)) = false → ((((((↑n : Int) ≠ (0 : Int))) ∧ ((IntKind.i64 = IntKind.i64))) ∧ (((.int .i64 ((0 : Int))) : Value) = (.int .i64 ((IntKind.i64.wrap w).tmod (↑n : Int))))) ∧
((((((0 : Int) ≤ IntKind.i64.wrap ((0 : Int) + (1 : Int)))) ∧ (((IntKind.i64.wrap ((0 : Int) + (1 : Int)) ≤ (↑n : Int))) ∧ (((↑n : Int) ≤ (↑c : Int))))) ∧ (((.slice (.some ⟨((0 : Nat)), ((4 : Nat)), .none⟩) (m) (c - (1 : Nat))) : Value) = (.slice (.some ⟨((0 : Nat)), ((4 : Nat)), .none⟩) (n - (1 : Nat)) (c - (1 : Nat))))) ∧
(((((((0 : Int) ≤ IntKind.i64.wrap ((0 : Int) + (1 : Int)))) ∧ (((IntKind.i64.wrap ((0 : Int) + (1 : Int)) ≤ (↑n : Int))) ∧ (((↑n : Int) ≤ (↑c : Int))))) ∧ (((.slice (.some ⟨((0 : Nat)), ((4 : Nat)), .none⟩) (m) (c - (1 : Nat))) : Value) = (.slice (.some ⟨((0 : Nat)), ((4 : Nat)), .none⟩) (n - (1 : Nat)) (c - (1 : Nat))))) ∧ ((((some (.slice (.some ⟨0, 0, .none⟩) (n) (c)) : Option Value) = some (.slice (.some ⟨0, 0, .none⟩) (n) (c)))) ∧ (True))) ∧ 
(((((((0 : Nat) < m)) ∧ (((4 : Nat) + m * (4 : Nat) ≤ (mvs n f).length))) ∧ (((List.take (m * (4 : Nat)) (List.drop (4 : Nat) (mvs n f))).all one = true))) ∧ (((¬(0 : Nat) + m ≤ (0 : Nat))) ∧ ((((0 : Nat) = (0 : Nat))) ∧ (((((0 : Nat) + m) * (32 : Nat) ≤ (140737488355328 : Nat))) ∧ (((0 : Nat) + m ≤ (4611686018427387904 : Nat))))))) ∧ 
((ConNOK Try.prog ((24 : Nat)) (C24c true p n c (mvs n f) many pl)) ∧ (ConN.pre (C24c true p n c (mvs n f) many pl) ⟨⟨[(.int .i64 (p)), (.bool true)], [⟨(n), (c)⟩]⟩, [(mvs n f)]⟩) ∧ 
((ConNOK Try.prog ((24 : Nat)) (C24c true p n2 n2 ms2 many2 pl2)) ∧ (ConN.pre (C24c true p n2 n2 ms2 many2 pl2) ⟨⟨[(.int .i64 (p)), (.bool true)], [⟨((0 : Nat) + m), ((0 : Nat) + m)⟩]⟩, [([] ++ (List.take (m * (4 : Nat)) (List.drop ((4 : Nat)) (mvs n f))))]⟩) ∧ 
((ConOK Try.prog ((29 : Nat)) (C29 found)) ∧ (Con.pre (C29 found) ⟨⟨[(.int .i64 ((↑found : Int)))], []⟩, []⟩) ∧ 
((((↑many : Int) == (↑(popN found) : Int)) = true → (((decide ((↑many2 : Int) ≤ (↑many : Int))) = true → (((decide ((↑many2 : Int) ≥ IntKind.i64.wrap ((↑many : Int) - (1 : Int)))) = true → (((bits BinOp.and IntKind.i64 ((↑found : Int) / (2 : Int) ^ (0 : Nat)) (1 : Int) == (1 : Int)) = true → ((ConOK Try.prog ((12 : Nat)) (C12)) ∧ (Con.pre (C12) ⟨⟨[], []⟩, []⟩) ∧ 
R (.ret (.bool true)))) ∧
((bits BinOp.and IntKind.i64 ((↑found : Int) / (2 : Int) ^ (0 : Nat)) (1 : Int) == (1 : Int)) = false → ((((↑many2 : Int) == (↑many : Int)) = true → ((ConOK Try.prog ((12 : Nat)) (C12)) ∧ (Con.pre (C12) ⟨⟨[], []⟩, []⟩) ∧ 
R (.ret (.bool true)))) ∧
(((↑many2 : Int) == (↑many : Int)) = false → R (.ret (.bool false))))))) ∧
((decide ((↑many2 : Int) ≥ IntKind.i64.wrap ((↑many : Int) - (1 : Int)))) = false → R (.ret (.bool false))))) ∧
((decide ((↑many2 : Int) ≤ (↑many : Int))) = false → R (.ret (.bool false))))) ∧
(((↑many : Int) == (↑(popN found) : Int)) = false → R (.ret (.bool false)))))))))))))))))))))) := by kernel_rfl

theorem f7Cf (p b w : Int) (n c m found own many n2 many2 : Nat) (ap : Bool) (f : Nat → Mv) (pl ms2 pl2 : List Value) (R : ARes → Prop) : (vx.call 7 [hV p n c, .bool false, .int .u8 b, .int .u8 w] (retK R) (m1 (mvs n f)) ([(17, .split ((7, Hint.con C12) :: []) ((4, Hint.con ((C21 p n c f).when (ARes.ret (Value.bool true)))) :: (6, Hint.con (C25 false p n c f found)) :: (16, .val (.int .i64 (IntKind.i64.wrap ((1 : Int) * (2 : Int) ^ n)))) :: (8, Hint.loopW T7o (AExit.exit (0 : Nat)) T7o fun x => st7o false w p n c f found (1 : Int) own ap n) :: [(4, .split ((3, Hint.con (C29 own)) :: (2, Hint.con (C29 found)) :: [(0, .split ([]) ((3, Hint.con (C29 own)) :: (2, Hint.con (C29 found)) :: [(0, .split ([(3, .split ([]) ([(8, .split ([(2, .split ((1, Hint.con C12) :: []) ([]))]) ((6, .val (.int .i64 ((0 : Int)))) :: (12, .val (.slice (.some ⟨((0 : Nat)), ((4 : Nat)), .none⟩) (m) (c - (1 : Nat)))) :: (1, Hint.again) :: (0, Hint.growN) :: (4, Hint.conN (C24c false p n c (mvs n f) many pl)) :: (9, Hint.conN (C24c false p n2 n2 ms2 many2 pl2)) :: (17, Hint.con (C29 found)) :: [(0, .split ([(4, .split ([(5, .split ([(6, .split ((4, Hint.con C12) :: []) ([(3, .split ((3, Hint.con C12) :: []) ([]))]))]) ([]))]) ([]))]) ([]))]))]))]) ([(9, .split ([(2, .split ((1, Hint.con C12) :: []) ([]))]) ((6, .val (.int .i64 ((0 : Int)))) :: (12, .val (.slice (.some ⟨((0 : Nat)), ((4 : Nat)), .none⟩) (m) (c - (1 : Nat)))) :: (1, Hint.again) :: (0, Hint.growN) :: (4, Hint.conN (C24c false p n c (mvs n f) many pl)) :: (9, Hint.conN (C24c false p n2 n2 ms2 many2 pl2)) :: (17, Hint.con (C29 found)) :: [(0, .split ([(4, .split ([(5, .split ([(6, .split ((4, Hint.con C12) :: []) ([(3, .split ((3, Hint.con C12) :: []) ([]))]))]) ([]))]) ([]))]) ([]))]))]))]))]) ([(7, .split ([(2, .split ((1, Hint.con C12) :: []) ([]))]) ((6, .val (.int .i64 ((0 : Int)))) :: (12, .val (.slice (.some ⟨((0 : Nat)), ((4 : Nat)), .none⟩) (m) (c - (1 : Nat)))) :: (1, Hint.again) :: (0, Hint.growN) :: (4, Hint.conN (C24c false p n c (mvs n f) many pl)) :: (9, Hint.conN (C24c false p n2 n2 ms2 many2 pl2)) :: (17, Hint.con (C29 found)) :: [(0, .split ([(4, .split ([(5, .split ([(6, .split ((4, Hint.con C12) :: []) ([(3, .split ((3, Hint.con C12) :: []) ([]))]))]) ([]))]) ([]))]) ([]))]))]))]))])) =
((((decide ((if (↑(0 : Nat) : Int) > (↑n : Int) then (↑(0 : Nat) : Int) else (↑n : Int)) > (40 : Int))) = true → ((ConOK Try.prog ((12 : Nat)) (C12)) ∧ (Con.pre (C12) ⟨⟨[], []⟩, []⟩) ∧ 
R (.ret (.bool true)))) ∧
((decide ((if (↑(0 : Nat) : Int) > (↑n : Int) then (↑(0 : Nat) : Int) else (↑n : Int)) > (40 : Int))) = false → ((ConOK Try.prog ((21 : Nat)) ((C21 p n c f).when (ARes.ret (Value.bool true)))) ∧ (Con.pre ((C21 p n c f).when (ARes.ret (Value.bool true))) ⟨⟨[(.int .i64 (p))], [⟨(n), (c)⟩]⟩, [(mvs n f)]⟩) ∧ 
((ConOK Try.prog ((25 : Nat)) (C25 false p n c f found)) ∧ (Con.pre (C25 false p n c f found) ⟨⟨[(.int .i64 (p)), (.bool false)], [⟨(n), (c)⟩]⟩, [(mvs n f)]⟩) ∧ 
((((((0 : Int) ≤ (↑n : Int))) ∧ (((↑n : Int) ≤ (↑(64 : Nat) : Int)))) ∧ (((.int .i64 (IntKind.i64.wrap ((1 : Int) * (2 : Int) ^ n))) : Value) = (.int .i64 (IntKind.i64.wrap ((1 : Int) * (2 : Int) ^ n))))) ∧
((ClW ⟨⟨[(.bool false), (.int .u8 (w)), (.int .i64 ((↑found : Int))), (.int .i64 ((1 : Int))), (.int .i64 (bits BinOp.and IntKind.i64 (IntKind.i64.wrap b) (IntKind.i64.wrap (IntKind.i64.wrap ((1 : Int) * (2 : Int) ^ n) - (1 : Int))))), (.bool true), (.int .i64 ((↑n : Int))), (.int .i64 ((0 : Int))), (.int .i64 (p))], [⟨(n), (c)⟩]⟩, [(mvs n f)], []⟩) ∧ (LoopOW Try.prog .none p7o (T7o) ⟨⟨[(.bool false), (.int .u8 (w)), (.int .i64 ((↑found : Int))), (.int .i64 ((1 : Int))), (.int .i64 (bits BinOp.and IntKind.i64 (IntKind.i64.wrap b) (IntKind.i64.wrap (IntKind.i64.wrap ((1 : Int) * (2 : Int) ^ n) - (1 : Int))))), (.bool true), (.int .i64 ((↑n : Int))), (.int .i64 ((0 : Int))), (.int .i64 (p))], [⟨(n), (c)⟩]⟩, [(mvs n f)], []⟩ (.exit ((0 : Nat))) (T7o) ⟨⟨[(.bool false), (.int .u8 (w)), (.int .i64 ((↑found : Int))), (.int .i64 ((1 : Int))), (.int .i64 ((↑own : Int))), (.bool (ap)), (.int .i64 ((↑n : Int))), (.int .i64 ((↑n : Int))), (.int .i64 (p))], [⟨(n), (c)⟩]⟩, [(mvs n f)], []⟩) ∧ 
(((ap) = true → ((ConOK Try.prog ((29 : Nat)) (C29 own)) ∧ (Con.pre (C29 own) ⟨⟨[(.int .i64 ((↑own : Int)))], []⟩, []⟩) ∧ 
((ConOK Try.prog ((29 : Nat)) (C29 found)) ∧ (Con.pre (C29 found) ⟨⟨[(.int .i64 ((↑found : Int)))], []⟩, []⟩) ∧ 
(((decide ((↑(popN own) : Int) > (↑(popN found) : Int))) = true → R (.ret (.bool false))) ∧
((decide ((↑(popN own) : Int) > (↑(popN found) : Int))) = false → ((ConOK Try.prog ((29 : Nat)) (C29 own)) ∧ (Con.pre (C29 own) ⟨⟨[(.int .i64 ((↑own : Int)))], []⟩, []⟩) ∧ 
((ConOK Try.prog ((29 : Nat)) (C29 found)) ∧ (Con.pre (C29 found) ⟨⟨[(.int .i64 ((↑found : Int)))], []⟩, []⟩) ∧ 
((((↑(popN own) : Int) == (↑(popN found) : Int)) = true → (((decide ((↑own : Int) < (↑found : Int))) = true → R (.ret (.bool false))) ∧
((decide ((↑own : Int) < (↑found : Int))) = false → ((((↑n : Int) == (0 : Int)) = true → ((((↑found : Int) == (0 : Int)) = true → ((ConOK Try.prog ((12 : Nat)) (C12)) ∧ (Con.pre (C12) ⟨⟨[], []⟩, []⟩) ∧ 
R (.ret (.bool true)))) ∧
(((↑found : Int) == (0 : Int)) = false → R (.ret (.bool false))))) ∧
(((↑n : Int) == (0 : Int)) = false → ((((((↑n : Int) ≠ (0 : Int))) ∧ ((IntKind.i64 = IntKind.i64))) ∧ (((.int .i64 ((0 : Int))) : Value) = (.int .i64 ((IntKind.i64.wrap w).tmod (↑n : Int))))) ∧
((((((0 : Int) ≤ IntKind.i64.wrap ((0 : Int) + (1 : Int)))) ∧ (((IntKind.i64.wrap ((0 : Int) + (1 : Int)) ≤ (↑n : Int))) ∧ (((↑n : Int) ≤ (↑c : Int))))) ∧ (((.slice (.some ⟨((0 : Nat)), ((4 : Nat)), .none⟩) (m) (c - (1 : Nat))) : Value) = (.slice (.some ⟨((0 : Nat)), ((4 : Nat)), .none⟩) (n - (1 : Nat)) (c - (1 : Nat))))) ∧
(((((((0 : Int) ≤ IntKind.i64.wrap ((0 : Int) + (1 : Int)))) ∧ (((IntKind.i64.wrap ((0 : Int) + (1 : Int)) ≤ (↑n : Int))) ∧ (((↑n : Int) ≤ (↑c : Int))))) ∧ (((.slice (.some ⟨((0 : Nat)), ((4 : Nat)), .none⟩) (m) (c - (1 : Nat))) : Value) = (.slice (.some ⟨((0 : Nat)), ((4 : Nat)), .none⟩) (n - (1 : Nat)) (c - (1 : Nat))))) ∧ ((((some (.slice (.some ⟨0, 0, .none⟩) (n) (c)) : Option Value) = some (.slice (.some ⟨0, 0, .none⟩) (n) (c)))) ∧ (True))) ∧ 
(((((((0 : Nat) < m)) ∧ (((4 : Nat) + m * (4 : Nat) ≤ (mvs n f).length))) ∧ (((List.take (m * (4 : Nat)) (List.drop (4 : Nat) (mvs n f))).all one = true))) ∧ (((¬(0 : Nat) + m ≤ (0 : Nat))) ∧ ((((0 : Nat) = (0 : Nat))) ∧ (((((0 : Nat) + m) * (32 : Nat) ≤ (140737488355328 : Nat))) ∧ (((0 : Nat) + m ≤ (4611686018427387904 : Nat))))))) ∧ 
((ConNOK Try.prog ((24 : Nat)) (C24c false p n c (mvs n f) many pl)) ∧ (ConN.pre (C24c false p n c (mvs n f) many pl) ⟨⟨[(.int .i64 (p)), (.bool false)], [⟨(n), (c)⟩]⟩, [(mvs n f)]⟩) ∧ 
((ConNOK Try.prog ((24 : Nat)) (C24c false p n2 n2 ms2 many2 pl2)) ∧ (ConN.pre (C24c false p n2 n2 ms2 many2 pl2) ⟨⟨[(.int .i64 (p)), (.bool false)], [⟨((0 : Nat) + m), ((0 : Nat) + m)⟩]⟩, [([] ++ (List.take (m * (4 : Nat)) (List.drop ((4 : Nat)) (mvs n f))))]⟩) ∧ 
((ConOK Try.prog ((29 : Nat)) (C29 found)) ∧ (Con.pre (C29 found) ⟨⟨[(.int .i64 ((↑found : Int)))], []⟩, []⟩) ∧ 
((((↑many : Int) == (↑(popN found) : Int)) = true → (((decide ((↑many2 : Int) ≤ (↑many : Int))) = true → (((decide ((↑many2 : Int) ≥ IntKind.i64.wrap ((↑many : Int) - (1 : Int)))) = true → (((bits BinOp.and IntKind.i64 ((↑found : Int) / (2 : Int) ^ (0 : Nat)) (1 : Int) == (1 : Int)) = true → ((ConOK Try.prog ((12 : Nat)) (C12)) ∧ (Con.pre (C12) ⟨⟨[], []⟩, []⟩) ∧ 
R (.ret (.bool true)))) ∧
((bits BinOp.and IntKind.i64 ((↑found : Int) / (2 : Int) ^ (0 : Nat)) (1 : Int) == (1 : Int)) = false → ((((↑many2 : Int) == (↑many : Int)) = true → ((ConOK Try.prog ((12 : Nat)) (C12)) ∧ (Con.pre (C12) ⟨⟨[], []⟩, []⟩) ∧ 
R (.ret (.bool true)))) ∧
(((↑many2 : Int) == (↑many : Int)) = false → R (.ret (.bool false))))))) ∧
((decide ((↑many2 : Int) ≥ IntKind.i64.wrap ((↑many : Int) - (1 : Int)))) = false → R (.ret (.bool false))))) ∧
((decide ((↑many2 : Int) ≤ (↑many : Int))) = false → R (.ret (.bool false))))) ∧
(((↑many : Int) == (↑(popN found) : Int)) = false → R (.ret (.bool false)))))))))))))))) ∧
(((↑(popN own) : Int) == (↑(popN found) : Int)) = false → ((((↑n : Int) == (0 : Int)) = true → ((((↑found : Int) == (0 : Int)) = true → ((ConOK Try.prog ((12 : Nat)) (C12)) ∧ (Con.pre (C12) ⟨⟨[], []⟩, []⟩) ∧ 
R (.ret (.bool true)))) ∧
(((↑found : Int) == (0 : Int)) = false → R (.ret (.bool false))))) ∧
(((↑n : Int) == (0 : Int)) = false → ((((((↑n : Int) ≠ (0 : Int))) ∧ ((IntKind.i64 = IntKind.i64))) ∧ (((.int .i64 ((0 : Int))) : Value) = (.int .i64 ((IntKind.i64.wrap w).tmod (↑n : Int))))) ∧
((((((0 : Int) ≤ IntKind.i64.wrap ((0 : Int) + (1 : Int)))) ∧ (((IntKind.i64.wrap ((0 : Int) + (1 : Int)) ≤ (↑n : Int))) ∧ (((↑n : Int) ≤ (↑c : Int))))) ∧ (((.slice (.some ⟨((0 : Nat)), ((4 : Nat)), .none⟩) (m) (c - (1 : Nat))) : Value) = (.slice (.some ⟨((0 : Nat)), ((4 : Nat)), .none⟩) (n - (1 : Nat)) (c - (1 : Nat))))) ∧
(((((((0 : Int) ≤ IntKind.i64.wrap ((0 : Int) + (1 : Int)))) ∧ (((IntKind.i64.wrap ((0 : Int) + (1 : Int)) ≤ (↑n : Int))) ∧ (((↑n : Int) ≤ (↑c : Int))))) ∧ (((.slice (.some ⟨((0 : Nat)), ((4 : Nat)), .none⟩) (m) (c - (1 : Nat))) : Value) = (.slice (.some ⟨((0 : Nat)), ((4 : Nat)), .none⟩) (n - (1 : Nat)) (c - (1 : Nat))))) ∧ ((((some (.slice (.some ⟨0, 0, .none⟩) (n) (c)) : Option Value) = some (.slice (.some ⟨0, 0, .none⟩) (n) (c)))) ∧ (True))) ∧ 
(((((((0 : Nat) < m)) ∧ (((4 : Nat) + m * (4 : Nat) ≤ (mvs n f).length))) ∧ (((List.take (m * (4 : Nat)) (List.drop (4 : Nat) (mvs n f))).all one = true))) ∧ (((¬(0 : Nat) + m ≤ (0 : Nat))) ∧ ((((0 : Nat) = (0 : Nat))) ∧ (((((0 : Nat) + m) * (32 : Nat) ≤ (140737488355328 : Nat))) ∧ (((0 : Nat) + m ≤ (4611686018427387904 : Nat))))))) ∧ 
((ConNOK Try.prog ((24 : Nat)) (C24c false p n c (mvs n f) many pl)) ∧ (ConN.pre (C24c false p n c (mvs n f) many pl) ⟨⟨[(.int .i64 (p)), (.bool false)], [⟨(n), (c)⟩]⟩, [(mvs n f)]⟩) ∧ 
((ConNOK Try.prog ((24 : Nat)) (C24c false p n2 n2 ms2 many2 pl2)) ∧ (ConN.pre (C24c false p n2 n2 ms2 many2 pl2) ⟨⟨[(.int .i64 (p)), (.bool false)], [⟨((0 : Nat) + m), ((0 : Nat) + m)⟩]⟩, [([] ++ (List.take (m * (4 : Nat)) (List.drop ((4 : Nat)) (mvs n f))))]⟩) ∧ 
((ConOK Try.prog ((29 : Nat)) (C29 found)) ∧ (Con.pre (C29 found) ⟨⟨[(.int .i64 ((↑found : Int)))], []⟩, []⟩) ∧ 
((((↑many : Int) == (↑(popN found) : Int)) = true → (((decide ((↑many2 : Int) ≤ (↑many : Int))) = true → (((decide ((↑many2 : Int) ≥ IntKind.i64.wrap ((↑many : Int) - (1 : Int)))) = true → (((bits BinOp.and IntKind.i64 ((↑found : Int) / (2 : Int) ^ (0 : Nat)) (1 : Int) == (1 : Int)) = true → ((ConOK Try.prog ((12 : Nat)) (C12)) ∧ (Con.pre (C12) ⟨⟨[], []⟩, []⟩) ∧ 
R (.ret (.bool true)))) ∧
((bits BinOp.and IntKind.i64 ((↑found : Int) / (2 : Int) ^ (0 : Nat)) (1 : Int) == (1 : Int)) = false → ((((↑many2 : Int) == (↑many : Int)) = true → ((ConOK Try.prog ((12 : Nat)) (C12)) ∧ (Con.pre (C12) ⟨⟨[], []⟩, []⟩) ∧ 
R (.ret (.bool true)))) ∧
(((↑many2 : Int) == (↑many : Int)) = false → R (.ret (.bool false))))))) ∧
((decide ((↑many2 : Int) ≥ IntKind.i64.wrap ((↑many : Int) - (1 : Int)))) = false → R (.ret (.bool false))))) ∧
((decide ((↑many2 : Int) ≤ (↑many : Int))) = false → R (.ret (.bool false))))) ∧
(((↑many : Int) == (↑(popN found) : Int)) = false → R (.ret (.bool false)))))))))))))))))))))) ∧
((ap) = false → ((((↑n : Int) == (0 : Int)) = true → ((((↑found : Int) == (0 : Int)) = true → ((ConOK Try.prog ((12 : Nat)) (C12)) ∧ (Con.pre (C12) ⟨⟨[], []⟩, []⟩) ∧ 
R (.ret (.bool true)))) ∧
(((↑found : Int) == (0 : Int)) = false → R (.ret (.bool false))))) ∧
(((↑n : Int) == (0 : Int)) = false → ((((((↑n : Int) ≠ (0 : Int))) ∧ ((IntKind.i64 = IntKind.i64))) ∧ (((.int .i64 ((0 : Int))) : Value) = (.int .i64 ((IntKind.i64.wrap w).tmod (↑n : Int))))) ∧
((((((0 : Int) ≤ IntKind.i64.wrap ((0 : Int) + (1 : Int)))) ∧ (((IntKind.i64.wrap ((0 : Int) + (1 : Int)) ≤ (↑n : Int))) ∧ (((↑n : Int) ≤ (↑c : Int))))) ∧ (((.slice (.some ⟨((0 : Nat)), ((4 : Nat)), .none⟩) (m) (c - (1 : Nat))) : Value) = (.slice (.some ⟨((0 : Nat)), ((4 : Nat)), .none⟩) (n - (1 : Nat)) (c - (1 : Nat))))) ∧
(((((((0 : Int) ≤ IntKind.i64.wrap ((0 : Int) + (1 : Int)))) ∧ (((IntKind.i64.wrap ((0 : Int) + (1 : Int)) ≤ (↑n : Int))) ∧ (((↑n : Int) ≤ (↑c : Int))))) ∧ (((.slice (.some ⟨((0 : Nat)), ((4 : Nat)), .none⟩) (m) (c - (1 : Nat))) : Value) = (.slice (.some ⟨((0 : Nat)), ((4 : Nat)), .none⟩) (n - (1 : Nat)) (c - (1 : Nat))))) ∧ ((((some (.slice (.some ⟨0, 0, .none⟩) (n) (c)) : Option Value) = some (.slice (.some ⟨0, 0, .none⟩) (n) (c)))) ∧ (True))) ∧ 
(((((((0 : Nat) < m)) ∧ (((4 : Nat) + m * (4 : Nat) ≤ (mvs n f).length))) ∧ (((List.take (m * (4 : Nat)) (List.drop (4 : Nat) (mvs n f))).all one = true))) ∧ (((¬(0 : Nat) + m ≤ (0 : Nat))) ∧ ((((0 : Nat) = (0 : Nat))) ∧ (((((0 : Nat) + m) * (32 : Nat) ≤ (140737488355328 : Nat))) ∧ (((0 : Nat) + m ≤ (4611686018427387904 : Nat))))))) ∧ 
((ConNOK Try.prog ((24 : Nat)) (C24c false p n c (mvs n f) many pl)) ∧ (ConN.pre (C24c false p n c (mvs n f) many pl) ⟨⟨[(.int .i64 (p)), (.bool false)], [⟨(n), (c)⟩]⟩, [(mvs n f)]⟩) ∧ 
((ConNOK Try.prog ((24 : Nat)) (C24c false p n2 n2 ms2 many2 pl2)) ∧ (ConN.pre (C24c false p n2 n2 ms2 many2 pl2) ⟨⟨[(.int .i64 (p)), (.bool false)], [⟨((0 : Nat) + m), ((0 : Nat) + m)⟩]⟩, [([] ++ (List.take (m * (4 : Nat)) (List.drop ((4 : Nat)) (mvs n f))))]⟩) ∧ 
((ConOK Try.prog ((29 : Nat)) (C29 found)) ∧ (Con.pre (C29 found) ⟨⟨[(.int .i64 ((↑found : Int)))], []⟩, []⟩) ∧ 
((((↑many : Int) == (↑(popN found) : Int)) = true → (((decide ((↑many2 : Int) ≤ (↑many : Int))) = true → (((decide ((↑many2 : Int) ≥ IntKind.i64.wrap ((↑many : Int) - (1 : Int)))) = true → (((bits BinOp.and IntKind.i64 ((↑found : Int) / (2 : Int) ^ (0 : Nat)) (1 : Int) == (1 : Int)) = true → ((ConOK Try.prog ((12 : Nat)) (C12)) ∧ (Con.pre (C12) ⟨⟨[], []⟩, []⟩) ∧ 
R (.ret (.bool true)))) ∧
((bits BinOp.and IntKind.i64 ((↑found : Int) / (2 : Int) ^ (0 : Nat)) (1 : Int) == (1 : Int)) = false → ((((↑many2 : Int) == (↑many : Int)) = true → ((ConOK Try.prog ((12 : Nat)) (C12)) ∧ (Con.pre (C12) ⟨⟨[], []⟩, []⟩) ∧ 
R (.ret (.bool true)))) ∧
(((↑many2 : Int) == (↑many : Int)) = false → R (.ret (.bool false))))))) ∧
((decide ((↑many2 : Int) ≥ IntKind.i64.wrap ((↑many : Int) - (1 : Int)))) = false → R (.ret (.bool false))))) ∧
((decide ((↑many2 : Int) ≤ (↑many : Int))) = false → R (.ret (.bool false))))) ∧
(((↑many : Int) == (↑(popN found) : Int)) = false → R (.ret (.bool false)))))))))))))))))))))) := by kernel_rfl

theorem law7Ct (p b w : Int) (n c : Nat) (m : Nat) (f : Nat → Mv) (hn : n = m + 1) (hm0 : 0 < m) (hc : n ≤ c) (hb : 0 ≤ b ∧ b < 256) (hw : (0 : Int) = (IntKind.i64.wrap w).tmod (n : Int)) (hok : okH p n f = true) :
    ∃ hs, vx.call 7 [hV p n c, .bool true, .int .u8 b, .int .u8 w] (retK fun r => r = .ret (.bool true)) (m1 (mvs n f)) hs := by
  have hH := okH_iff hok
  have hn7 := hH.n7
  have hwhen : ConOK Try.prog 21 ((C21 p n c f).when (.ret (.bool true))) := con_when (C21_ok p n c f (by omega)) _
  have hr : (C21 p n c f).res ⟨⟨[I p], [(n, c)]⟩, [mvs n f]⟩ = .ret (.bool true) := by show ARes.ret (.bool (okH p n f)) = _; rw [hok]
  have h25 : ConOK Try.prog 25 (C25 true p n c f (proofH true p n f)) := C25_ok true hok hn7
  have h29o := C29_ok (own_128 b hn7)
  have h29f := C29_ok (proof_128 (p := p) (f := f) (sure := true) hn7)
  have hown := own_eq hb hn7
  have hl := loop7o (c := c) hok true w (proofH true p n f) 2 (ownN b n)
  have hcl := cl7o (p := p) (n := n) (c := c) (f := f) true w (proofH true p n f) 2 (ownN b n) true 0
  have hbest := own_best hH true b
  have h24 := C24c_ok (c := c) true hok hn7 (by omega)
  have e1 := proof_few (sure := true) hH
  have q7 := few_7 (p := p) (f := f) true hn7
  have hH2 : HOK p (0 + m) (dropF f 0) := by
    have e : n = (0 + m) + 1 := by omega
    rw [e] at hH
    exact hok_drop hH 0
  have hcells : [] ++ List.take (m * 4) (List.drop 4 (mvs n f)) = mvs (0 + m) (dropF f 0) := mvs_skip (i := 0) (m := m) f (by omega)
  have h24' : ConNOK Try.prog 24 (C24c true p (0 + m) (0 + m) ([] ++ List.take (m * 4) (List.drop 4 (mvs n f))) (fewH true p (0 + m) (dropF f 0)) (planC true p (0 + m) (dropF f 0))) := by
    rw [hcells]
    have e : (0 + m) = 0 + m := by omega
    rw [e]
    exact C24c_ok true (okH_of hH2) (by omega) (by omega)
  have e2 : fewH true p (0 + m) (dropF f 0) ≤ fewH true p n f := by
    have e : n = (0 + m) + 1 := by omega
    rw [e] at hH ⊢
    exact drop_le hH (by omega)
  have e3 : fewH true p n f ≤ fewH true p (0 + m) (dropF f 0) + (if (proofH true p n f).testBit 0 = true then 1 else 0) := by
    have e : n = (0 + m) + 1 := by omega
    rw [e] at hH ⊢
    exact drop_ge hH (by omega)
  have hbit : (bits BinOp.and IntKind.i64 (((proofH true p n f : Nat) : Int) / (2 : Int) ^ (0 : Nat)) (1 : Int) == (1 : Int)) = (proofH true p n f).testBit 0 := hasI_mask _ _ (by have := proof_128 (p := p) (f := f) (sure := true) hn7; omega)
  have key : ∀ R : ARes → Prop, R (.ret (.bool true)) → ∃ hs, vx.call 7 [hV p n c, .bool true, .int .u8 b, .int .u8 w] (retK R) (m1 (mvs n f)) hs := by
    intro R hR
    have hwi : IntKind.i64.wrap ((0 : Int) + 1) = 1 := by decide
    have hwa : IntKind.i64.wrap (((fewH true p n f : Nat) : Int) - 1) = ((fewH true p n f : Nat) : Int) - 1 := wrapI (by omega) (by omega)
    have hS2 : (Value.slice (some ⟨0, 4, none⟩) m (c - 1)) = .slice (some ⟨0, 4, none⟩) (n - 1) (c - 1) := by congr 1; omega
    have hnz : ((n : Int) ≠ 0) := by omega
    have hn0 : ¬ ((n : Int) == (0 : Int)) = true := by simp; omega
    generalize fewH true p n f = many at *
    generalize fewH true p (0 + m) (dropF f 0) = many2 at *
    generalize proofH true p n f = found at *
    generalize hap : apO p n f 2 (ownN b n) n = ap at *
    have hbest : ap = true → popN (ownN b n) ≤ popN found ∧ (popN (ownN b n) = popN found → found ≤ ownN b n) := fun h => hbest (hap.trans h)
    have x1 : (((many : Nat) : Int) == ((popN found : Nat) : Int)) = false → False := fun h => by
      have := beq_eq_false_iff_ne.1 h
      omega
    have x2 : decide (((many2 : Nat) : Int) ≤ ((many : Nat) : Int)) = false → False := fun h => by
      have := of_decide_eq_false h
      omega
    have x3 : decide (((many2 : Nat) : Int) ≥ ((many : Nat) : Int) - 1) = false → False := fun h => by
      have := of_decide_eq_false h
      have : many ≤ many2 + 1 := Nat.le_trans e3 (by split <;> omega)
      omega
    have x4 : found.testBit 0 = false → (((many2 : Nat) : Int) == ((many : Nat) : Int)) = false → False := fun h1 h2 => by
      have := beq_eq_false_iff_ne.1 h2
      rw [h1] at e3
      simp only [Bool.false_eq_true, if_false, Nat.add_zero] at e3
      omega
    refine ⟨_, (f7Ct p b w n c m found (ownN b n) many (0 + m) many2 ap f (planC true p n f) ([] ++ List.take (m * 4) (List.drop 4 (mvs n f))) (planC true p (0 + m) (dropF f 0)) R).mpr ?_⟩
    simp only [hown, hwi, Int.toNat_natCast, hwa, hbit]
    refine ⟨fun _ => ⟨C12_ok, rfl, hR⟩, fun _ => ⟨hwhen, ⟨rfl, hr⟩, h25, rfl, ⟨⟨by omega, by omega⟩, by first | exact rfl | exact trivial⟩, hcl, hl, fun ha => ⟨h29o, rfl, h29f, rfl, fun h => absurd (of_decide_eq_true h) (by have := (hbest ha).1; omega), fun _ => ⟨h29o, rfl, h29f, rfl, fun he => ⟨fun h => absurd (of_decide_eq_true h) (by have := (hbest ha).2 (by have := eq_of_beq he; omega); omega), fun _ => ?_⟩, fun _ => ?_⟩⟩, fun _ => ?_⟩⟩
    all_goals
      refine ⟨fun h => absurd h hn0, fun _ => ?_⟩
      repeat' (first | with_reducible apply And.intro | with_reducible intro)
      all_goals first
        | exact hnz
        | exact h24
        | exact h24'
        | exact h29f
        | exact C12_ok
        | exact hR
        | exact trivial
        | exact congrArg _ hw
        | exact hS2
        | exact ones_mvs n f _ _
        | omega
        | (rw [mvs_len]; omega)
        | rfl
        | (exfalso; rename_i h; exact x1 h)
        | (exfalso; rename_i h; exact x2 h)
        | (exfalso; rename_i h; exact x3 h)
        | (exfalso; rename_i h2 h; exact x4 h2 h)
  exact key _ rfl
theorem law7Cf (p b w : Int) (n c : Nat) (m : Nat) (f : Nat → Mv) (hn : n = m + 1) (hm0 : 0 < m) (hc : n ≤ c) (hb : 0 ≤ b ∧ b < 256) (hw : (0 : Int) = (IntKind.i64.wrap w).tmod (n : Int)) (hok : okH p n f = true) :
    ∃ hs, vx.call 7 [hV p n c, .bool false, .int .u8 b, .int .u8 w] (retK fun r => r = .ret (.bool true)) (m1 (mvs n f)) hs := by
  have hH := okH_iff hok
  have hn7 := hH.n7
  have hwhen : ConOK Try.prog 21 ((C21 p n c f).when (.ret (.bool true))) := con_when (C21_ok p n c f (by omega)) _
  have hr : (C21 p n c f).res ⟨⟨[I p], [(n, c)]⟩, [mvs n f]⟩ = .ret (.bool true) := by show ARes.ret (.bool (okH p n f)) = _; rw [hok]
  have h25 : ConOK Try.prog 25 (C25 false p n c f (proofH false p n f)) := C25_ok false hok hn7
  have h29o := C29_ok (own_128 b hn7)
  have h29f := C29_ok (proof_128 (p := p) (f := f) (sure := false) hn7)
  have hown := own_eq hb hn7
  have hl := loop7o (c := c) hok false w (proofH false p n f) 1 (ownN b n)
  have hcl := cl7o (p := p) (n := n) (c := c) (f := f) false w (proofH false p n f) 1 (ownN b n) true 0
  have hbest := own_best hH false b
  have h24 := C24c_ok (c := c) false hok hn7 (by omega)
  have e1 := proof_few (sure := false) hH
  have q7 := few_7 (p := p) (f := f) false hn7
  have hH2 : HOK p (0 + m) (dropF f 0) := by
    have e : n = (0 + m) + 1 := by omega
    rw [e] at hH
    exact hok_drop hH 0
  have hcells : [] ++ List.take (m * 4) (List.drop 4 (mvs n f)) = mvs (0 + m) (dropF f 0) := mvs_skip (i := 0) (m := m) f (by omega)
  have h24' : ConNOK Try.prog 24 (C24c false p (0 + m) (0 + m) ([] ++ List.take (m * 4) (List.drop 4 (mvs n f))) (fewH false p (0 + m) (dropF f 0)) (planC false p (0 + m) (dropF f 0))) := by
    rw [hcells]
    have e : (0 + m) = 0 + m := by omega
    rw [e]
    exact C24c_ok false (okH_of hH2) (by omega) (by omega)
  have e2 : fewH false p (0 + m) (dropF f 0) ≤ fewH false p n f := by
    have e : n = (0 + m) + 1 := by omega
    rw [e] at hH ⊢
    exact drop_le hH (by omega)
  have e3 : fewH false p n f ≤ fewH false p (0 + m) (dropF f 0) + (if (proofH false p n f).testBit 0 = true then 1 else 0) := by
    have e : n = (0 + m) + 1 := by omega
    rw [e] at hH ⊢
    exact drop_ge hH (by omega)
  have hbit : (bits BinOp.and IntKind.i64 (((proofH false p n f : Nat) : Int) / (2 : Int) ^ (0 : Nat)) (1 : Int) == (1 : Int)) = (proofH false p n f).testBit 0 := hasI_mask _ _ (by have := proof_128 (p := p) (f := f) (sure := false) hn7; omega)
  have key : ∀ R : ARes → Prop, R (.ret (.bool true)) → ∃ hs, vx.call 7 [hV p n c, .bool false, .int .u8 b, .int .u8 w] (retK R) (m1 (mvs n f)) hs := by
    intro R hR
    have hwi : IntKind.i64.wrap ((0 : Int) + 1) = 1 := by decide
    have hwa : IntKind.i64.wrap (((fewH false p n f : Nat) : Int) - 1) = ((fewH false p n f : Nat) : Int) - 1 := wrapI (by omega) (by omega)
    have hS2 : (Value.slice (some ⟨0, 4, none⟩) m (c - 1)) = .slice (some ⟨0, 4, none⟩) (n - 1) (c - 1) := by congr 1; omega
    have hnz : ((n : Int) ≠ 0) := by omega
    have hn0 : ¬ ((n : Int) == (0 : Int)) = true := by simp; omega
    generalize fewH false p n f = many at *
    generalize fewH false p (0 + m) (dropF f 0) = many2 at *
    generalize proofH false p n f = found at *
    generalize hap : apO p n f 1 (ownN b n) n = ap at *
    have hbest : ap = true → popN (ownN b n) ≤ popN found ∧ (popN (ownN b n) = popN found → found ≤ ownN b n) := fun h => hbest (hap.trans h)
    have x1 : (((many : Nat) : Int) == ((popN found : Nat) : Int)) = false → False := fun h => by
      have := beq_eq_false_iff_ne.1 h
      omega
    have x2 : decide (((many2 : Nat) : Int) ≤ ((many : Nat) : Int)) = false → False := fun h => by
      have := of_decide_eq_false h
      omega
    have x3 : decide (((many2 : Nat) : Int) ≥ ((many : Nat) : Int) - 1) = false → False := fun h => by
      have := of_decide_eq_false h
      have : many ≤ many2 + 1 := Nat.le_trans e3 (by split <;> omega)
      omega
    have x4 : found.testBit 0 = false → (((many2 : Nat) : Int) == ((many : Nat) : Int)) = false → False := fun h1 h2 => by
      have := beq_eq_false_iff_ne.1 h2
      rw [h1] at e3
      simp only [Bool.false_eq_true, if_false, Nat.add_zero] at e3
      omega
    refine ⟨_, (f7Cf p b w n c m found (ownN b n) many (0 + m) many2 ap f (planC false p n f) ([] ++ List.take (m * 4) (List.drop 4 (mvs n f))) (planC false p (0 + m) (dropF f 0)) R).mpr ?_⟩
    simp only [hown, hwi, Int.toNat_natCast, hwa, hbit]
    refine ⟨fun _ => ⟨C12_ok, rfl, hR⟩, fun _ => ⟨hwhen, ⟨rfl, hr⟩, h25, rfl, ⟨⟨by omega, by omega⟩, by first | exact rfl | exact trivial⟩, hcl, hl, fun ha => ⟨h29o, rfl, h29f, rfl, fun h => absurd (of_decide_eq_true h) (by have := (hbest ha).1; omega), fun _ => ⟨h29o, rfl, h29f, rfl, fun he => ⟨fun h => absurd (of_decide_eq_true h) (by have := (hbest ha).2 (by have := eq_of_beq he; omega); omega), fun _ => ?_⟩, fun _ => ?_⟩⟩, fun _ => ?_⟩⟩
    all_goals
      refine ⟨fun h => absurd h hn0, fun _ => ?_⟩
      repeat' (first | with_reducible apply And.intro | with_reducible intro)
      all_goals first
        | exact hnz
        | exact h24
        | exact h24'
        | exact h29f
        | exact C12_ok
        | exact hR
        | exact trivial
        | exact congrArg _ hw
        | exact hS2
        | exact ones_mvs n f _ _
        | omega
        | (rw [mvs_len]; omega)
        | rfl
        | (exfalso; rename_i h; exact x1 h)
        | (exfalso; rename_i h; exact x2 h)
        | (exfalso; rename_i h; exact x3 h)
        | (exfalso; rename_i h2 h; exact x4 h2 h)
  exact key _ rfl
end Go.Ab

/- the law HorseProof: without one move: the last move. -/
set_option maxRecDepth 100000
namespace Go.Ab
open Go Go.RowKit Go.Proofs
theorem f7Dt (p b w : Int) (n c i found own many n2 many2 : Nat) (ap : Bool) (f : Nat → Mv) (pl ms2 pl2 : List Value) (R : ARes → Prop) : (vx.call 7 [hV p n c, .bool true, .int .u8 b, .int .u8 w] (retK R) (m1 (mvs n f)) ([(17, .split ((7, Hint.con C12) :: []) ((4, Hint.con ((C21 p n c f).when (ARes.ret (Value.bool true)))) :: (6, Hint.con (C25 true p n c f found)) :: (17, .val (.int .i64 (IntKind.i64.wrap ((1 : Int) * (2 : Int) ^ n)))) :: (8, Hint.loopW T7o (AExit.exit (0 : Nat)) T7o fun x => st7o true w p n c f found (2 : Int) own ap n) :: [(4, .split ((3, Hint.con (C29 own)) :: (2, Hint.con (C29 found)) :: [(0, .split ([]) ((3, Hint.con (C29 own)) :: (2, Hint.con (C29 found)) :: [(0, .split ([(3, .split ([]) ([(8, .split ([(2, .split ((1, Hint.con C12) :: []) ([]))]) ((6, .val (.int .i64 ((↑i : Int)))) :: (7, .val (.slice (.some ⟨0, 0, .none⟩) (i) (c))) :: (4, .val (.slice (.some ⟨((0 : Nat)), ((i + (1 : Nat)) * (4 : Nat)), .none⟩) ((0 : Nat)) (c - (i + (1 : Nat))))) :: (0, Hint.growN) :: (0, Hint.again) :: (0, Hint.same) :: (4, Hint.conN (C24c true p n c (mvs n f) many pl)) :: (9, Hint.conN (C24c true p n2 n2 ms2 many2 pl2)) :: (17, Hint.con (C29 found)) :: [(0, .split ([(4, .split ([(5, .split ((4, .val (.int .i64 ((↑found : Int) / (2 : Int) ^ i))) :: [(1, .split ((4, Hint.con C12) :: []) ([(3, .split ((3, Hint.con C12) :: []) ([]))]))]) ([]))]) ([]))]) ([]))]))]))]) ([(9, .split ([(2, .split ((1, Hint.con C12) :: []) ([]))]) ((6, .val (.int .i64 ((↑i : Int)))) :: (7, .val (.slice (.some ⟨0, 0, .none⟩) (i) (c))) :: (4, .val (.slice (.some ⟨((0 : Nat)), ((i + (1 : Nat)) * (4 : Nat)), .none⟩) ((0 : Nat)) (c - (i + (1 : Nat))))) :: (0, Hint.growN) :: (0, Hint.again) :: (0, Hint.same) :: (4, Hint.conN (C24c true p n c (mvs n f) many pl)) :: (9, Hint.conN (C24c true p n2 n2 ms2 many2 pl2)) :: (17, Hint.con (C29 found)) :: [(0, .split ([(4, .split ([(5, .split ((4, .val (.int .i64 ((↑found : Int) / (2 : Int) ^ i))) :: [(1, .split ((4, Hint.con C12) :: []) ([(3, .split ((3, Hint.con C12) :: []) ([]))]))]) ([]))]) ([]))]) ([]))]))]))]))]) ([(7, .split ([(2, .split ((1, Hint.con C12) :: []) ([]))]) ((6, .val (.int .i64 ((↑i : Int)))) :: (7, .val (.slice (.some ⟨0, 0, .none⟩) (i) (c))) :: (4, .val (.slice (.some ⟨((0 : Nat)), ((i + (1 : Nat)) * (4 : Nat)), .none⟩) ((0 : Nat)) (c - (i + (1 : Nat))))) :: (0, Hint.growN) :: (0, Hint.again) :: (0, Hint.same) :: (4, Hint.conN (C24c true p n c (mvs n f) many pl)) :: (9, Hint.conN (C24c true p n2 n2 ms2 many2 pl2)) :: (17, Hint.con (C29 found)) :: [(0, .split ([(4, .split ([(5, .split ((4, .val (.int .i64 ((↑found : Int) / (2 : Int) ^ i))) :: [(1, .split ((4, Hint.con C12) :: []) ([(3, .split ((3, Hint.con C12) :: []) ([]))]))]) ([]))]) ([]))]) ([]))]))]))]))])) =
((((decide ((if (↑(0 : Nat) : Int) > (↑n : Int) then (↑(0 : Nat) : Int) else (↑n : Int)) > (40 : Int))) = true → ((ConOK Try.prog ((12 : Nat)) (C12)) ∧ (Con.pre (C12) ⟨⟨[], []⟩, []⟩) ∧ 
R (.ret (.bool true)))) ∧
((decide ((if (↑(0 : Nat) : Int) > (↑n : Int) then (↑(0 : Nat) : Int) else (↑n : Int)) > (40 : Int))) = false → ((ConOK Try.prog ((21 : Nat)) ((C21 p n c f).when (ARes.ret (Value.bool true)))) ∧ (Con.pre ((C21 p n c f).when (ARes.ret (Value.bool true))) ⟨⟨[(.int .i64 (p))], [⟨(n), (c)⟩]⟩, [(mvs n f)]⟩) ∧ 
((ConOK Try.prog ((25 : Nat)) (C25 true p n c f found)) ∧ (Con.pre (C25 true p n c f found) ⟨⟨[(.int .i64 (p)), (.bool true)], [⟨(n), (c)⟩]⟩, [(mvs n f)]⟩) ∧ 
((((((0 : Int) ≤ (↑n : Int))) ∧ (((↑n : Int) ≤ (↑(64 : Nat) : Int)))) ∧ (((.int .i64 (IntKind.i64.wrap ((1 : Int) * (2 : Int) ^ n))) : Value) = (.int .i64 (IntKind.i64.wrap ((1 : Int) * (2 : Int) ^ n))))) ∧
((ClW ⟨⟨[(.bool true), (.int .u8 (w)), (.int .i64 ((↑found : Int))), (.int .i64 ((2 : Int))), (.int .i64 (bits BinOp.and IntKind.i64 (IntKind.i64.wrap b) (IntKind.i64.wrap (IntKind.i64.wrap ((1 : Int) * (2 : Int) ^ n) - (1 : Int))))), (.bool true), (.int .i64 ((↑n : Int))), (.int .i64 ((0 : Int))), (.int .i64 (p))], [⟨(n), (c)⟩]⟩, [(mvs n f)], []⟩) ∧ (LoopOW Try.prog .none p7o (T7o) ⟨⟨[(.bool true), (.int .u8 (w)), (.int .i64 ((↑found : Int))), (.int .i64 ((2 : Int))), (.int .i64 (bits BinOp.and IntKind.i64 (IntKind.i64.wrap b) (IntKind.i64.wrap (IntKind.i64.wrap ((1 : Int) * (2 : Int) ^ n) - (1 : Int))))), (.bool true), (.int .i64 ((↑n : Int))), (.int .i64 ((0 : Int))), (.int .i64 (p))], [⟨(n), (c)⟩]⟩, [(mvs n f)], []⟩ (.exit ((0 : Nat))) (T7o) ⟨⟨[(.bool true), (.int .u8 (w)), (.int .i64 ((↑found : Int))), (.int .i64 ((2 : Int))), (.int .i64 ((↑own : Int))), (.bool (ap)), (.int .i64 ((↑n : Int))), (.int .i64 ((↑n : Int))), (.int .i64 (p))], [⟨(n), (c)⟩]⟩, [(mvs n f)], []⟩) ∧ 
(((ap) = true → ((ConOK Try.prog ((29 : Nat)) (C29 own)) ∧ (Con.pre (C29 own) ⟨⟨[(.int .i64 ((↑own : Int)))], []⟩, []⟩) ∧ 
((ConOK Try.prog ((29 : Nat)) (C29 found)) ∧ (Con.pre (C29 found) ⟨⟨[(.int .i64 ((↑found : Int)))], []⟩, []⟩) ∧ 
(((decide ((↑(popN own) : Int) > (↑(popN found) : Int))) = true → R (.ret (.bool false))) ∧
((decide ((↑(popN own) : Int) > (↑(popN found) : Int))) = false → ((ConOK Try.prog ((29 : Nat)) (C29 own)) ∧ (Con.pre (C29 own) ⟨⟨[(.int .i64 ((↑own : Int)))], []⟩, []⟩) ∧ 
((ConOK Try.prog ((29 : Nat)) (C29 found)) ∧ (Con.pre (C29 found) ⟨⟨[(.int .i64 ((↑found : Int)))], []⟩, []⟩) ∧ 
((((↑(popN own) : Int) == (↑(popN found) : Int)) = true → (((decide ((↑own : Int) < (↑found : Int))) = true → R (.ret (.bool false))) ∧
((decide ((↑own : Int) < (↑found : Int))) = false → ((((↑n : Int) == (0 : Int)) = true → ((((↑found : Int) == (0 : Int)) = true → ((ConOK Try.prog ((12 : Nat)) (C12)) ∧ (Con.pre (C12) ⟨⟨[], []⟩, []⟩) ∧ 
R (.ret (.bool true)))) ∧
(((↑found : Int) == (0 : Int)) = false → R (.ret (.bool false))))) ∧
(((↑n : Int) == (0 : Int)) = false → ((((((↑n : Int) ≠ (0 : Int))) ∧ ((IntKind.i64 = IntKind.i64))) ∧ (((.int .i64 ((↑i : Int))) : Value) = (.int .i64 ((IntKind.i64.wrap w).tmod (↑n : Int))))) ∧
((((((0 : Int) ≤ (↑i : Int))) ∧ (((↑i : Int) ≤ (↑c : Int)))) ∧ (((.slice (.some ⟨0, 0, .none⟩) (i) (c)) : Value) = (.slice (.some ⟨0, 0, .none⟩) (i) (c)))) ∧
((((((0 : Int) ≤ IntKind.i64.wrap ((↑i : Int) + (1 : Int)))) ∧ (((IntKind.i64.wrap ((↑i : Int) + (1 : Int)) ≤ (↑n : Int))) ∧ (((↑n : Int) ≤ (↑c : Int))))) ∧ (((.slice (.some ⟨((0 : Nat)), ((i + (1 : Nat)) * (4 : Nat)), .none⟩) ((0 : Nat)) (c - (i + (1 : Nat)))) : Value) = (.slice (.some ⟨((0 : Nat)), ((0 : Nat) + (IntKind.i64.wrap ((↑i : Int) + (1 : Int))).toNat * (4 : Nat)), .none⟩) (n - (IntKind.i64.wrap ((↑i : Int) + (1 : Int))).toNat) (c - (IntKind.i64.wrap ((↑i : Int) + (1 : Int))).toNat)))) ∧
(((((((0 : Nat) < i)) ∧ (((0 : Nat) + i * (4 : Nat) ≤ (mvs n f).length))) ∧ (((List.take (i * (4 : Nat)) (List.drop (0 : Nat) (mvs n f))).all one = true))) ∧ (((¬(0 : Nat) + i ≤ (0 : Nat))) ∧ ((((0 : Nat) = (0 : Nat))) ∧ (((((0 : Nat) + i) * (32 : Nat) ≤ (140737488355328 : Nat))) ∧ (((0 : Nat) + i ≤ (4611686018427387904 : Nat))))))) ∧ 
(((((((0 : Int) ≤ IntKind.i64.wrap ((↑i : Int) + (1 : Int)))) ∧ (((IntKind.i64.wrap ((↑i : Int) + (1 : Int)) ≤ (↑n : Int))) ∧ (((↑n : Int) ≤ (↑c : Int))))) ∧ (((.slice (.some ⟨((0 : Nat)), ((i + (1 : Nat)) * (4 : Nat)), .none⟩) ((0 : Nat)) (c - (i + (1 : Nat)))) : Value) = (.slice (.some ⟨((0 : Nat)), ((0 : Nat) + (IntKind.i64.wrap ((↑i : Int) + (1 : Int))).toNat * (4 : Nat)), .none⟩) (n - (IntKind.i64.wrap ((↑i : Int) + (1 : Int))).toNat) (c - (IntKind.i64.wrap ((↑i : Int) + (1 : Int))).toNat)))) ∧ ((((some (.slice (.some ⟨0, 0, .none⟩) (n) (c)) : Option Value) = some (.slice (.some ⟨0, 0, .none⟩) (n) (c)))) ∧ (True))) ∧ 
(((((0 : Nat) = (0 : Nat))) ∧ (((i + (1 : Nat)) * (4 : Nat) + (0 : Nat) ≤ (mvs n f).length))) ∧ 
((ConNOK Try.prog ((24 : Nat)) (C24c true p n c (mvs n f) many pl)) ∧ (ConN.pre (C24c true p n c (mvs n f) many pl) ⟨⟨[(.int .i64 (p)), (.bool true)], [⟨(n), (c)⟩]⟩, [(mvs n f)]⟩) ∧ 
((ConNOK Try.prog ((24 : Nat)) (C24c true p n2 n2 ms2 many2 pl2)) ∧ (ConN.pre (C24c true p n2 n2 ms2 many2 pl2) ⟨⟨[(.int .i64 (p)), (.bool true)], [⟨((0 : Nat) + i), ((0 : Nat) + i)⟩]⟩, [([] ++ (List.take (i * (4 : Nat)) (List.drop ((0 : Nat)) (mvs n f))))]⟩) ∧ 
((ConOK Try.prog ((29 : Nat)) (C29 found)) ∧ (Con.pre (C29 found) ⟨⟨[(.int .i64 ((↑found : Int)))], []⟩, []⟩) ∧ 
((((↑many : Int) == (↑(popN found) : Int)) = true → (((decide ((↑many2 : Int) ≤ (↑many : Int))) = true → (((decide ((↑many2 : Int) ≥ IntKind.i64.wrap ((↑many : Int) - (1 : Int)))) = true → ((((((0 : Int) ≤ (↑i : Int))) ∧ (((↑i : Int) ≤ (↑(64 : Nat) : Int)))) ∧ (((.int .i64 ((↑found : Int) / (2 : Int) ^ i)) : Value) = (.int .i64 ((↑found : Int) / (2 : Int) ^ i)))) ∧
(((bits BinOp.and IntKind.i64 ((↑found : Int) / (2 : Int) ^ i) (1 : Int) == (1 : Int)) = true → ((ConOK Try.prog ((12 : Nat)) (C12)) ∧ (Con.pre (C12) ⟨⟨[], []⟩, []⟩) ∧ 
R (.ret (.bool true)))) ∧
((bits BinOp.and IntKind.i64 ((↑found : Int) / (2 : Int) ^ i) (1 : Int) == (1 : Int)) = false → ((((↑many2 : Int) == (↑many : Int)) = true → ((ConOK Try.prog ((12 : Nat)) (C12)) ∧ (Con.pre (C12) ⟨⟨[], []⟩, []⟩) ∧ 
R (.ret (.bool true)))) ∧
(((↑many2 : Int) == (↑many : Int)) = false → R (.ret (.bool false)))))))) ∧
((decide ((↑many2 : Int) ≥ IntKind.i64.wrap ((↑many : Int) - (1 : Int)))) = false → R (.ret (.bool false))))) ∧
((decide ((↑many2 : Int) ≤ (↑many : Int))) = false → R (.ret (.bool false))))) ∧
(((↑many : Int) == (↑(popN found) : Int)) = false → R (.ret (.bool false)))))))))))))))))) ∧
(((↑(popN own) : Int) == (↑(popN found) : Int)) = false → ((((↑n : Int) == (0 : Int)) = true → ((((↑found : Int) == (0 : Int)) = true → ((ConOK Try.prog ((12 : Nat)) (C12)) ∧ (Con.pre (C12) ⟨⟨[], []⟩, []⟩) ∧ 
R (.ret (.bool true)))) ∧
(((↑found : Int) == (0 : Int)) = false → R (.ret (.bool false))))) ∧
(((↑n : Int) == (0 : Int)) = false → ((((((↑n : Int) ≠ (0 : Int))) ∧ ((IntKind.i64 = IntKind.i64))) ∧ (((.int .i64 ((↑i : Int))) : Value) = (.int .i64 ((IntKind.i64.wrap w).tmod (↑n : Int))))) ∧
((((((0 : Int) ≤ (↑i : Int))) ∧ (((↑i : Int) ≤ (↑c : Int)))) ∧ (((.slice (.some ⟨0, 0, .none⟩) (i) (c)) : Value) = (.slice (.some ⟨0, 0, .none⟩) (i) (c)))) ∧
((((((0 : Int) ≤ IntKind.i64.wrap ((↑i : Int) + (1 : Int)))) ∧ (((IntKind.i64.wrap ((↑i : Int) + (1 : Int)) ≤ (↑n : Int))) ∧ (((↑n : Int) ≤ (↑c : Int))))) ∧ (((.slice (.some ⟨((0 : Nat)), ((i + (1 : Nat)) * (4 : Nat)), .none⟩) ((0 : Nat)) (c - (i + (1 : Nat)))) : Value) = (.slice (.some ⟨((0 : Nat)), ((0 : Nat) + (IntKind.i64.wrap ((↑i : Int) + (1 : Int))).toNat * (4 : Nat)), .none⟩) (n - (IntKind.i64.wrap ((↑i : Int) + (1 : Int))).toNat) (c - (IntKind.i64.wrap ((↑i : Int) + (1 : Int))).toNat)))) ∧
(((((((0 : Nat) < i)) ∧ (((0 : Nat) + i * (4 : Nat) ≤ (mvs n f).length))) ∧ (((List.take (i * (4 : Nat)) (List.drop (0 : Nat) (mvs n f))).all one = true))) ∧ (((¬(0 : Nat) + i ≤ (0 : Nat))) ∧ ((((0 : Nat) = (0 : Nat))) ∧ (((((0 : Nat) + i) * (32 : Nat) ≤ (140737488355328 : Nat))) ∧ (((0 : Nat) + i ≤ (4611686018427387904 : Nat))))))) ∧ 
(((((((0 : Int) ≤ IntKind.i64.wrap ((↑i : Int) + (1 : Int)))) ∧ (((IntKind.i64.wrap ((↑i : Int) + (1 : Int)) ≤ (↑n : Int))) ∧ (((↑n : Int) ≤ (↑c : Int))))) ∧ (((.slice (.some ⟨((0 : Nat)), ((i + (1 : Nat)) * (4 : Nat)), .none⟩) ((0 : Nat)) (c - (i + (1 : Nat)))) : Value) = (.slice (.some ⟨((0 : Nat)), ((0 : Nat) + (IntKind.i64.wrap ((↑i : Int) + (1 : Int))).toNat * (4 : Nat)), .none⟩) (n - (IntKind.i64.wrap ((↑i : Int) + (1 : Int))).toNat) (c - (IntKind.i64.wrap ((↑i : Int) + (1 : Int))).toNat)))) ∧ ((((some (.slice (.some ⟨0, 0, .none⟩) (n) (c)) : Option Value) = some (.slice (.some ⟨0, 0, .none⟩) (n) (c)))) ∧ (True))) ∧ 
(((((0 : Nat) = (0 : Nat))) ∧ (((i + (1 : Nat)) * (4 : Nat) + (0 : Nat) ≤ (mvs n f).length))) ∧ 
((ConNOK Try.prog ((24 : Nat)) (C24c true p n c (mvs n f) many pl)) ∧ (ConN.pre (C24c true p n c (mvs n f) many pl) ⟨⟨[(.int .i64 (p)), (.bool true)], [⟨(n), (c)⟩]⟩, [(mvs n f)]⟩) ∧ 
((ConNOK Try.prog ((24 : Nat)) (C24c true p n2 n2 ms2 many2 pl2)) ∧ (ConN.pre (C24c true p n2 n2 ms2 many2 pl2) ⟨⟨[(.int .i64 (p)), (.bool true)], [⟨((0 : Nat) + i), ((0 : Nat) + i)⟩]⟩, [([] ++ (List.take (i * (4 : Nat)) (List.drop ((0 : Nat)) (mvs n f))))]⟩) ∧ 
((ConOK Try.prog ((29 : Nat)) (C29 found)) ∧ (Con.pre (C29 found) ⟨⟨[(.int .i64 ((↑found : Int)))], []⟩, []⟩) ∧ 
((((↑many : Int) == (↑(popN found) : Int)) = true → (((decide ((↑many2 : Int) ≤ (↑many : Int))) = true → (((decide ((↑many2 : Int) ≥ IntKind.i64.wrap ((↑many : Int) - (1 : Int)))) = true → ((((((0 : Int) ≤ (↑i : Int))) ∧ (((↑i : Int) ≤ (↑(64 : Nat) : Int)))) ∧ (((.int .i64 ((↑found : Int) / (2 : Int) ^ i)) : Value) = (.int .i64 ((↑found : Int) / (2 : Int) ^ i)))) ∧
(((bits BinOp.and IntKind.i64 ((↑found : Int) / (2 : Int) ^ i) (1 : Int) == (1 : Int)) = true → ((ConOK Try.prog ((12 : Nat)) (C12)) ∧ (Con.pre (C12) ⟨⟨[], []⟩, []⟩) ∧ 
R (.ret (.bool true)))) ∧
((bits BinOp.and IntKind.i64 ((↑found : Int) / (2 : Int) ^ i) (1 : Int) == (1 : Int)) = false → ((((↑many2 : Int) == (↑many : Int)) = true → ((ConOK Try.prog ((12 : Nat)) (C12)) ∧ (Con.pre (C12) ⟨⟨[], []⟩, []⟩) ∧ 
R (.ret (.bool true)))) ∧
(((↑many2 : Int) == (↑many : Int)) = false → R (.ret (.bool false)))))))) ∧
((decide ((↑many2 : Int) ≥ IntKind.i64.wrap ((↑many : Int) - (1 : Int)))) = false → R (.ret (.bool false))))) ∧
((decide ((↑many2 : Int) ≤ (↑many : Int))) = false → R (.ret (.bool false))))) ∧
(((↑many : Int) == (↑(popN found) : Int)) = false → R (.ret (.bool false)))))))))))))))))))))))) ∧
((ap) = false → ((((↑n : Int) == (0 : Int)) = true → ((((↑found : Int) == (0 : Int)) = true → ((ConOK Try.prog ((12 : Nat)) (C12)) ∧ (Con.pre (C12) ⟨⟨[], []⟩, []⟩) ∧ 
R (.ret (.bool true)))) ∧
(((↑found : Int) == (0 : Int)) = false → R (.ret (.bool false))))) ∧
(((↑n : Int) == (0 : Int)) = false → ((((((↑n : Int) ≠ (0 : Int))) ∧ ((IntKind.i64 = IntKind.i64))) ∧ (((.int .i64 ((↑i : Int))) : Value) = (.int .i64 ((IntKind.i64.wrap w).tmod (↑n : Int))))) ∧
((((((0 : Int) ≤ (↑i : Int))) ∧ (((↑i : Int) ≤ (↑c : Int)))) ∧ (((.slice (.some ⟨0, 0, .none⟩) (i) (c)) : Value) = (.slice (.some ⟨0, 0, .none⟩) (i) (c)))) ∧
((((((0 : Int) ≤ IntKind.i64.wrap ((↑i : Int) + (1 : Int)))) ∧ (((IntKind.i64.wrap ((↑i : Int) + (1 : Int)) ≤ (↑n : Int))) ∧ (((↑n : Int) ≤ (↑c : Int))))) ∧ (((.slice (.some ⟨((0 : Nat)), ((i + (1 : Nat)) * (4 : Nat)), .none⟩) ((0 : Nat)) (c - (i + (1 : Nat)))) : Value) = (.slice (.some ⟨((0 : Nat)), ((0 : Nat) + (IntKind.i64.wrap ((↑i : Int) + (1 : Int))).toNat * (4 : Nat)), .none⟩) (n - (IntKind.i64.wrap ((↑i : Int) + (1 : Int))).toNat) (c - (IntKind.i64.wrap ((↑i : Int) + (1 : Int))).toNat)))) ∧
(((((((0 : Nat) < i)) ∧ (((0 : Nat) + i * (4 : Nat) ≤ (mvs n f).length))) ∧ (((List.take (i * (4 : Nat)) (List.drop (0 : Nat) (mvs n f))).all one = true))) ∧ (((¬(0 : Nat) + i ≤ (0 : Nat))) ∧ ((((0 : Nat) = (0 : Nat))) ∧ (((((0 : Nat) + i) * (32 : Nat) ≤ (140737488355328 : Nat))) ∧ (((0 : Nat) + i ≤ (4611686018427387904 : Nat))))))) ∧ 
(((((((0 : Int) ≤ IntKind.i64.wrap ((↑i : Int) + (1 : Int)))) ∧ (((IntKind.i64.wrap ((↑i : Int) + (1 : Int)) ≤ (↑n : Int))) ∧ (((↑n : Int) ≤ (↑c : Int))))) ∧ (((.slice (.some ⟨((0 : Nat)), ((i + (1 : Nat)) * (4 : Nat)), .none⟩) ((0 : Nat)) (c - (i + (1 : Nat)))) : Value) = (.slice (.some ⟨((0 : Nat)), ((0 : Nat) + (IntKind.i64.wrap ((↑i : Int) + (1 : Int))).toNat * (4 : Nat)), .none⟩) (n - (IntKind.i64.wrap ((↑i : Int) + (1 : Int))).toNat) (c - (IntKind.i64.wrap ((↑i : Int) + (1 : Int))).toNat)))) ∧ ((((some (.slice (.some ⟨0, 0, .none⟩) (n) (c)) : Option Value) = some (.slice (.some ⟨0, 0, .none⟩) (n) (c)))) ∧ (True))) ∧ 
(((((0 : Nat) = (0 : Nat))) ∧ (((i + (1 : Nat)) * (4 : Nat) + (0 : Nat) ≤ (mvs n f).length))) ∧ 
((ConNOK Try.prog ((24 : Nat)) (C24c true p n c (mvs n f) many pl)) ∧ (ConN.pre (C24c true p n c (mvs n f) many pl) ⟨⟨[(.int .i64 (p)), (.bool true)], [⟨(n), (c)⟩]⟩, [(mvs n f)]⟩) ∧ 
((ConNOK Try.prog ((24 : Nat)) (C24c true p n2 n2 ms2 many2 pl2)) ∧ (ConN.pre (C24c true p n2 n2 ms2 many2 pl2) ⟨⟨[(.int .i64 (p)), (.bool true)], [⟨((0 : Nat) + i), ((0 : Nat) + i)⟩]⟩, [([] ++ (List.take (i * (4 : Nat)) (List.drop ((0 : Nat)) (mvs n f))))]⟩) ∧ 
((ConOK Try.prog ((29 : Nat)) (C29 found)) ∧ (Con.pre (C29 found) ⟨⟨[(.int .i64 ((↑found : Int)))], []⟩, []⟩) ∧ 
((((↑many : Int) == (↑(popN found) : Int)) = true → (((decide ((↑many2 : Int) ≤ (↑many : Int))) = true → (((decide ((↑many2 : Int) ≥ IntKind.i64.wrap ((↑many : Int) - (1 : Int)))) = true → ((((((0 : Int) ≤ (↑i : Int))) ∧ (((↑i : Int) ≤ (↑(64 : Nat) : Int)))) ∧ (((.int .i64 ((↑found : Int) / (2 : Int) ^ i)) : Value) = (.int .i64 ((↑found : Int) / (2 : Int) ^ i)))) ∧
(((bits BinOp.and IntKind.i64 ((↑found : Int) / (2 : Int) ^ i) (1 : Int) == (1 : Int)) = true → ((ConOK Try.prog ((12 : Nat)) (C12)) ∧ (Con.pre (C12) ⟨⟨[], []⟩, []⟩) ∧ 
R (.ret (.bool true)))) ∧
((bits BinOp.and IntKind.i64 ((↑found : Int) / (2 : Int) ^ i) (1 : Int) == (1 : Int)) = false → ((((↑many2 : Int) == (↑many : Int)) = true → ((ConOK Try.prog ((12 : Nat)) (C12)) ∧ (Con.pre (C12) ⟨⟨[], []⟩, []⟩) ∧ 
R (.ret (.bool true)))) ∧
(((↑many2 : Int) == (↑many : Int)) = false → R (.ret (.bool false)))))))) ∧
((decide ((↑many2 : Int) ≥ IntKind.i64.wrap ((↑many : Int) - (1 : Int)))) = false → R (.ret (.bool false))))) ∧
((decide ((↑many2 : Int) ≤ (↑many : Int))) = false → R (.ret (.bool false))))) ∧
(((↑many : Int) == (↑(popN found) : Int)) = false → R (.ret (.bool false)))))))))))))))))))))))) := by kernel_rfl

theorem f7Df (p b w : Int) (n c i found own many n2 many2 : Nat) (ap : Bool) (f : Nat → Mv) (pl ms2 pl2 : List Value) (R : ARes → Prop) : (vx.call 7 [hV p n c, .bool false, .int .u8 b, .int .u8 w] (retK R) (m1 (mvs n f)) ([(17, .split ((7, Hint.con C12) :: []) ((4, Hint.con ((C21 p n c f).when (ARes.ret (Value.bool true)))) :: (6, Hint.con (C25 false p n c f found)) :: (16, .val (.int .i64 (IntKind.i64.wrap ((1 : Int) * (2 : Int) ^ n)))) :: (8, Hint.loopW T7o (AExit.exit (0 : Nat)) T7o fun x => st7o false w p n c f found (1 : Int) own ap n) :: [(4, .split ((3, Hint.con (C29 own)) :: (2, Hint.con (C29 found)) :: [(0, .split ([]) ((3, Hint.con (C29 own)) :: (2, Hint.con (C29 found)) :: [(0, .split ([(3, .split ([]) ([(8, .split ([(2, .split ((1, Hint.con C12) :: []) ([]))]) ((6, .val (.int .i64 ((↑i : Int)))) :: (7, .val (.slice (.some ⟨0, 0, .none⟩) (i) (c))) :: (4, .val (.slice (.some ⟨((0 : Nat)), ((i + (1 : Nat)) * (4 : Nat)), .none⟩) ((0 : Nat)) (c - (i + (1 : Nat))))) :: (0, Hint.growN) :: (0, Hint.again) :: (0, Hint.same) :: (4, Hint.conN (C24c false p n c (mvs n f) many pl)) :: (9, Hint.conN (C24c false p n2 n2 ms2 many2 pl2)) :: (17, Hint.con (C29 found)) :: [(0, .split ([(4, .split ([(5, .split ((4, .val (.int .i64 ((↑found : Int) / (2 : Int) ^ i))) :: [(1, .split ((4, Hint.con C12) :: []) ([(3, .split ((3, Hint.con C12) :: []) ([]))]))]) ([]))]) ([]))]) ([]))]))]))]) ([(9, .split ([(2, .split ((1, Hint.con C12) :: []) ([]))]) ((6, .val (.int .i64 ((↑i : Int)))) :: (7, .val (.slice (.some ⟨0, 0, .none⟩) (i) (c))) :: (4, .val (.slice (.some ⟨((0 : Nat)), ((i + (1 : Nat)) * (4 : Nat)), .none⟩) ((0 : Nat)) (c - (i + (1 : Nat))))) :: (0, Hint.growN) :: (0, Hint.again) :: (0, Hint.same) :: (4, Hint.conN (C24c false p n c (mvs n f) many pl)) :: (9, Hint.conN (C24c false p n2 n2 ms2 many2 pl2)) :: (17, Hint.con (C29 found)) :: [(0, .split ([(4, .split ([(5, .split ((4, .val (.int .i64 ((↑found : Int) / (2 : Int) ^ i))) :: [(1, .split ((4, Hint.con C12) :: []) ([(3, .split ((3, Hint.con C12) :: []) ([]))]))]) ([]))]) ([]))]) ([]))]))]))]))]) ([(7, .split ([(2, .split ((1, Hint.con C12) :: []) ([]))]) ((6, .val (.int .i64 ((↑i : Int)))) :: (7, .val (.slice (.some ⟨0, 0, .none⟩) (i) (c))) :: (4, .val (.slice (.some ⟨((0 : Nat)), ((i + (1 : Nat)) * (4 : Nat)), .none⟩) ((0 : Nat)) (c - (i + (1 : Nat))))) :: (0, Hint.growN) :: (0, Hint.again) :: (0, Hint.same) :: (4, Hint.conN (C24c false p n c (mvs n f) many pl)) :: (9, Hint.conN (C24c false p n2 n2 ms2 many2 pl2)) :: (17, Hint.con (C29 found)) :: [(0, .split ([(4, .split ([(5, .split ((4, .val (.int .i64 ((↑found : Int) / (2 : Int) ^ i))) :: [(1, .split ((4, Hint.con C12) :: []) ([(3, .split ((3, Hint.con C12) :: []) ([]))]))]) ([]))]) ([]))]) ([]))]))]))]))])) =
((((decide ((if (↑(0 : Nat) : Int) > (↑n : Int) then (↑(0 : Nat) : Int) else (↑n : Int)) > (40 : Int))) = true → ((ConOK Try.prog ((12 : Nat)) (C12)) ∧ (Con.pre (C12) ⟨⟨[], []⟩, []⟩) ∧ 
R (.ret (.bool true)))) ∧
((decide ((if (↑(0 : Nat) : Int) > (↑n : Int) then (↑(0 : Nat) : Int) else (↑n : Int)) > (40 : Int))) = false → ((ConOK Try.prog ((21 : Nat)) ((C21 p n c f).when (ARes.ret (Value.bool true)))) ∧ (Con.pre ((C21 p n c f).when (ARes.ret (Value.bool true))) ⟨⟨[(.int .i64 (p))], [⟨(n), (c)⟩]⟩, [(mvs n f)]⟩) ∧ 
((ConOK Try.prog ((25 : Nat)) (C25 false p n c f found)) ∧ (Con.pre (C25 false p n c f found) ⟨⟨[(.int .i64 (p)), (.bool false)], [⟨(n), (c)⟩]⟩, [(mvs n f)]⟩) ∧ 
((((((0 : Int) ≤ (↑n : Int))) ∧ (((↑n : Int) ≤ (↑(64 : Nat) : Int)))) ∧ (((.int .i64 (IntKind.i64.wrap ((1 : Int) * (2 : Int) ^ n))) : Value) = (.int .i64 (IntKind.i64.wrap ((1 : Int) * (2 : Int) ^ n))))) ∧
((ClW ⟨⟨[(.bool false), (.int .u8 (w)), (.int .i64 ((↑found : Int))), (.int .i64 ((1 : Int))), (.int .i64 (bits BinOp.and IntKind.i64 (IntKind.i64.wrap b) (IntKind.i64.wrap (IntKind.i64.wrap ((1 : Int) * (2 : Int) ^ n) - (1 : Int))))), (.bool true), (.int .i64 ((↑n : Int))), (.int .i64 ((0 : Int))), (.int .i64 (p))], [⟨(n), (c)⟩]⟩, [(mvs n f)], []⟩) ∧ (LoopOW Try.prog .none p7o (T7o) ⟨⟨[(.bool false), (.int .u8 (w)), (.int .i64 ((↑found : Int))), (.int .i64 ((1 : Int))), (.int .i64 (bits BinOp.and IntKind.i64 (IntKind.i64.wrap b) (IntKind.i64.wrap (IntKind.i64.wrap ((1 : Int) * (2 : Int) ^ n) - (1 : Int))))), (.bool true), (.int .i64 ((↑n : Int))), (.int .i64 ((0 : Int))), (.int .i64 (p))], [⟨(n), (c)⟩]⟩, [(mvs n f)], []⟩ (.exit ((0 : Nat))) (T7o) ⟨⟨[(.bool false), (.int .u8 (w)), (.int .i64 ((↑found : Int))), (.int .i64 ((1 : Int))), (.int .i64 ((↑own : Int))), (.bool (ap)), (.int .i64 ((↑n : Int))), (.int .i64 ((↑n : Int))), (.int .i64 (p))], [⟨(n), (c)⟩]⟩, [(mvs n f)], []⟩) ∧ 
(((ap) = true → ((ConOK Try.prog ((29 : Nat)) (C29 own)) ∧ (Con.pre (C29 own) ⟨⟨[(.int .i64 ((↑own : Int)))], []⟩, []⟩) ∧ 
((ConOK Try.prog ((29 : Nat)) (C29 found)) ∧ (Con.pre (C29 found) ⟨⟨[(.int .i64 ((↑found : Int)))], []⟩, []⟩) ∧ 
(((decide ((↑(popN own) : Int) > (↑(popN found) : Int))) = true → R (.ret (.bool false))) ∧
((decide ((↑(popN own) : Int) > (↑(popN found) : Int))) = false → ((ConOK Try.prog ((29 : Nat)) (C29 own)) ∧ (Con.pre (C29 own) ⟨⟨[(.int .i64 ((↑own : Int)))], []⟩, []⟩) ∧ 
((ConOK Try.prog ((29 : Nat)) (C29 found)) ∧ (Con.pre (C29 found) ⟨⟨[(.int .i64 ((↑found : Int)))], []⟩, []⟩) ∧ 
((((↑(popN own) : Int) == (↑(popN found) : Int)) = true → (((decide ((↑own : Int) < (↑found : Int))) = true → R (.ret (.bool false))) ∧
((decide ((↑own : Int) < (↑found : Int))) = false → ((((↑n : Int) == (0 : Int)) = true → ((((↑found : Int) == (0 : Int)) = true → ((ConOK Try.prog ((12 : Nat)) (C12)) ∧ (Con.pre (C12) ⟨⟨[], []⟩, []⟩) ∧ 
R (.ret (.bool true)))) ∧
(((↑found : Int) == (0 : Int)) = false → R (.ret (.bool false))))) ∧
(((↑n : Int) == (0 : Int)) = false → ((((((↑n : Int) ≠ (0 : Int))) ∧ ((IntKind.i64 = IntKind.i64))) ∧ (((.int .i64 ((↑i : Int))) : Value) = (.int .i64 ((IntKind.i64.wrap w).tmod (↑n : Int))))) ∧
((((((0 : Int) ≤ (↑i : Int))) ∧ (((↑i : Int) ≤ (↑c : Int)))) ∧ (((.slice (.some ⟨0, 0, .none⟩) (i) (c)) : Value) = (.slice (.some ⟨0, 0, .none⟩) (i) (c)))) ∧
((((((0 : Int) ≤ IntKind.i64.wrap ((↑i : Int) + (1 : Int)))) ∧ (((IntKind.i64.wrap ((↑i : Int) + (1 : Int)) ≤ (↑n : Int))) ∧ (((↑n : Int) ≤ (↑c : Int))))) ∧ (((.slice (.some ⟨((0 : Nat)), ((i + (1 : Nat)) * (4 : Nat)), .none⟩) ((0 : Nat)) (c - (i + (1 : Nat)))) : Value) = (.slice (.some ⟨((0 : Nat)), ((0 : Nat) + (IntKind.i64.wrap ((↑i : Int) + (1 : Int))).toNat * (4 : Nat)), .none⟩) (n - (IntKind.i64.wrap ((↑i : Int) + (1 : Int))).toNat) (c - (IntKind.i64.wrap ((↑i : Int) + (1 : Int))).toNat)))) ∧
(((((((0 : Nat) < i)) ∧ (((0 : Nat) + i * (4 : Nat) ≤ (mvs n f).length))) ∧ (((List.take (i * (4 : Nat)) (List.drop (0 : Nat) (mvs n f))).all one = true))) ∧ (((¬(0 : Nat) + i ≤ (0 : Nat))) ∧ ((((0 : Nat) = (0 : Nat))) ∧ (((((0 : Nat) + i) * (32 : Nat) ≤ (140737488355328 : Nat))) ∧ (((0 : Nat) + i ≤ (4611686018427387904 : Nat))))))) ∧ 
(((((((0 : Int) ≤ IntKind.i64.wrap ((↑i : Int) + (1 : Int)))) ∧ (((IntKind.i64.wrap ((↑i : Int) + (1 : Int)) ≤ (↑n : Int))) ∧ (((↑n : Int) ≤ (↑c : Int))))) ∧ (((.slice (.some ⟨((0 : Nat)), ((i + (1 : Nat)) * (4 : Nat)), .none⟩) ((0 : Nat)) (c - (i + (1 : Nat)))) : Value) = (.slice (.some ⟨((0 : Nat)), ((0 : Nat) + (IntKind.i64.wrap ((↑i : Int) + (1 : Int))).toNat * (4 : Nat)), .none⟩) (n - (IntKind.i64.wrap ((↑i : Int) + (1 : Int))).toNat) (c - (IntKind.i64.wrap ((↑i : Int) + (1 : Int))).toNat)))) ∧ ((((some (.slice (.some ⟨0, 0, .none⟩) (n) (c)) : Option Value) = some (.slice (.some ⟨0, 0, .none⟩) (n) (c)))) ∧ (True))) ∧ 
(((((0 : Nat) = (0 : Nat))) ∧ (((i + (1 : Nat)) * (4 : Nat) + (0 : Nat) ≤ (mvs n f).length))) ∧ 
((ConNOK Try.prog ((24 : Nat)) (C24c false p n c (mvs n f) many pl)) ∧ (ConN.pre (C24c false p n c (mvs n f) many pl) ⟨⟨[(.int .i64 (p)), (.bool false)], [⟨(n), (c)⟩]⟩, [(mvs n f)]⟩) ∧ 
((ConNOK Try.prog ((24 : Nat)) (C24c false p n2 n2 ms2 many2 pl2)) ∧ (ConN.pre (C24c false p n2 n2 ms2 many2 pl2) ⟨⟨[(.int .i64 (p)), (.bool false)], [⟨((0 : Nat) + i), ((0 : Nat) + i)⟩]⟩, [([] ++ (List.take (i * (4 : Nat)) (List.drop ((0 : Nat)) (mvs n f))))]⟩) ∧ 
((ConOK Try.prog ((29 : Nat)) (C29 found)) ∧ (Con.pre (C29 found) ⟨⟨[(.int .i64 ((↑found : Int)))], []⟩, []⟩) ∧ 
((((↑many : Int) == (↑(popN found) : Int)) = true → (((decide ((↑many2 : Int) ≤ (↑many : Int))) = true → (((decide ((↑many2 : Int) ≥ IntKind.i64.wrap ((↑many : Int) - (1 : Int)))) = true → ((((((0 : Int) ≤ (↑i : Int))) ∧ (((↑i : Int) ≤ (↑(64 : Nat) : Int)))) ∧ (((.int .i64 ((↑found : Int) / (2 : Int) ^ i)) : Value) = (.int .i64 ((↑found : Int) / (2 : Int) ^ i)))) ∧
(((bits BinOp.and IntKind.i64 ((↑found : Int) / (2 : Int) ^ i) (1 : Int) == (1 : Int)) = true → ((ConOK Try.prog ((12 : Nat)) (C12)) ∧ (Con.pre (C12) ⟨⟨[], []⟩, []⟩) ∧ 
R (.ret (.bool true)))) ∧
((bits BinOp.and IntKind.i64 ((↑found : Int) / (2 : Int) ^ i) (1 : Int) == (1 : Int)) = false → ((((↑many2 : Int) == (↑many : Int)) = true → ((ConOK Try.prog ((12 : Nat)) (C12)) ∧ (Con.pre (C12) ⟨⟨[], []⟩, []⟩) ∧ 
R (.ret (.bool true)))) ∧
(((↑many2 : Int) == (↑many : Int)) = false → R (.ret (.bool false)))))))) ∧
((decide ((↑many2 : Int) ≥ IntKind.i64.wrap ((↑many : Int) - (1 : Int)))) = false → R (.ret (.bool false))))) ∧
((decide ((↑many2 : Int) ≤ (↑many : Int))) = false → R (.ret (.bool false))))) ∧
(((↑many : Int) == (↑(popN found) : Int)) = false → R (.ret (.bool false)))))))))))))))))) ∧
(((↑(popN own) : Int) == (↑(popN found) : Int)) = false → ((((↑n : Int) == (0 : Int)) = true → ((((↑found : Int) == (0 : Int)) = true → ((ConOK Try.prog ((12 : Nat)) (C12)) ∧ (Con.pre (C12) ⟨⟨[], []⟩, []⟩) ∧ 
R (.ret (.bool true)))) ∧
(((↑found : Int) == (0 : Int)) = false → R (.ret (.bool false))))) ∧
(((↑n : Int) == (0 : Int)) = false → ((((((↑n : Int) ≠ (0 : Int))) ∧ ((IntKind.i64 = IntKind.i64))) ∧ (((.int .i64 ((↑i : Int))) : Value) = (.int .i64 ((IntKind.i64.wrap w).tmod (↑n : Int))))) ∧
((((((0 : Int) ≤ (↑i : Int))) ∧ (((↑i : Int) ≤ (↑c : Int)))) ∧ (((.slice (.some ⟨0, 0, .none⟩) (i) (c)) : Value) = (.slice (.some ⟨0, 0, .none⟩) (i) (c)))) ∧
((((((0 : Int) ≤ IntKind.i64.wrap ((↑i : Int) + (1 : Int)))) ∧ (((IntKind.i64.wrap ((↑i : Int) + (1 : Int)) ≤ (↑n : Int))) ∧ (((↑n : Int) ≤ (↑c : Int))))) ∧ (((.slice (.some ⟨((0 : Nat)), ((i + (1 : Nat)) * (4 : Nat)), .none⟩) ((0 : Nat)) (c - (i + (1 : Nat)))) : Value) = (.slice (.some ⟨((0 : Nat)), ((0 : Nat) + (IntKind.i64.wrap ((↑i : Int) + (1 : Int))).toNat * (4 : Nat)), .none⟩) (n - (IntKind.i64.wrap ((↑i : Int) + (1 : Int))).toNat) (c - (IntKind.i64.wrap ((↑i : Int) + (1 : Int))).toNat)))) ∧
(((((((0 : Nat) < i)) ∧ (((0 : Nat) + i * (4 : Nat) ≤ (mvs n f).length))) ∧ (((List.take (i * (4 : Nat)) (List.drop (0 : Nat) (mvs n f))).all one = true))) ∧ (((¬(0 : Nat) + i ≤ (0 : Nat))) ∧ ((((0 : Nat) = (0 : Nat))) ∧ (((((0 : Nat) + i) * (32 : Nat) ≤ (140737488355328 : Nat))) ∧ (((0 : Nat) + i ≤ (4611686018427387904 : Nat))))))) ∧ 
(((((((0 : Int) ≤ IntKind.i64.wrap ((↑i : Int) + (1 : Int)))) ∧ (((IntKind.i64.wrap ((↑i : Int) + (1 : Int)) ≤ (↑n : Int))) ∧ (((↑n : Int) ≤ (↑c : Int))))) ∧ (((.slice (.some ⟨((0 : Nat)), ((i + (1 : Nat)) * (4 : Nat)), .none⟩) ((0 : Nat)) (c - (i + (1 : Nat)))) : Value) = (.slice (.some ⟨((0 : Nat)), ((0 : Nat) + (IntKind.i64.wrap ((↑i : Int) + (1 : Int))).toNat * (4 : Nat)), .none⟩) (n - (IntKind.i64.wrap ((↑i : Int) + (1 : Int))).toNat) (c - (IntKind.i64.wrap ((↑i : Int) + (1 : Int))).toNat)))) ∧ ((((some (.slice (.some ⟨0, 0, .none⟩) (n) (c)) : Option Value) = some (.slice (.some ⟨0, 0, .none⟩) (n) (c)))) ∧ (True))) ∧ 
(((((0 : Nat) = (0 : Nat))) ∧ (((i + (1 : Nat)) * (4 : Nat) + (0 : Nat) ≤ (mvs n f).length))) ∧ 
((ConNOK Try.prog ((24 : Nat)) (C24c false p n c (mvs n f) many pl)) ∧ (ConN.pre (C24c false p n c (mvs n f) many pl) ⟨⟨[(.int .i64 (p)), (.bool false)], [⟨(n), (c)⟩]⟩, [(mvs n f)]⟩) ∧ 
((ConNOK Try.prog ((24 : Nat)) (C24c false p n2 n2 ms2 many2 pl2)) ∧ (ConN.pre (C24c false p n2 n2 ms2 many2 pl2) ⟨⟨[(.int .i64 (p)), (.bool false)], [⟨((0 : Nat) + i), ((0 : Nat) + i)⟩]⟩, [([] ++ (List.take (i * (4 : Nat)) (List.drop ((0 : Nat)) (mvs n f))))]⟩) ∧ 
((ConOK Try.prog ((29 : Nat)) (C29 found)) ∧ (Con.pre (C29 found) ⟨⟨[(.int .i64 ((↑found : Int)))], []⟩, []⟩) ∧ 
((((↑many : Int) == (↑(popN found) : Int)) = true → (((decide ((↑many2 : Int) ≤ (↑many : Int))) = true → (((decide ((↑many2 : Int) ≥ IntKind.i64.wrap ((↑many : Int) - (1 : Int)))) = true → ((((((0 : Int) ≤ (↑i : Int))) ∧ (((↑i : Int) ≤ (↑(64 : Nat) : Int)))) ∧ (((.int .i64 ((↑found : Int) / (2 : Int) ^ i)) : Value) = (.int .i64 ((↑found : Int) / (2 : Int) ^ i)))) ∧
(((bits BinOp.and IntKind.i64 ((↑found : Int) / (2 : Int) ^ i) (1 : Int) == (1 : Int)) = true → ((ConOK Try.prog ((12 : Nat)) (C12)) ∧ (Con.pre (C12) ⟨⟨[], []⟩, []⟩) ∧ 
R (.ret (.bool true)))) ∧
((bits BinOp.and IntKind.i64 ((↑found : Int) / (2 : Int) ^ i) (1 : Int) == (1 : Int)) = false → ((((↑many2 : Int) == (↑many : Int)) = true → ((ConOK Try.prog ((12 : Nat)) (C12)) ∧ (Con.pre (C12) ⟨⟨[], []⟩, []⟩) ∧ 
R (.ret (.bool true)))) ∧
(((↑many2 : Int) == (↑many : Int)) = false → R (.ret (.bool false)))))))) ∧
((decide ((↑many2 : Int) ≥ IntKind.i64.wrap ((↑many : Int) - (1 : Int)))) = false → R (.ret (.bool false))))) ∧
((decide ((↑many2 : Int) ≤ (↑many : Int))) = false → R (.ret (.bool false))))) ∧
(((↑many : Int) == (↑(popN found) : Int)) = false → R (.ret (.bool false)))))))))))))))))))))))) ∧
((ap) = false → ((((↑n : Int) == (0 : Int)) = true → ((((↑found : Int) == (0 : Int)) = true → ((ConOK Try.prog ((12 : Nat)) (C12)) ∧ (Con.pre (C12) ⟨⟨[], []⟩, []⟩) ∧ 
R (.ret (.bool true)))) ∧
(((↑found : Int) == (0 : Int)) = false → R (.ret (.bool false))))) ∧
(((↑n : Int) == (0 : Int)) = false → ((((((↑n : Int) ≠ (0 : Int))) ∧ ((IntKind.i64 = IntKind.i64))) ∧ (((.int .i64 ((↑i : Int))) : Value) = (.int .i64 ((IntKind.i64.wrap w).tmod (↑n : Int))))) ∧
((((((0 : Int) ≤ (↑i : Int))) ∧ (((↑i : Int) ≤ (↑c : Int)))) ∧ (((.slice (.some ⟨0, 0, .none⟩) (i) (c)) : Value) = (.slice (.some ⟨0, 0, .none⟩) (i) (c)))) ∧
((((((0 : Int) ≤ IntKind.i64.wrap ((↑i : Int) + (1 : Int)))) ∧ (((IntKind.i64.wrap ((↑i : Int) + (1 : Int)) ≤ (↑n : Int))) ∧ (((↑n : Int) ≤ (↑c : Int))))) ∧ (((.slice (.some ⟨((0 : Nat)), ((i + (1 : Nat)) * (4 : Nat)), .none⟩) ((0 : Nat)) (c - (i + (1 : Nat)))) : Value) = (.slice (.some ⟨((0 : Nat)), ((0 : Nat) + (IntKind.i64.wrap ((↑i : Int) + (1 : Int))).toNat * (4 : Nat)), .none⟩) (n - (IntKind.i64.wrap ((↑i : Int) + (1 : Int))).toNat) (c - (IntKind.i64.wrap ((↑i : Int) + (1 : Int))).toNat)))) ∧
(((((((0 : Nat) < i)) ∧ (((0 : Nat) + i * (4 : Nat) ≤ (mvs n f).length))) ∧ (((List.take (i * (4 : Nat)) (List.drop (0 : Nat) (mvs n f))).all one = true))) ∧ (((¬(0 : Nat) + i ≤ (0 : Nat))) ∧ ((((0 : Nat) = (0 : Nat))) ∧ (((((0 : Nat) + i) * (32 : Nat) ≤ (140737488355328 : Nat))) ∧ (((0 : Nat) + i ≤ (4611686018427387904 : Nat))))))) ∧ 
(((((((0 : Int) ≤ IntKind.i64.wrap ((↑i : Int) + (1 : Int)))) ∧ (((IntKind.i64.wrap ((↑i : Int) + (1 : Int)) ≤ (↑n : Int))) ∧ (((↑n : Int) ≤ (↑c : Int))))) ∧ (((.slice (.some ⟨((0 : Nat)), ((i + (1 : Nat)) * (4 : Nat)), .none⟩) ((0 : Nat)) (c - (i + (1 : Nat)))) : Value) = (.slice (.some ⟨((0 : Nat)), ((0 : Nat) + (IntKind.i64.wrap ((↑i : Int) + (1 : Int))).toNat * (4 : Nat)), .none⟩) (n - (IntKind.i64.wrap ((↑i : Int) + (1 : Int))).toNat) (c - (IntKind.i64.wrap ((↑i : Int) + (1 : Int))).toNat)))) ∧ ((((some (.slice (.some ⟨0, 0, .none⟩) (n) (c)) : Option Value) = some (.slice (.some ⟨0, 0, .none⟩) (n) (c)))) ∧ (True))) ∧ 
(((((0 : Nat) = (0 : Nat))) ∧ (((i + (1 : Nat)) * (4 : Nat) + (0 : Nat) ≤ (mvs n f).length))) ∧ 
((ConNOK Try.prog ((24 : Nat)) (C24c false p n c (mvs n f) many pl)) ∧ (ConN.pre (C24c false p n c (mvs n f) many pl) ⟨⟨[(.int .i64 (p)), (.bool false)], [⟨(n), (c)⟩]⟩, [(mvs n f)]⟩) ∧ 
((ConNOK Try.prog ((24 : Nat)) (C24c false p n2 n2 ms2 many2 pl2)) ∧ (ConN.pre (C24c false p n2 n2 ms2 many2 pl2) ⟨⟨[(.int .i64 (p)), (.bool false)], [⟨((0 : Nat) + i), ((0 : Nat) + i)⟩]⟩, [([] ++ (List.take (i * (4 : Nat)) (List.drop ((0 : Nat)) (mvs n f))))]⟩) ∧ 
((ConOK Try.prog ((29 : Nat)) (C29 found)) ∧ (Con.pre (C29 found) ⟨⟨[(.int .i64 ((↑found : Int)))], []⟩, []⟩) ∧ 
((((↑many : Int) == (↑(popN found) : Int)) = true → (((decide ((↑many2 : Int) ≤ (↑many : Int))) = true → (((decide ((↑many2 : Int) ≥ IntKind.i64.wrap ((↑many : Int) - (1 : Int)))) = true → ((((((0 : Int) ≤ (↑i : Int))) ∧ (((↑i : Int) ≤ (↑(64 : Nat) : Int)))) ∧ (((.int .i64 ((↑found : Int) / (2 : Int) ^ i)) : Value) = (.int .i64 ((↑found : Int) / (2 : Int) ^ i)))) ∧
(((bits BinOp.and IntKind.i64 ((↑found : Int) / (2 : Int) ^ i) (1 : Int) == (1 : Int)) = true → ((ConOK Try.prog ((12 : Nat)) (C12)) ∧ (Con.pre (C12) ⟨⟨[], []⟩, []⟩) ∧ 
R (.ret (.bool true)))) ∧
((bits BinOp.and IntKind.i64 ((↑found : Int) / (2 : Int) ^ i) (1 : Int) == (1 : Int)) = false → ((((↑many2 : Int) == (↑many : Int)) = true → ((ConOK Try.prog ((12 : Nat)) (C12)) ∧ (Con.pre (C12) ⟨⟨[], []⟩, []⟩) ∧ 
R (.ret (.bool true)))) ∧
(((↑many2 : Int) == (↑many : Int)) = false → R (.ret (.bool false)))))))) ∧
((decide ((↑many2 : Int) ≥ IntKind.i64.wrap ((↑many : Int) - (1 : Int)))) = false → R (.ret (.bool false))))) ∧
((decide ((↑many2 : Int) ≤ (↑many : Int))) = false → R (.ret (.bool false))))) ∧
(((↑many : Int) == (↑(popN found) : Int)) = false → R (.ret (.bool false)))))))))))))))))))))))) := by kernel_rfl

theorem law7Dt (p b w : Int) (n c : Nat) (i : Nat) (f : Nat → Mv) (hn : n = i + 1) (hi0 : 0 < i) (hc : n ≤ c) (hb : 0 ≤ b ∧ b < 256) (hw : (i : Int) = (IntKind.i64.wrap w).tmod (n : Int)) (hok : okH p n f = true) :
    ∃ hs, vx.call 7 [hV p n c, .bool true, .int .u8 b, .int .u8 w] (retK fun r => r = .ret (.bool true)) (m1 (mvs n f)) hs := by
  have hH := okH_iff hok
  have hn7 := hH.n7
  have hwhen : ConOK Try.prog 21 ((C21 p n c f).when (.ret (.bool true))) := con_when (C21_ok p n c f (by omega)) _
  have hr : (C21 p n c f).res ⟨⟨[I p], [(n, c)]⟩, [mvs n f]⟩ = .ret (.bool true) := by show ARes.ret (.bool (okH p n f)) = _; rw [hok]
  have h25 : ConOK Try.prog 25 (C25 true p n c f (proofH true p n f)) := C25_ok true hok hn7
  have h29o := C29_ok (own_128 b hn7)
  have h29f := C29_ok (proof_128 (p := p) (f := f) (sure := true) hn7)
  have hown := own_eq hb hn7
  have hl := loop7o (c := c) hok true w (proofH true p n f) 2 (ownN b n)
  have hcl := cl7o (p := p) (n := n) (c := c) (f := f) true w (proofH true p n f) 2 (ownN b n) true 0
  have hbest := own_best hH true b
  have h24 := C24c_ok (c := c) true hok hn7 (by omega)
  have e1 := proof_few (sure := true) hH
  have q7 := few_7 (p := p) (f := f) true hn7
  have hH2 : HOK p (i + 0) (dropF f i) := by
    have e : n = (i + 0) + 1 := by omega
    rw [e] at hH
    exact hok_drop hH i
  have hcells : [] ++ List.take (i * 4) (List.drop 0 (mvs n f)) = mvs (i + 0) (dropF f i) := by
      have := mvs_skip (i := i) (m := 0) f (by omega : n = i + 1 + 0)
      rw [Nat.zero_mul, List.take_zero, List.append_nil] at this
      rw [List.nil_append, List.drop_zero, mvs_take f (show i ≤ n by omega)]
      exact this
  have h24' : ConNOK Try.prog 24 (C24c true p (0 + i) (0 + i) ([] ++ List.take (i * 4) (List.drop 0 (mvs n f))) (fewH true p (i + 0) (dropF f i)) (planC true p (i + 0) (dropF f i))) := by
    rw [hcells]
    have e : (0 + i) = i + 0 := by omega
    rw [e]
    exact C24c_ok true (okH_of hH2) (by omega) (by omega)
  have e2 : fewH true p (i + 0) (dropF f i) ≤ fewH true p n f := by
    have e : n = (i + 0) + 1 := by omega
    rw [e] at hH ⊢
    exact drop_le hH (by omega)
  have e3 : fewH true p n f ≤ fewH true p (i + 0) (dropF f i) + (if (proofH true p n f).testBit i = true then 1 else 0) := by
    have e : n = (i + 0) + 1 := by omega
    rw [e] at hH ⊢
    exact drop_ge hH (by omega)
  have hbit : (bits BinOp.and IntKind.i64 (((proofH true p n f : Nat) : Int) / (2 : Int) ^ (i : Nat)) (1 : Int) == (1 : Int)) = (proofH true p n f).testBit i := hasI_mask _ _ (by have := proof_128 (p := p) (f := f) (sure := true) hn7; omega)
  have key : ∀ R : ARes → Prop, R (.ret (.bool true)) → ∃ hs, vx.call 7 [hV p n c, .bool true, .int .u8 b, .int .u8 w] (retK R) (m1 (mvs n f)) hs := by
    intro R hR
    have hwi : IntKind.i64.wrap ((i : Int) + 1) = ((i + 1 : Nat) : Int) := wrapI (by omega) (by omega)
    have hwa : IntKind.i64.wrap (((fewH true p n f : Nat) : Int) - 1) = ((fewH true p n f : Nat) : Int) - 1 := wrapI (by omega) (by omega)
    have hS2 : (Value.slice (some ⟨0, (i + 1) * 4, none⟩) 0 (c - (i + 1))) = .slice (some ⟨0, 0 + (i + 1) * 4, none⟩) (n - (i + 1)) (c - (i + 1)) := by
      rw [Nat.zero_add]; congr 1; omega
    have hnz : ((n : Int) ≠ 0) := by omega
    have hn0 : ¬ ((n : Int) == (0 : Int)) = true := by simp; omega
    generalize fewH true p n f = many at *
    generalize fewH true p (i + 0) (dropF f i) = many2 at *
    generalize proofH true p n f = found at *
    generalize hap : apO p n f 2 (ownN b n) n = ap at *
    have hbest : ap = true → popN (ownN b n) ≤ popN found ∧ (popN (ownN b n) = popN found → found ≤ ownN b n) := fun h => hbest (hap.trans h)
    have x1 : (((many : Nat) : Int) == ((popN found : Nat) : Int)) = false → False := fun h => by
      have := beq_eq_false_iff_ne.1 h
      omega
    have x2 : decide (((many2 : Nat) : Int) ≤ ((many : Nat) : Int)) = false → False := fun h => by
      have := of_decide_eq_false h
      omega
    have x3 : decide (((many2 : Nat) : Int) ≥ ((many : Nat) : Int) - 1) = false → False := fun h => by
      have := of_decide_eq_false h
      have : many ≤ many2 + 1 := Nat.le_trans e3 (by split <;> omega)
      omega
    have x4 : found.testBit i = false → (((many2 : Nat) : Int) == ((many : Nat) : Int)) = false → False := fun h1 h2 => by
      have := beq_eq_false_iff_ne.1 h2
      rw [h1] at e3
      simp only [Bool.false_eq_true, if_false, Nat.add_zero] at e3
      omega
    refine ⟨_, (f7Dt p b w n c i found (ownN b n) many (0 + i) many2 ap f (planC true p n f) ([] ++ List.take (i * 4) (List.drop 0 (mvs n f))) (planC true p (i + 0) (dropF f i)) R).mpr ?_⟩
    simp only [hown, hwi, Int.toNat_natCast, hwa, hbit]
    refine ⟨fun _ => ⟨C12_ok, rfl, hR⟩, fun _ => ⟨hwhen, ⟨rfl, hr⟩, h25, rfl, ⟨⟨by omega, by omega⟩, by first | exact rfl | exact trivial⟩, hcl, hl, fun ha => ⟨h29o, rfl, h29f, rfl, fun h => absurd (of_decide_eq_true h) (by have := (hbest ha).1; omega), fun _ => ⟨h29o, rfl, h29f, rfl, fun he => ⟨fun h => absurd (of_decide_eq_true h) (by have := (hbest ha).2 (by have := eq_of_beq he; omega); omega), fun _ => ?_⟩, fun _ => ?_⟩⟩, fun _ => ?_⟩⟩
    all_goals
      refine ⟨fun h => absurd h hn0, fun _ => ?_⟩
      repeat' (first | with_reducible apply And.intro | with_reducible intro)
      all_goals first
        | exact hnz
        | exact h24
        | exact h24'
        | exact h29f
        | exact C12_ok
        | exact hR
        | exact trivial
        | exact congrArg _ hw
        | exact hS2
        | exact ones_mvs n f _ _
        | omega
        | (rw [mvs_len]; omega)
        | rfl
        | (exfalso; rename_i h; exact x1 h)
        | (exfalso; rename_i h; exact x2 h)
        | (exfalso; rename_i h; exact x3 h)
        | (exfalso; rename_i h2 h; exact x4 h2 h)
  exact key _ rfl
theorem law7Df (p b w : Int) (n c : Nat) (i : Nat) (f : Nat → Mv) (hn : n = i + 1) (hi0 : 0 < i) (hc : n ≤ c) (hb : 0 ≤ b ∧ b < 256) (hw : (i : Int) = (IntKind.i64.wrap w).tmod (n : Int)) (hok : okH p n f = true) :
    ∃ hs, vx.call 7 [hV p n c, .bool false, .int .u8 b, .int .u8 w] (retK fun r => r = .ret (.bool true)) (m1 (mvs n f)) hs := by
  have hH := okH_iff hok
  have hn7 := hH.n7
  have hwhen : ConOK Try.prog 21 ((C21 p n c f).when (.ret (.bool true))) := con_when (C21_ok p n c f (by omega)) _
  have hr : (C21 p n c f).res ⟨⟨[I p], [(n, c)]⟩, [mvs n f]⟩ = .ret (.bool true) := by show ARes.ret (.bool (okH p n f)) = _; rw [hok]
  have h25 : ConOK Try.prog 25 (C25 false p n c f (proofH false p n f)) := C25_ok false hok hn7
  have h29o := C29_ok (own_128 b hn7)
  have h29f := C29_ok (proof_128 (p := p) (f := f) (sure := false) hn7)
  have hown := own_eq hb hn7
  have hl := loop7o (c := c) hok false w (proofH false p n f) 1 (ownN b n)
  have hcl := cl7o (p := p) (n := n) (c := c) (f := f) false w (proofH false p n f) 1 (ownN b n) true 0
  have hbest := own_best hH false b
  have h24 := C24c_ok (c := c) false hok hn7 (by omega)
  have e1 := proof_few (sure := false) hH
  have q7 := few_7 (p := p) (f := f) false hn7
  have hH2 : HOK p (i + 0) (dropF f i) := by
    have e : n = (i + 0) + 1 := by omega
    rw [e] at hH
    exact hok_drop hH i
  have hcells : [] ++ List.take (i * 4) (List.drop 0 (mvs n f)) = mvs (i + 0) (dropF f i) := by
      have := mvs_skip (i := i) (m := 0) f (by omega : n = i + 1 + 0)
      rw [Nat.zero_mul, List.take_zero, List.append_nil] at this
      rw [List.nil_append, List.drop_zero, mvs_take f (show i ≤ n by omega)]
      exact this
  have h24' : ConNOK Try.prog 24 (C24c false p (0 + i) (0 + i) ([] ++ List.take (i * 4) (List.drop 0 (mvs n f))) (fewH false p (i + 0) (dropF f i)) (planC false p (i + 0) (dropF f i))) := by
    rw [hcells]
    have e : (0 + i) = i + 0 := by omega
    rw [e]
    exact C24c_ok false (okH_of hH2) (by omega) (by omega)
  have e2 : fewH false p (i + 0) (dropF f i) ≤ fewH false p n f := by
    have e : n = (i + 0) + 1 := by omega
    rw [e] at hH ⊢
    exact drop_le hH (by omega)
  have e3 : fewH false p n f ≤ fewH false p (i + 0) (dropF f i) + (if (proofH false p n f).testBit i = true then 1 else 0) := by
    have e : n = (i + 0) + 1 := by omega
    rw [e] at hH ⊢
    exact drop_ge hH (by omega)
  have hbit : (bits BinOp.and IntKind.i64 (((proofH false p n f : Nat) : Int) / (2 : Int) ^ (i : Nat)) (1 : Int) == (1 : Int)) = (proofH false p n f).testBit i := hasI_mask _ _ (by have := proof_128 (p := p) (f := f) (sure := false) hn7; omega)
  have key : ∀ R : ARes → Prop, R (.ret (.bool true)) → ∃ hs, vx.call 7 [hV p n c, .bool false, .int .u8 b, .int .u8 w] (retK R) (m1 (mvs n f)) hs := by
    intro R hR
    have hwi : IntKind.i64.wrap ((i : Int) + 1) = ((i + 1 : Nat) : Int) := wrapI (by omega) (by omega)
    have hwa : IntKind.i64.wrap (((fewH false p n f : Nat) : Int) - 1) = ((fewH false p n f : Nat) : Int) - 1 := wrapI (by omega) (by omega)
    have hS2 : (Value.slice (some ⟨0, (i + 1) * 4, none⟩) 0 (c - (i + 1))) = .slice (some ⟨0, 0 + (i + 1) * 4, none⟩) (n - (i + 1)) (c - (i + 1)) := by
      rw [Nat.zero_add]; congr 1; omega
    have hnz : ((n : Int) ≠ 0) := by omega
    have hn0 : ¬ ((n : Int) == (0 : Int)) = true := by simp; omega
    generalize fewH false p n f = many at *
    generalize fewH false p (i + 0) (dropF f i) = many2 at *
    generalize proofH false p n f = found at *
    generalize hap : apO p n f 1 (ownN b n) n = ap at *
    have hbest : ap = true → popN (ownN b n) ≤ popN found ∧ (popN (ownN b n) = popN found → found ≤ ownN b n) := fun h => hbest (hap.trans h)
    have x1 : (((many : Nat) : Int) == ((popN found : Nat) : Int)) = false → False := fun h => by
      have := beq_eq_false_iff_ne.1 h
      omega
    have x2 : decide (((many2 : Nat) : Int) ≤ ((many : Nat) : Int)) = false → False := fun h => by
      have := of_decide_eq_false h
      omega
    have x3 : decide (((many2 : Nat) : Int) ≥ ((many : Nat) : Int) - 1) = false → False := fun h => by
      have := of_decide_eq_false h
      have : many ≤ many2 + 1 := Nat.le_trans e3 (by split <;> omega)
      omega
    have x4 : found.testBit i = false → (((many2 : Nat) : Int) == ((many : Nat) : Int)) = false → False := fun h1 h2 => by
      have := beq_eq_false_iff_ne.1 h2
      rw [h1] at e3
      simp only [Bool.false_eq_true, if_false, Nat.add_zero] at e3
      omega
    refine ⟨_, (f7Df p b w n c i found (ownN b n) many (0 + i) many2 ap f (planC false p n f) ([] ++ List.take (i * 4) (List.drop 0 (mvs n f))) (planC false p (i + 0) (dropF f i)) R).mpr ?_⟩
    simp only [hown, hwi, Int.toNat_natCast, hwa, hbit]
    refine ⟨fun _ => ⟨C12_ok, rfl, hR⟩, fun _ => ⟨hwhen, ⟨rfl, hr⟩, h25, rfl, ⟨⟨by omega, by omega⟩, by first | exact rfl | exact trivial⟩, hcl, hl, fun ha => ⟨h29o, rfl, h29f, rfl, fun h => absurd (of_decide_eq_true h) (by have := (hbest ha).1; omega), fun _ => ⟨h29o, rfl, h29f, rfl, fun he => ⟨fun h => absurd (of_decide_eq_true h) (by have := (hbest ha).2 (by have := eq_of_beq he; omega); omega), fun _ => ?_⟩, fun _ => ?_⟩⟩, fun _ => ?_⟩⟩
    all_goals
      refine ⟨fun h => absurd h hn0, fun _ => ?_⟩
      repeat' (first | with_reducible apply And.intro | with_reducible intro)
      all_goals first
        | exact hnz
        | exact h24
        | exact h24'
        | exact h29f
        | exact C12_ok
        | exact hR
        | exact trivial
        | exact congrArg _ hw
        | exact hS2
        | exact ones_mvs n f _ _
        | omega
        | (rw [mvs_len]; omega)
        | rfl
        | (exfalso; rename_i h; exact x1 h)
        | (exfalso; rename_i h; exact x2 h)
        | (exfalso; rename_i h; exact x3 h)
        | (exfalso; rename_i h2 h; exact x4 h2 h)
  exact key _ rfl
end Go.Ab

