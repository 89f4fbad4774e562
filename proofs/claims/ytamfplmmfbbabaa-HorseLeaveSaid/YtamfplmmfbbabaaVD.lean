/- the law HorseLeave: contracts of Leave, and of what the law asks without a set. -/
import Derived.Test.YtamfplmmfbbabaaUX
import Derived.Test.YtamfplmmfbbabaaVB
import Derived.Test.YtamfplmmfbbabaaVC
set_option maxRecDepth 100000
namespace Go.Ab
open Go Go.RowKit Go.Proofs
theorem f23t (p : Int) (n c many left : Nat) (f : Nat → Mv) (R : ARes → Prop) : (vx.call 23 [hV p n c, I many, .bool true] (retK R) (m1 (mvs n f)) ((20, Hint.con (C68t p n c f)) :: (21, .val (.bool true)) :: (18, Hint.again) :: (0, Hint.con (C44 true p n c f)) :: (0, Hint.again) :: (0, Hint.con (C59 p n c many f (ordF true p n f n) left)) :: [])) =
(((ConOK Try.prog 68 (C68t p n c f)) ∧ (Con.pre (C68t p n c f) ⟨⟨[(.int .i64 p)], [⟨n, c⟩]⟩, [(mvs n f)]⟩) ∧
((((some (.bool (decide ((↑many : Int) ≤ (7 : Int)))) : Option Value) = some (.bool true))) ∧
(((((some (.int .i64 many) : Option Value) = some (.int .i64 many))) ∧ (((((2 : Nat) ≤ (2 : Nat))) ∧ (((.agg ⟨[(.int .i64 p), (.slice (.some ⟨0, 0, .none⟩) (n) (c))]⟩) : Value) = (.agg ⟨[(.int .i64 p), (.slice (.some ⟨0, 0, .none⟩) (n) (c))]⟩))) ∧ (((((2 : Nat) ≤ (2 : Nat))) ∧ (((.agg ⟨[(.int .i64 p), (.slice (.some ⟨0, 0, .none⟩) (n) (c))]⟩) : Value) = (.agg ⟨[(.int .i64 p), (.slice (.some ⟨0, 0, .none⟩) (n) (c))]⟩))) ∧ (True)))) ∧
((ConOK Try.prog 44 (C44 true p n c f)) ∧ (Con.pre (C44 true p n c f) ⟨⟨[(.int .i64 p)], [⟨n, c⟩]⟩, [(mvs n f)]⟩) ∧
(((((some (.int .i64 many) : Option Value) = some (.int .i64 many))) ∧ (((((2 : Nat) ≤ (2 : Nat))) ∧ (((.agg ⟨[(.int .i64 p), (.slice (.some ⟨0, 0, .none⟩) (n) (c))]⟩) : Value) = (.agg ⟨[(.int .i64 p), (.slice (.some ⟨0, 0, .none⟩) (n) (c))]⟩))) ∧ (True))) ∧
((ConOK Try.prog 59 (C59 p n c many f (ordF true p n f n) left)) ∧ (Con.pre (C59 p n c many f (ordF true p n f n) left) ⟨⟨[(.int .i64 p), (.int .i64 (ordF true p n f n (0 : Nat))), (.int .i64 (ordF true p n f n (1 : Nat))), (.int .i64 (ordF true p n f n (2 : Nat))), (.int .i64 (ordF true p n f n (3 : Nat))), (.int .i64 (ordF true p n f n (4 : Nat))), (.int .i64 (ordF true p n f n (5 : Nat))), (.int .i64 (ordF true p n f n (6 : Nat))), (.int .i64 many)], [⟨n, c⟩]⟩, [(mvs n f)]⟩) ∧
R (.ret (.tuple ⟨[(.int .i64 left), (.int .i64 0)]⟩))))))))) := by kernel_rfl
theorem f23f (p : Int) (n c many left : Nat) (f : Nat → Mv) (R : ARes → Prop) : (vx.call 23 [hV p n c, I many, .bool false] (retK R) (m1 (mvs n f)) ((20, Hint.con (C68t p n c f)) :: (21, .val (.bool true)) :: (18, Hint.again) :: (0, Hint.con (C44 false p n c f)) :: (0, Hint.again) :: (0, Hint.con (C59 p n c many f (ordF false p n f n) left)) :: [])) =
(((ConOK Try.prog 68 (C68t p n c f)) ∧ (Con.pre (C68t p n c f) ⟨⟨[(.int .i64 p)], [⟨n, c⟩]⟩, [(mvs n f)]⟩) ∧
((((some (.bool (decide ((↑many : Int) ≤ (7 : Int)))) : Option Value) = some (.bool true))) ∧
(((((some (.int .i64 many) : Option Value) = some (.int .i64 many))) ∧ (((((2 : Nat) ≤ (2 : Nat))) ∧ (((.agg ⟨[(.int .i64 p), (.slice (.some ⟨0, 0, .none⟩) (n) (c))]⟩) : Value) = (.agg ⟨[(.int .i64 p), (.slice (.some ⟨0, 0, .none⟩) (n) (c))]⟩))) ∧ (((((2 : Nat) ≤ (2 : Nat))) ∧ (((.agg ⟨[(.int .i64 p), (.slice (.some ⟨0, 0, .none⟩) (n) (c))]⟩) : Value) = (.agg ⟨[(.int .i64 p), (.slice (.some ⟨0, 0, .none⟩) (n) (c))]⟩))) ∧ (True)))) ∧
((ConOK Try.prog 44 (C44 false p n c f)) ∧ (Con.pre (C44 false p n c f) ⟨⟨[(.int .i64 p)], [⟨n, c⟩]⟩, [(mvs n f)]⟩) ∧
(((((some (.int .i64 many) : Option Value) = some (.int .i64 many))) ∧ (((((2 : Nat) ≤ (2 : Nat))) ∧ (((.agg ⟨[(.int .i64 p), (.slice (.some ⟨0, 0, .none⟩) (n) (c))]⟩) : Value) = (.agg ⟨[(.int .i64 p), (.slice (.some ⟨0, 0, .none⟩) (n) (c))]⟩))) ∧ (True))) ∧
((ConOK Try.prog 59 (C59 p n c many f (ordF false p n f n) left)) ∧ (Con.pre (C59 p n c many f (ordF false p n f n) left) ⟨⟨[(.int .i64 p), (.int .i64 (ordF false p n f n (0 : Nat))), (.int .i64 (ordF false p n f n (1 : Nat))), (.int .i64 (ordF false p n f n (2 : Nat))), (.int .i64 (ordF false p n f n (3 : Nat))), (.int .i64 (ordF false p n f n (4 : Nat))), (.int .i64 (ordF false p n f n (5 : Nat))), (.int .i64 (ordF false p n f n (6 : Nat))), (.int .i64 many)], [⟨n, c⟩]⟩, [(mvs n f)]⟩) ∧
R (.ret (.tuple ⟨[(.int .i64 left), (.int .i64 0)]⟩))))))))) := by kernel_rfl
theorem b31a (p : Int) (sure : Bool) (n c many s i : Nat) (f : Nat → Mv) (R : Nat → AExit → Hw → Prop) : (vx.code none (.l p31) (leafW [T31a, T31b] R) (T31a.inst (ha31 p sure n c many s (mvs n f) i)) ([(0, .split ((2, .val (.pointer (.some ⟨((3 : Nat)), ((0 : Nat) + i * (4 : Nat)), .none⟩))) :: (0, .val (.agg ⟨[(.int .i64 ((f i).at_)), (.int .i64 ((f i).place)), (.int .i64 ((f i).lo)), (.int .i64 ((f i).hi))]⟩)) :: (5, .val (.int .i64 ((↑s : Int) / (2 : Int) ^ i))) :: [(1, .split ([(10, Hint.tm (1 : Nat) [((7 : Nat), (9 : Nat))])]) ([(3, .tm 0 [])]))]) ([(1, .tm 0 [])]))])) =
((((decide ((↑i : Int) < (↑n : Int))) = true → ((((((0 : Int) ≤ (↑i : Int))) ∧ (((↑i : Int) < (↑n : Int)))) ∧ (((.pointer (.some ⟨((3 : Nat)), ((0 : Nat) + i * (4 : Nat)), .none⟩)) : Value) = (.pointer (.some ⟨((3 : Nat)), ((0 : Nat) + i * (4 : Nat)), .none⟩)))) ∧
(((((0 : Nat) + i * (4 : Nat) + (4 : Nat) ≤ (mvs n f).length)) ∧ (((.agg ⟨[(.int .i64 ((f i).at_)), (.int .i64 ((f i).place)), (.int .i64 ((f i).lo)), (.int .i64 ((f i).hi))]⟩) : Value) = (.agg ⟨(List.take ((4 : Nat)) (List.drop ((0 : Nat) + i * (4 : Nat)) (mvs n f)))⟩))) ∧
((((((0 : Int) ≤ (↑i : Int))) ∧ (((↑i : Int) ≤ (↑(64 : Nat) : Int)))) ∧ (((.int .i64 ((↑s : Int) / (2 : Int) ^ i)) : Value) = (.int .i64 ((↑s : Int) / (2 : Int) ^ i)))) ∧
(((bits BinOp.and IntKind.i64 ((↑s : Int) / (2 : Int) ^ i) (1 : Int) == (0 : Int)) = true → R 1 .normal ⟨⟨[(.int .i64 s), (.int .i64 n), (.int .i64 (IntKind.i64.wrap ((↑i : Int) + (1 : Int)))), (.int .i64 p), (.bool sure), (.int .i64 many), (.int .i64 0), (.int .i64 p)], [⟨n, c⟩, ⟨n, c⟩, ⟨((1 : Nat)), ((1 : Nat))⟩]⟩, [(mvs n f), [(.int .i64 ((f i).at_)), (.int .i64 ((f i).place)), (.int .i64 ((f i).lo)), (.int .i64 ((f i).hi))]], []⟩) ∧
((bits BinOp.and IntKind.i64 ((↑s : Int) / (2 : Int) ^ i) (1 : Int) == (0 : Int)) = false → R 0 .normal ⟨⟨[(.int .i64 s), (.int .i64 n), (.int .i64 (IntKind.i64.wrap ((↑i : Int) + (1 : Int)))), (.int .i64 p), (.bool sure), (.int .i64 many), (.int .i64 0), (.int .i64 p)], [⟨n, c⟩, ⟨n, c⟩]⟩, [(mvs n f)], []⟩)))))) ∧
((decide ((↑i : Int) < (↑n : Int))) = false → R 0 (.exit ((0 : Nat))) ⟨⟨[(.int .i64 s), (.int .i64 n), (.int .i64 i), (.int .i64 p), (.bool sure), (.int .i64 many), (.int .i64 0), (.int .i64 p)], [⟨n, c⟩, ⟨n, c⟩]⟩, [(mvs n f)], []⟩))) := by kernel_rfl
theorem b31b (p : Int) (sure : Bool) (n c many s i j : Nat) (f : Nat → Mv) (ls : List Value) (R : Nat → AExit → Hw → Prop) : (vx.code none (.l p31) (leafW [T31a, T31b] R) (T31b.inst (hb31 p sure n c many s (mvs n f) i j ls)) ([(0, .split ((2, .val (.pointer (.some ⟨((3 : Nat)), ((0 : Nat) + i * (4 : Nat)), .none⟩))) :: (0, .val (.agg ⟨[(.int .i64 ((f i).at_)), (.int .i64 ((f i).place)), (.int .i64 ((f i).lo)), (.int .i64 ((f i).hi))]⟩)) :: (5, .val (.int .i64 ((↑s : Int) / (2 : Int) ^ i))) :: [(1, .split ((5, Hint.grow) :: [(4, Hint.tm (1 : Nat) [((7 : Nat), (10 : Nat))])]) ([(3, Hint.tm (1 : Nat) [((7 : Nat), (7 : Nat))])]))]) ([(1, Hint.tm (1 : Nat) [((7 : Nat), (7 : Nat))])]))])) =
((((decide ((↑i : Int) < (↑n : Int))) = true → ((((((0 : Int) ≤ (↑i : Int))) ∧ (((↑i : Int) < (↑n : Int)))) ∧ (((.pointer (.some ⟨((3 : Nat)), ((0 : Nat) + i * (4 : Nat)), .none⟩)) : Value) = (.pointer (.some ⟨((3 : Nat)), ((0 : Nat) + i * (4 : Nat)), .none⟩)))) ∧
(((((0 : Nat) + i * (4 : Nat) + (4 : Nat) ≤ (mvs n f).length)) ∧ (((.agg ⟨[(.int .i64 ((f i).at_)), (.int .i64 ((f i).place)), (.int .i64 ((f i).lo)), (.int .i64 ((f i).hi))]⟩) : Value) = (.agg ⟨(List.take ((4 : Nat)) (List.drop ((0 : Nat) + i * (4 : Nat)) (mvs n f)))⟩))) ∧
((((((0 : Int) ≤ (↑i : Int))) ∧ (((↑i : Int) ≤ (↑(64 : Nat) : Int)))) ∧ (((.int .i64 ((↑s : Int) / (2 : Int) ^ i)) : Value) = (.int .i64 ((↑s : Int) / (2 : Int) ^ i)))) ∧
(((bits BinOp.and IntKind.i64 ((↑s : Int) / (2 : Int) ^ i) (1 : Int) == (0 : Int)) = true → ((((¬j + (1 : Nat) ≤ j)) ∧ (((j * (4 : Nat) = ls.length)) ∧ ((((j + (1 : Nat)) * (32 : Nat) ≤ (140737488355328 : Nat))) ∧ ((j + (1 : Nat) ≤ (4611686018427387904 : Nat)))))) ∧
R 1 .normal ⟨⟨[(.int .i64 s), (.int .i64 n), (.int .i64 (IntKind.i64.wrap ((↑i : Int) + (1 : Int)))), (.int .i64 p), (.bool sure), (.int .i64 many), (.int .i64 0), (.int .i64 p)], [⟨n, c⟩, ⟨n, c⟩, ⟨(j + (1 : Nat)), (j + (1 : Nat))⟩]⟩, [(mvs n f), ((List.take (j * (4 : Nat)) (ls)) ++ [(.int .i64 ((f i).at_)), (.int .i64 ((f i).place)), (.int .i64 ((f i).lo)), (.int .i64 ((f i).hi))])], []⟩)) ∧
((bits BinOp.and IntKind.i64 ((↑s : Int) / (2 : Int) ^ i) (1 : Int) == (0 : Int)) = false → R 1 .normal ⟨⟨[(.int .i64 s), (.int .i64 n), (.int .i64 (IntKind.i64.wrap ((↑i : Int) + (1 : Int)))), (.int .i64 p), (.bool sure), (.int .i64 many), (.int .i64 0), (.int .i64 p)], [⟨n, c⟩, ⟨n, c⟩, ⟨j, j⟩]⟩, [(mvs n f), (ls)], []⟩)))))) ∧
((decide ((↑i : Int) < (↑n : Int))) = false → R 1 (.exit ((0 : Nat))) ⟨⟨[(.int .i64 s), (.int .i64 n), (.int .i64 i), (.int .i64 p), (.bool sure), (.int .i64 many), (.int .i64 0), (.int .i64 p)], [⟨n, c⟩, ⟨n, c⟩, ⟨j, j⟩]⟩, [(mvs n f), (ls)], []⟩))) := by kernel_rfl
theorem f30b (p : Int) (n c many s m few : Nat) (sure : Bool) (ms ls pl : List Value) (R : ARes → Prop) : (vx.call 30 [I s, pN 0, pN 1, pN 2] (retK R) (m30 p sure n c many ms) ([(4, .split ((12, Hint.loopW T31a (AExit.exit (0 : Nat)) T31b fun x => hb31 p sure n c many s ms n m ls) :: (2, Hint.again) :: (0, Hint.conN (C24c sure p m m ls few pl)) :: [(12, .split ([]) ([]))]) ((12, Hint.loopW T31a (AExit.exit (0 : Nat)) T31b fun x => hb31 p sure n c many s ms n m ls) :: (2, Hint.again) :: (0, Hint.conN (C24c sure p m m ls few pl)) :: [(12, .split ([]) ([]))]))])) =
((((sure) = true → ((ClW ⟨⟨[(.int .i64 s), (.int .i64 n), (.int .i64 0), (.int .i64 p), (.bool sure), (.int .i64 many), (.int .i64 0), (.int .i64 p)], [⟨n, c⟩, ⟨n, c⟩]⟩, [(ms)], []⟩) ∧ (LoopOW Try.prog .none p31 (T31a) ⟨⟨[(.int .i64 s), (.int .i64 n), (.int .i64 0), (.int .i64 p), (.bool sure), (.int .i64 many), (.int .i64 0), (.int .i64 p)], [⟨n, c⟩, ⟨n, c⟩]⟩, [(ms)], []⟩ (.exit ((0 : Nat))) (T31b) ⟨⟨[(.int .i64 s), (.int .i64 n), (.int .i64 n), (.int .i64 p), (.bool sure), (.int .i64 many), (.int .i64 0), (.int .i64 p)], [⟨n, c⟩, ⟨n, c⟩, ⟨m, m⟩]⟩, [(ms), (ls)], []⟩) ∧
(((((some (.bool sure) : Option Value) = some (.bool true))) ∧ (True)) ∧
((ConNOK Try.prog 24 (C24c sure p m m ls few pl)) ∧ (ConN.pre (C24c sure p m m ls few pl) ⟨⟨[(.int .i64 p), (.bool true)], [⟨m, m⟩]⟩, [(ls)]⟩) ∧
(((decide ((↑few : Int) ≤ (↑many : Int))) = true → R (.ret (.bool true))) ∧
((decide ((↑few : Int) ≤ (↑many : Int))) = false → R (.ret (.bool false)))))))) ∧
((sure) = false → ((ClW ⟨⟨[(.int .i64 s), (.int .i64 n), (.int .i64 0), (.int .i64 p), (.bool sure), (.int .i64 many), (.int .i64 0), (.int .i64 p)], [⟨n, c⟩, ⟨n, c⟩]⟩, [(ms)], []⟩) ∧ (LoopOW Try.prog .none p31 (T31a) ⟨⟨[(.int .i64 s), (.int .i64 n), (.int .i64 0), (.int .i64 p), (.bool sure), (.int .i64 many), (.int .i64 0), (.int .i64 p)], [⟨n, c⟩, ⟨n, c⟩]⟩, [(ms)], []⟩ (.exit ((0 : Nat))) (T31b) ⟨⟨[(.int .i64 s), (.int .i64 n), (.int .i64 n), (.int .i64 p), (.bool sure), (.int .i64 many), (.int .i64 0), (.int .i64 p)], [⟨n, c⟩, ⟨n, c⟩, ⟨m, m⟩]⟩, [(ms), (ls)], []⟩) ∧
(((((some (.bool sure) : Option Value) = some (.bool false))) ∧ (True)) ∧
((ConNOK Try.prog 24 (C24c sure p m m ls few pl)) ∧ (ConN.pre (C24c sure p m m ls few pl) ⟨⟨[(.int .i64 p), (.bool false)], [⟨m, m⟩]⟩, [(ls)]⟩) ∧
(((decide ((↑few : Int) ≤ (↑many : Int))) = true → R (.ret (.bool true))) ∧
((decide ((↑few : Int) ≤ (↑many : Int))) = false → R (.ret (.bool false)))))))))) := by kernel_rfl
theorem f30z (p : Int) (n c many s : Nat) (sure : Bool) (ms : List Value) (R : ARes → Prop) : (vx.call 30 [I s, pN 0, pN 1, pN 2] (retK R) (m30 p sure n c many ms) ([(4, .split ((12, Hint.loopW T31a (AExit.exit (0 : Nat)) T31a fun x => ha31 p sure n c many s ms n) :: (2, Hint.again) :: (0, Hint.conN (C24n sure p)) :: []) ((12, Hint.loopW T31a (AExit.exit (0 : Nat)) T31a fun x => ha31 p sure n c many s ms n) :: (2, Hint.again) :: (0, Hint.conN (C24n sure p)) :: []))])) =
((((sure) = true → ((ClW ⟨⟨[(.int .i64 s), (.int .i64 n), (.int .i64 0), (.int .i64 p), (.bool sure), (.int .i64 many), (.int .i64 0), (.int .i64 p)], [⟨n, c⟩, ⟨n, c⟩]⟩, [(ms)], []⟩) ∧ (LoopOW Try.prog .none p31 (T31a) ⟨⟨[(.int .i64 s), (.int .i64 n), (.int .i64 0), (.int .i64 p), (.bool sure), (.int .i64 many), (.int .i64 0), (.int .i64 p)], [⟨n, c⟩, ⟨n, c⟩]⟩, [(ms)], []⟩ (.exit ((0 : Nat))) (T31a) ⟨⟨[(.int .i64 s), (.int .i64 n), (.int .i64 n), (.int .i64 p), (.bool sure), (.int .i64 many), (.int .i64 0), (.int .i64 p)], [⟨n, c⟩, ⟨n, c⟩]⟩, [(ms)], []⟩) ∧
(((((some (.bool sure) : Option Value) = some (.bool true))) ∧ (True)) ∧
((ConNOK Try.prog 24 (C24n sure p)) ∧ (ConN.pre (C24n sure p) ⟨⟨[(.int .i64 p), (.bool true)], []⟩, []⟩) ∧
R (.ret (.bool true)))))) ∧
((sure) = false → ((ClW ⟨⟨[(.int .i64 s), (.int .i64 n), (.int .i64 0), (.int .i64 p), (.bool sure), (.int .i64 many), (.int .i64 0), (.int .i64 p)], [⟨n, c⟩, ⟨n, c⟩]⟩, [(ms)], []⟩) ∧ (LoopOW Try.prog .none p31 (T31a) ⟨⟨[(.int .i64 s), (.int .i64 n), (.int .i64 0), (.int .i64 p), (.bool sure), (.int .i64 many), (.int .i64 0), (.int .i64 p)], [⟨n, c⟩, ⟨n, c⟩]⟩, [(ms)], []⟩ (.exit ((0 : Nat))) (T31a) ⟨⟨[(.int .i64 s), (.int .i64 n), (.int .i64 n), (.int .i64 p), (.bool sure), (.int .i64 many), (.int .i64 0), (.int .i64 p)], [⟨n, c⟩, ⟨n, c⟩]⟩, [(ms)], []⟩) ∧
(((((some (.bool sure) : Option Value) = some (.bool false))) ∧ (True)) ∧
((ConNOK Try.prog 24 (C24n sure p)) ∧ (ConN.pre (C24n sure p) ⟨⟨[(.int .i64 p), (.bool false)], []⟩, []⟩) ∧
R (.ret (.bool true)))))))) := by kernel_rfl
theorem z24nt (p : Int) (R : Hx → Prop) : (vx.call 24 [.agg ⟨[I p, nilS]⟩, .bool true] (retN (rowT3 0 3) R) ⟨.nil, 0⟩ ((29, .val (.bool true)) :: (3, .val (.bool true)) :: (37, Hint.again) :: (28, Hint.again) :: (22, Hint.con (C83z fun x => (0 : Int))) :: [(58, Hint.tm (0 : Nat) [((0 : Nat), (23 : Nat))])])) =
(((((some (.bool (decide ((0 : Int) ≤ p))) : Option Value) = some (.bool true))) ∧
((((some (.bool (decide (p ≤ (3 : Int)))) : Option Value) = some (.bool true))) ∧
((((((2 : Nat) ≤ (2 : Nat))) ∧ (((.agg ⟨[(.int .i64 p), (.slice .none ((0 : Nat)) ((0 : Nat)))]⟩) : Value) = (.agg ⟨[(.int .i64 p), (.slice .none ((0 : Nat)) ((0 : Nat)))]⟩))) ∧ (((((2 : Nat) ≤ (2 : Nat))) ∧ (((.agg ⟨[(.int .i64 p), (.slice .none ((0 : Nat)) ((0 : Nat)))]⟩) : Value) = (.agg ⟨[(.int .i64 p), (.slice .none ((0 : Nat)) ((0 : Nat)))]⟩))) ∧ (True))) ∧
((((((2 : Nat) ≤ (2 : Nat))) ∧ (((.agg ⟨[(.int .i64 p), (.slice .none ((0 : Nat)) ((0 : Nat)))]⟩) : Value) = (.agg ⟨[(.int .i64 p), (.slice .none ((0 : Nat)) ((0 : Nat)))]⟩))) ∧ (True)) ∧
((ConOK Try.prog 83 (C83z fun x => (0 : Int))) ∧ (Con.pre (C83z fun x => (0 : Int)) ⟨⟨[(.int .i64 0), (.int .i64 0), (.int .i64 0), (.int .i64 0), (.int .i64 0), (.int .i64 0), (.int .i64 0)], []⟩, []⟩) ∧
R ⟨⟨[(.int .i64 0), (.int .i64 0)], [⟨((0 : Nat)), ((0 : Nat))⟩]⟩, [[]]⟩)))))) := by kernel_rfl
theorem z24nf (p : Int) (R : Hx → Prop) : (vx.call 24 [.agg ⟨[I p, nilS]⟩, .bool false] (retN (rowT3 0 3) R) ⟨.nil, 0⟩ ((29, .val (.bool true)) :: (3, .val (.bool true)) :: (37, Hint.again) :: (28, Hint.again) :: (22, Hint.con (C83z fun x => (0 : Int))) :: [(58, Hint.tm (0 : Nat) [((0 : Nat), (23 : Nat))])])) =
(((((some (.bool (decide ((0 : Int) ≤ p))) : Option Value) = some (.bool true))) ∧
((((some (.bool (decide (p ≤ (3 : Int)))) : Option Value) = some (.bool true))) ∧
((((((2 : Nat) ≤ (2 : Nat))) ∧ (((.agg ⟨[(.int .i64 p), (.slice .none ((0 : Nat)) ((0 : Nat)))]⟩) : Value) = (.agg ⟨[(.int .i64 p), (.slice .none ((0 : Nat)) ((0 : Nat)))]⟩))) ∧ (((((2 : Nat) ≤ (2 : Nat))) ∧ (((.agg ⟨[(.int .i64 p), (.slice .none ((0 : Nat)) ((0 : Nat)))]⟩) : Value) = (.agg ⟨[(.int .i64 p), (.slice .none ((0 : Nat)) ((0 : Nat)))]⟩))) ∧ (True))) ∧
((((((2 : Nat) ≤ (2 : Nat))) ∧ (((.agg ⟨[(.int .i64 p), (.slice .none ((0 : Nat)) ((0 : Nat)))]⟩) : Value) = (.agg ⟨[(.int .i64 p), (.slice .none ((0 : Nat)) ((0 : Nat)))]⟩))) ∧ (True)) ∧
((ConOK Try.prog 83 (C83z fun x => (0 : Int))) ∧ (Con.pre (C83z fun x => (0 : Int)) ⟨⟨[(.int .i64 0), (.int .i64 0), (.int .i64 0), (.int .i64 0), (.int .i64 0), (.int .i64 0), (.int .i64 0)], []⟩, []⟩) ∧
R ⟨⟨[(.int .i64 0), (.int .i64 0)], [⟨((0 : Nat)), ((0 : Nat))⟩]⟩, [[]]⟩)))))) := by kernel_rfl
section
variable {p : Int} {n c many : Nat} {f : Nat → Mv} {sure : Bool}
theorem hok_kept (h : HOK p n f) (s : Nat) : HOK p (kept s n).length (fun k => f (keptN s n k)) := ⟨h.p0, h.p3, by have := kept_len s n; have := h.n7; omega, fun k hk => h.mv _ (keptN_lt hk)⟩
def fewW (sure : Bool) (p : Int) (n : Nat) (f : Nat → Mv) (s : Nat) : Nat := fewH sure p (kept s n).length (fun k => f (keptN s n k))
theorem canK (h : HOK p n f) {s i j : Nat} (hi : i < (kept s n).length) (hj : j < (kept s n).length) : canO (ordF sure p n f n) (keptN s n) i j = canB sure p (fun k => f (keptN s n k)) i j := hasI_ord sure p f h.n7 (keptN_lt hi) (keptN_lt hj)
theorem fewK_W (h : HOK p n f) (s : Nat) : fewK (ordF sure p n f n) n s = fewW sure p n f s := by
  have hk := hok_kept h s
  have hl := hk.n7
  have hq : ∀ i j, i < (kept s n).length → j < (kept s n).length → keptN s n i = keptN s n j → i = j := fun i j hi hj e => keptN_inj hi hj e
  refine Nat.le_antisymm ?_ ?_
  · obtain ⟨X, h1, h2⟩ := anti_ex (can := canO (ordF sure p n f n) (keptN s n)) (q := keptN s n) (n := (kept s n).length) hq hl
    refine Nat.le_trans h2 (few_le (sure := sure) hk fun i j hi hj hx hy => ?_)
    rw [← canK h hi hj]
    exact h1 i j hi hj hx hy
  · obtain ⟨X, h1, h2⟩ := few_ex (sure := sure) hk
    refine Nat.le_trans h2 (anti_le (can := canO (ordF sure p n f n) (keptN s n)) (q := keptN s n) (n := (kept s n).length) hq hl (fun i => (f (keptN s n i)).at_.toNat) (fun i j hi hj hc => ?_) (fun i j k hi hj hk2 h3 h4 => ?_) (fun i j hi hj hx hy => ?_))
    · rw [canK h hi hj] at hc
      exact can_mu hk hi hj hc
    · rw [canK h hi hj] at h3
      rw [canK h hj hk2] at h4
      rw [canK h hi hk2]
      exact can_trans hk hi hj hk2 h3 h4
    · rw [canK h hi hj]
      exact h1 i j hi hj hx hy
theorem fewW_0 (h : HOK p n f) : fewW sure p n f 0 = fewH sure p n f := by
  have hid : ∀ i j, i < n → j < n → id i = id j → i = j := fun i j _ _ e => e
  have e : (kept 0 n).length = n := by rw [kept_zero, List.length_range]
  have h0 := hok_kept h 0
  refine Nat.le_antisymm ?_ ?_
  · obtain ⟨X, h1, h2⟩ := few_ex (sure := sure) h0
    have h2 : fewW sure p n f 0 ≤ cnt X (kept 0 n).length := h2
    rw [e] at h1 h2
    refine Nat.le_trans h2 (few_le (sure := sure) h fun i j hi hj hx hy => ?_)
    have := h1 i j hi hj hx hy
    simp only [canB, keptN_zero hi, keptN_zero hj] at this ⊢
    exact this
  · obtain ⟨X, h1, h2⟩ := few_ex (sure := sure) h
    refine Nat.le_trans h2 ?_
    have := few_le (sure := sure) h0 (X := X) (fun i j hi hj hx hy => by
      rw [e] at hi hj
      have := h1 i j hi hj hx hy
      simp only [canB, keptN_zero hi, keptN_zero hj] at this ⊢
      exact this)
    rw [e] at this
    exact (show cnt X n ≤ fewW sure p n f 0 from by
      show cnt X n ≤ fewH sure p (kept 0 n).length _
      rw [e]; exact this)
def leaveH (sure : Bool) (p : Int) (n : Nat) (f : Nat → Mv) (many : Nat) : Nat := leaveF (ordF sure p n f n) n many
theorem leave_least (h : HOK p n f) : Least (fun s => decide (fewW sure p n f s ≤ many)) popN n (leaveH sure p n f many) := by
  have hl := leaveF_least (o := ordF sure p n f n) (many := many) h.n7
  have e : goodK (ordF sure p n f n) n many = fun s => decide (fewW sure p n f s ≤ many) := funext fun s => by unfold goodK; rw [fewK_W h]
  rw [e] at hl
  exact hl
theorem C23_ok (sure : Bool) (hok : okH p n f = true) (hm : many ≤ 7) : ConOK Try.prog 23 (C23 sure p n c many f (leaveH sure p n f many)) := by
  have hn := (okH_iff hok).n7
  refine con_of vx_sound _ (fun y hy => ?_) rfl (fun y _ => rfl) (fun y hy => ?_) rfl (Nat.le_of_ble_eq_true rfl) (by rw [nglob]; exact Nat.zero_le _)
  · cases hy
    have e7 : (some (.bool (decide ((many : Int) ≤ 7))) : Option Value) = some (.bool true) := by rw [decide_eq_true (by omega)]
    cases sure
    · refine ⟨_, (f23f p n c many (leaveF (ordF false p n f n) n many) f _).mpr ?_⟩
      repeat' (first | with_reducible apply And.intro | with_reducible intro)
      all_goals first | exact C68t_ok p n c f (by omega) | exact C44_ok _ p n c f hn | exact C59_ok hn | exact e7 | exact hok | exact trivial | rfl | exact Nat.le_refl _ | (exact ⟨rfl, hok⟩)
    · refine ⟨_, (f23t p n c many (leaveF (ordF true p n f n) n many) f _).mpr ?_⟩
      repeat' (first | with_reducible apply And.intro | with_reducible intro)
      all_goals first | exact C68t_ok p n c f (by omega) | exact C44_ok _ p n c f hn | exact C59_ok hn | exact e7 | exact hok | exact trivial | rfl | exact Nat.le_refl _ | (exact ⟨rfl, hok⟩)
  · cases hy
    exact mvs_atoms n f
noncomputable def mvsL (f : Nat → Mv) (l : List Nat) : List Value := l.flatMap fun i => mvV (f i)
theorem mvsL_app (l : List Nat) (i : Nat) : mvsL f (l ++ [i]) = mvsL f l ++ mvV (f i) := by simp [mvsL]
theorem mvsL_len (l : List Nat) : (mvsL f l).length = l.length * 4 := by
  induction l with
  | nil => rfl
  | cons i l ih =>
    show (mvV (f i) ++ mvsL f l).length = _
    rw [List.length_append, ih, List.length_cons]
    show 4 + _ = _
    omega
theorem mvsL_U (s n : Nat) : mvsL f (kept s n) = mvs (kept s n).length (fun k => f (keptN s n k)) := by
  unfold mvs mvsL
  rw [← flatL]
  rfl
theorem mvsL_at (l : List Nat) : ∀ v ∈ mvsL f l, atomic v = true := by
  induction l with
  | nil => intro v hv; cases hv
  | cons i l ih =>
    intro v hv
    rcases List.mem_append.1 (show v ∈ mvV (f i) ++ mvsL f l from hv) with hv | hv
    · simp only [mvV, List.mem_cons, List.not_mem_nil, or_false] at hv
      rcases hv with rfl | rfl | rfl | rfl <;> rfl
    · exact ih v hv
theorem bitZ {s i : Nat} (hf : s < 128) : (bits BinOp.and IntKind.i64 ((s : Int) / (2 : Int) ^ i) (1 : Int) == (0 : Int)) = !s.testBit i := by
  have e : (1 : Int) = ((1 : Nat) : Int) := rfl
  have e2 : ((s : Int) / (2 : Int) ^ i) = ((s / 2 ^ i : Nat) : Int) := by simp
  have h3 : s / 2 ^ i ≤ s := Nat.div_le_self _ _
  rw [e2, e, and_nat _ 1 (by omega) (by omega)]
  rw [Nat.and_one_is_mod]
  simp only [Nat.testBit, Nat.shiftRight_eq_div_pow, Nat.one_and_eq_mod_two]
  have : s / 2 ^ i % 2 = 0 ∨ s / 2 ^ i % 2 = 1 := by omega
  rcases this with h0 | h0 <;> rw [h0] <;> rfl
noncomputable def st31 (p : Int) (sure : Bool) (n c many s : Nat) (f : Nat → Mv) (i : Nat) : Nat × Hw := if (kept s i).length = 0 then (0, ha31 p sure n c many s (mvs n f) i) else (1, hb31 p sure n c many s (mvs n f) i (kept s i).length (mvsL f (kept s i)))
theorem cl31 {s : Nat} (i : Nat) : ClW (st31 p sure n c many s f i).2 := by
  unfold st31
  split
  · refine ⟨fun cs hc => ?_, fun es hc => (by cases hc)⟩
    simp only [ha31, List.mem_singleton] at hc
    subst hc
    exact mvs_atoms n f _ (by simp)
  · refine ⟨fun cs hc => ?_, fun es hc => (by cases hc)⟩
    simp only [hb31, List.mem_cons, List.not_mem_nil, or_false] at hc
    rcases hc with rfl | rfl
    · exact mvs_atoms n f _ (by simp)
    · exact mvsL_at _
theorem loop31 {s : Nat} (hs : s < 128) (hn : n ≤ 7) {T1 : Tw} (h1 : [T31a, T31b][(st31 p sure n c many s f n).1]? = some T1) : LoopOW Try.prog none p31 T31a (ha31 p sure n c many s (mvs n f) 0) (.exit 0) T1 (st31 p sure n c many s f n).2 := by
  refine loop_forW (Ts := [T31a, T31b]) (k := 7) (n := n) (e := .exit 0) (st := fun i => st31 p sure n c many s f i) rfl vx_sound ?_ (by rw [nglob]; omega) ⟨by simp, trivial⟩ (fun i _ => cl31 i) (fun i hi R hR => ?_) (fun R hR => ?_) rfl (Nat.le_of_ble_eq_true rfl) (by decide) h1
  · intro T hT
    simp only [List.mem_cons, List.not_mem_nil, or_false] at hT
    rcases hT with rfl | rfl <;> rfl
  · have hw : IntKind.i64.wrap ((i : Int) + 1) = ((i + 1 : Nat) : Int) := wrapI (by omega) (by omega)
    have hlen : 0 + i * 4 + 4 ≤ (mvs n f).length := by rw [mvs_len]; have := flatC_bound (k := 4) hi; omega
    have hpart : (Value.agg ⟨[I (f i).at_, I (f i).place, I (f i).lo, I (f i).hi]⟩) = .agg ⟨((mvs n f).drop (0 + i * 4)).take 4⟩ := by rw [mvs_part f hi]; rfl
    have hk := kept_len s i
    by_cases hz : (kept s i).length = 0
    · have e0 : st31 p sure n c many s f i = (0, ha31 p sure n c many s (mvs n f) i) := by unfold st31; rw [if_pos hz]
      refine ⟨T31a, ?_⟩
      rw [e0]
      refine ⟨_, rfl, (b31a p sure n c many s i f R).mpr ⟨fun _ => ⟨⟨⟨by omega, by omega⟩, rfl⟩, ⟨hlen, hpart⟩, ⟨⟨by omega, by omega⟩, rfl⟩, fun hb => ?_, fun hb => ?_⟩, fun h => absurd (by omega) (of_decide_eq_false h)⟩⟩
      · rw [bitZ hs] at hb
        have hb : s.testBit i = false := by simpa using hb
        have e1 : kept s (i + 1) = [i] := by
          have : kept s i = [] := List.length_eq_zero_iff.1 hz
          simp only [kept, hb, this]
          rfl
        have e2 : st31 p sure n c many s f (i + 1) = (1, hb31 p sure n c many s (mvs n f) (i + 1) 1 (mvV (f i))) := by
          unfold st31
          rw [e1, if_neg (by simp)]
          show (1, hb31 p sure n c many s (mvs n f) (i + 1) 1 (mvsL f [i])) = _
          have : mvsL f [i] = mvV (f i) := by simp [mvsL]
          rw [this]
        rw [hw]
        rw [e2] at hR
        exact hR
      · rw [bitZ hs] at hb
        have hb : s.testBit i = true := by simpa using hb
        have e1 : kept s (i + 1) = kept s i := by simp only [kept, hb, if_true]
        have e2 : st31 p sure n c many s f (i + 1) = (0, ha31 p sure n c many s (mvs n f) (i + 1)) := by unfold st31; rw [e1, if_pos hz]
        rw [hw]
        rw [e2] at hR
        exact hR
    · have e0 : st31 p sure n c many s f i = (1, hb31 p sure n c many s (mvs n f) i (kept s i).length (mvsL f (kept s i))) := by unfold st31; rw [if_neg hz]
      refine ⟨T31b, ?_⟩
      rw [e0]
      refine ⟨_, rfl, (b31b p sure n c many s i (kept s i).length f (mvsL f (kept s i)) R).mpr ⟨fun _ => ⟨⟨⟨by omega, by omega⟩, rfl⟩, ⟨hlen, hpart⟩, ⟨⟨by omega, by omega⟩, rfl⟩, fun hb => ?_, fun hb => ?_⟩, fun h => absurd (by omega) (of_decide_eq_false h)⟩⟩
      · rw [bitZ hs] at hb
        have hb : s.testBit i = false := by simpa using hb
        have e1 : kept s (i + 1) = kept s i ++ [i] := by simp only [kept, hb, Bool.false_eq_true, if_false]
        have e2 : st31 p sure n c many s f (i + 1) = (1, hb31 p sure n c many s (mvs n f) (i + 1) ((kept s i).length + 1) (mvsL f (kept s i) ++ mvV (f i))) := by
          unfold st31
          rw [e1, if_neg (by simp), mvsL_app, List.length_append, List.length_singleton]
        refine ⟨⟨by omega, by rw [mvsL_len], by omega, by omega⟩, ?_⟩
        rw [hw, ← mvsL_len (f := f), List.take_length]
        rw [e2] at hR
        exact hR
      · rw [bitZ hs] at hb
        have hb : s.testBit i = true := by simpa using hb
        have e1 : kept s (i + 1) = kept s i := by simp only [kept, hb, if_true]
        have e2 : st31 p sure n c many s f (i + 1) = (1, hb31 p sure n c many s (mvs n f) (i + 1) (kept s i).length (mvsL f (kept s i))) := by unfold st31; rw [e1, if_neg hz]
        rw [hw]
        rw [e2] at hR
        exact hR
  · by_cases hz : (kept s n).length = 0
    · have e0 : st31 p sure n c many s f n = (0, ha31 p sure n c many s (mvs n f) n) := by unfold st31; rw [if_pos hz]
      rw [e0] at hR ⊢
      exact ⟨T31a, _, rfl, (b31a p sure n c many s n f R).mpr ⟨fun h => absurd (of_decide_eq_true h) (by omega), fun _ => hR⟩⟩
    · have e0 : st31 p sure n c many s f n = (1, hb31 p sure n c many s (mvs n f) n (kept s n).length (mvsL f (kept s n))) := by unfold st31; rw [if_neg hz]
      rw [e0] at hR ⊢
      exact ⟨T31b, _, rfl, (b31b p sure n c many s n (kept s n).length f (mvsL f (kept s n)) R).mpr ⟨fun h => absurd (of_decide_eq_true h) (by omega), fun _ => hR⟩⟩
theorem C24n_ok (sure : Bool) (h0 : 0 ≤ p) (h3 : p ≤ 3) : ConNOK Try.prog 24 (C24n sure p) := by
  refine conRow3_of rfl vx_sound (C := C24n sure p) (n := 0) (cells := []) (e := 3) (y0 := 0) (z := 0) ⟨⟨[I p, .bool sure], []⟩, []⟩ (fun x => Iff.rfl) rfl rfl rfl ?_ (fun cs h => (by cases h)) (fun v hv => by cases hv) rfl (Nat.le_of_ble_eq_true rfl) (by rw [nglob]; exact Nat.zero_le _)
  have e0 : decide (0 ≤ p) = true := decide_eq_true h0
  have e3 : decide (p ≤ 3) = true := decide_eq_true h3
  cases sure
  · refine ⟨_, (z24nf p _).mpr ?_⟩
    simp only [e0, e3]
    repeat' (first | with_reducible apply And.intro | with_reducible intro)
    all_goals first | exact C83z_ok | exact trivial | rfl | exact Nat.le_refl _ | omega
  · refine ⟨_, (z24nt p _).mpr ?_⟩
    simp only [e0, e3]
    repeat' (first | with_reducible apply And.intro | with_reducible intro)
    all_goals first | exact C83z_ok | exact trivial | rfl | exact Nat.le_refl _ | omega
theorem run30 (h : HOK p n f) {s : Nat} (hs : s < 128) {R : ARes → Prop} (hR : R (.ret (.bool (decide (fewW sure p n f s ≤ many))))) :
    ∃ hs, vx.call 30 [I s, pN 0, pN 1, pN 2] (retK R) (m30 p sure n c many (mvs n f)) hs := by
  have hn := h.n7
  have hk := hok_kept h s
  have hcl : ClW (ha31 p sure n c many s (mvs n f) 0) := ⟨fun cs hc => by simp only [ha31, List.mem_singleton] at hc; subst hc; exact mvs_atoms n f _ (by simp), fun es hc => (by cases hc)⟩
  by_cases hz : (kept s n).length = 0
  · have e0 : st31 p sure n c many s f n = (0, ha31 p sure n c many s (mvs n f) n) := by unfold st31; rw [if_pos hz]
    have hl := loop31 (p := p) (sure := sure) (c := c) (many := many) (f := f) (T1 := T31a) hs hn (by rw [e0]; rfl)
    rw [e0] at hl
    have hC := C24n_ok sure h.p0 h.p3
    have hf : fewW sure p n f s = 0 := by
      have : fewW sure p n f s ≤ (kept s n).length := by
        obtain ⟨X, _, h2⟩ := few_ex (sure := sure) hk
        exact Nat.le_trans h2 (cnt_le X _)
      omega
    have hR3 : R (.ret (.bool true)) := by rw [hf, decide_eq_true (Nat.zero_le many)] at hR; exact hR
    clear hf hR
    refine ⟨_, (f30z p n c many s sure (mvs n f) R).mpr ?_⟩
    refine ⟨fun hb => ?_, fun hb => ?_⟩ <;> subst hb
    all_goals
      repeat' (first | with_reducible apply And.intro | with_reducible intro)
      all_goals first | exact hcl | exact hl | exact hC | exact hR3 | exact trivial | rfl
  · have e0 : st31 p sure n c many s f n = (1, hb31 p sure n c many s (mvs n f) n (kept s n).length (mvsL f (kept s n))) := by unfold st31; rw [if_neg hz]
    have hl := loop31 (p := p) (sure := sure) (c := c) (many := many) (f := f) (T1 := T31b) hs hn (by rw [e0]; rfl)
    rw [e0] at hl
    have hC : ConNOK Try.prog 24 (C24c sure p (kept s n).length (kept s n).length (mvsL f (kept s n)) (fewW sure p n f s) (ints (kept s n).length fun i => ((planF (ordF sure p (kept s n).length (fun k => f (keptN s n k)) (kept s n).length) (kept s n).length (fewH sure p (kept s n).length (fun k => f (keptN s n k)))).2.P i : Int))) := by
      rw [mvsL_U]
      exact C24_ok sure (okH_of hk) hk.n7 (by omega)
    generalize fewW sure p n f s = few at hC hR
    generalize (ints (kept s n).length fun i => ((planF (ordF sure p (kept s n).length (fun k => f (keptN s n k)) (kept s n).length) (kept s n).length (fewH sure p (kept s n).length (fun k => f (keptN s n k)))).2.P i : Int)) = pl at hC
    have hR1 : few ≤ many → R (.ret (.bool true)) := fun hx => by rw [decide_eq_true hx] at hR; exact hR
    have hR2 : ¬ few ≤ many → R (.ret (.bool false)) := fun hx => by rw [decide_eq_false hx] at hR; exact hR
    refine ⟨_, (f30b p n c many s (kept s n).length few sure (mvs n f) (mvsL f (kept s n)) pl R).mpr ?_⟩
    refine ⟨fun hb => ?_, fun hb => ?_⟩ <;> subst hb
    all_goals
      repeat' (first | with_reducible apply And.intro | with_reducible intro)
      all_goals first | exact hcl | exact hl | exact hC | exact trivial | rfl | (rename_i hx; exact hR1 (Int.ofNat_le.1 (of_decide_eq_true hx))) | (rename_i hx; exact hR2 fun hy => of_decide_eq_false hx (Int.ofNat_le.2 hy))
theorem C30i_ok (h : HOK p n f) {s : Nat} {mz sz : Int} {v : Bool} (hs : s < 128) (hz : sz = s) (hm : mz = many) (hv : v = decide (fewW sure p n f s ≤ many)) : ConOK Try.prog 30 (C30i p sure n c mz sz v (mvs n f)) := by
  subst hz hm hv
  refine con_of vx_sound _ (fun y hy => ?_) rfl (fun y _ => rfl) (fun y hy => ?_) rfl (Nat.le_of_ble_eq_true rfl) (by rw [nglob]; exact Nat.zero_le _)
  · cases hy
    exact run30 (R := fun r => r = .ret (.bool (decide (fewW sure p n f s ≤ many)))) h hs rfl
  · cases hy
    exact mvs_atoms n f
end
end Go.Ab
