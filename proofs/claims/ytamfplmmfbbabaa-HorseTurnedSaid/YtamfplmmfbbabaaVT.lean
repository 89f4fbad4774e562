/- the law HorseTurned: its runs, where there are moves. -/
import Derived.Test.YtamfplmmfbbabaaVQ
import Derived.Test.YtamfplmmfbbabaaVR
import Derived.Test.YtamfplmmfbbabaaVS
import Derived.Test.YtamfplmmfbbabaaVL
set_option maxRecDepth 100000
namespace Go.Ab
open Go Go.RowKit Go.Proofs
theorem f10t (p nu b0 b1 be : Int) (n c k d na fo fo2 lc ld : Nat) (rt : Bool) (f f2 : Nat → Mv) (bs : Nat → Int) (g g2 q : Nat → Nat) (pb : List Value) (R : ARes → Prop) : (vx.call 10 [hV p n c, slV 1 k d, .bool true, .int .u8 nu] (retK R) (m2b (mvs n f) (u8s k bs)) ((17, .val (.bool false)) :: (4, Hint.con ((C21 p n c f).when (ARes.ret (Value.bool true)))) :: (15, Hint.conN (C13q p n c k d f bs g)) :: (2, Hint.mk n (ints n fun x => (0 : Int))) :: (5, Hint.loopW T10a (AExit.exit (0 : Nat)) T10b fun x => h10b p true nu n c (mvs n f) (natL n g) (natL n g2) n (mvs n f2)) :: (3, Hint.growN) :: (3, Hint.conN (C24c true p n c (mvs n f) na (natL n q))) :: (9, Hint.conN (C24c true p n n (mvs n f2) na pb)) :: (9, Hint.con (C25 true p n c f fo)) :: (7, Hint.con (C25 true p n n f2 fo2)) :: (10, Hint.con (C23i true p n c ((IntKind.i64.wrap nu).tmod (8 : Int)) f lc)) :: (10, Hint.con (C23i true p n n ((IntKind.i64.wrap nu).tmod (8 : Int)) f2 ld)) :: (8, Hint.con (C19 p (IntKind.i64.wrap nu) n c f (Value.tuple { toList := [Value.agg { toList := [I b0, I b1] }, I be] }))) :: (9, Hint.con (C19 p (IntKind.i64.wrap nu) n n f2 (Value.tuple { toList := [Value.agg { toList := [I b0, I b1] }, I be] }))) :: (9, .val (.bool false)) :: (23, Hint.con (C29 fo)) :: (0, Hint.con (C29 fo2)) :: (0, .val (.bool false)) :: (19, Hint.con (C29 lc)) :: (0, Hint.con (C29 ld)) :: (0, .val (.bool false)) :: (4, .val (.bool false)) :: (4, .val (.bool false)) :: (8, Hint.con (C27 true p n c n n f g rt)) :: (0, Hint.again) :: (0, Hint.con (C27 true p n n n n f2 g2 rt)) :: (0, .val (.bool false)) :: (4, Hint.loopW T10c (AExit.exit (2 : Nat)) T10c fun x => h10c p true n c (mvs n f) (mvs n f2) (mvs n f) (natL n q) n) :: (2, Hint.growN) :: (4, Hint.loopW T10e (AExit.exit (6 : Nat)) T10e fun x => h10e p true n c (mvs n f) (mvs n f) (ints n fun x => (-9 : Int)) (natL n q) n) :: (2, Hint.conN (C24c true p n c (mvs n f) na (natL n q))) :: (13, Hint.con (C32 n n n fun i => (↑(q i) : Int))) :: (6, Hint.loopW T10f (AExit.exit (8 : Nat)) T10f fun x => h10f p n c (mvs n f) (mvs n f) n) :: (0, Hint.con C12) :: [])) =
(((((some (.bool (decide ((if (↑(0 : Nat) : Int) > (↑n : Int) then (↑(0 : Nat) : Int) else (↑n : Int)) > (40 : Int)))) : Option Value) = some (.bool false))) ∧
((ConOK Try.prog 21 ((C21 p n c f).when (ARes.ret (Value.bool true)))) ∧ (Con.pre ((C21 p n c f).when (ARes.ret (Value.bool true))) ⟨⟨[(.int .i64 p)], [⟨n, c⟩]⟩, [(mvs n f)]⟩) ∧
((ConNOK Try.prog 13 (C13q p n c k d f bs g)) ∧ (ConN.pre (C13q p n c k d f bs g) ⟨⟨[(.int .i64 p)], [⟨n, c⟩, ⟨k, d⟩]⟩, [(mvs n f), (u8s k bs)]⟩) ∧
((((((↑n : Int) = (↑n : Int))) ∧ (((↑n : Int) = (↑n : Int)))) ∧ (((((↑n : Int) ≤ (2 : Int) ^ (40 : Nat))) ∧ (((↑(8 : Nat) : Int) * (↑n : Int) ≤ (2 : Int) ^ (48 : Nat)))) ∧ ((zCells [Value.int .i64 (0 : Int)] (n * (1 : Nat)) = ints n fun x => (0 : Int))))) ∧
((ClW ⟨⟨[(.bool true), (.int .u8 (nu)), (.int .i64 n), (.int .i64 n), (.int .i64 0), (.int .i64 p), (.int .i64 p)], [⟨n, n⟩, ⟨n, n⟩, ⟨n, c⟩]⟩, [(mvs n f), (natL n g), (ints n fun x => (0 : Int))], []⟩) ∧ (LoopOW Try.prog .none p10a (T10a) ⟨⟨[(.bool true), (.int .u8 (nu)), (.int .i64 n), (.int .i64 n), (.int .i64 0), (.int .i64 p), (.int .i64 p)], [⟨n, n⟩, ⟨n, n⟩, ⟨n, c⟩]⟩, [(mvs n f), (natL n g), (ints n fun x => (0 : Int))], []⟩ (.exit ((0 : Nat))) (T10b) ⟨⟨[(.bool true), (.int .u8 (nu)), (.int .i64 n), (.int .i64 n), (.int .i64 n), (.int .i64 p), (.int .i64 p)], [⟨n, n⟩, ⟨n, n⟩, ⟨n, c⟩, ⟨n, n⟩]⟩, [(mvs n f), (natL n g), (natL n g2), (mvs n f2)], []⟩) ∧
(((((((0 : Nat) < n)) ∧ (((0 : Nat) + n * (4 : Nat) ≤ (mvs n f).length))) ∧ (((List.take (n * (4 : Nat)) (List.drop (0 : Nat) (mvs n f))).all one = true))) ∧ (((¬(0 : Nat) + n ≤ (0 : Nat))) ∧ ((((0 : Nat) = (0 : Nat))) ∧ (((((0 : Nat) + n) * (32 : Nat) ≤ (140737488355328 : Nat))) ∧ (((0 : Nat) + n ≤ (4611686018427387904 : Nat))))))) ∧
((ConNOK Try.prog 24 (C24c true p n c (mvs n f) na (natL n q))) ∧ (ConN.pre (C24c true p n c (mvs n f) na (natL n q)) ⟨⟨[(.int .i64 p), (.bool true)], [⟨n, c⟩]⟩, [(mvs n f)]⟩) ∧
((ConNOK Try.prog 24 (C24c true p n n (mvs n f2) na pb)) ∧ (ConN.pre (C24c true p n n (mvs n f2) na pb) ⟨⟨[(.int .i64 p), (.bool true)], [⟨n, n⟩]⟩, [(mvs n f2)]⟩) ∧
((ConOK Try.prog 25 (C25 true p n c f fo)) ∧ (Con.pre (C25 true p n c f fo) ⟨⟨[(.int .i64 p), (.bool true)], [⟨n, c⟩]⟩, [(mvs n f)]⟩) ∧
((ConOK Try.prog 25 (C25 true p n n f2 fo2)) ∧ (Con.pre (C25 true p n n f2 fo2) ⟨⟨[(.int .i64 p), (.bool true)], [⟨n, n⟩]⟩, [(mvs n f2)]⟩) ∧
((ConOK Try.prog 23 (C23i true p n c ((IntKind.i64.wrap nu).tmod (OfNat.ofNat (8 : Nat))) f lc)) ∧ (Con.pre (C23i true p n c ((IntKind.i64.wrap nu).tmod (OfNat.ofNat (8 : Nat))) f lc) ⟨⟨[(.int .i64 p), (.int .i64 ((IntKind.i64.wrap nu).tmod (8 : Int))), (.bool true)], [⟨n, c⟩]⟩, [(mvs n f)]⟩) ∧
((ConOK Try.prog 23 (C23i true p n n ((IntKind.i64.wrap nu).tmod (OfNat.ofNat (8 : Nat))) f2 ld)) ∧ (Con.pre (C23i true p n n ((IntKind.i64.wrap nu).tmod (OfNat.ofNat (8 : Nat))) f2 ld) ⟨⟨[(.int .i64 p), (.int .i64 ((IntKind.i64.wrap nu).tmod (8 : Int))), (.bool true)], [⟨n, n⟩]⟩, [(mvs n f2)]⟩) ∧
((ConOK Try.prog 19 (C19 p (IntKind.i64.wrap nu) n c f (Value.tuple { toList := [Value.agg { toList := [I b0, I b1] }, I be] }))) ∧ (Con.pre (C19 p (IntKind.i64.wrap nu) n c f (Value.tuple { toList := [Value.agg { toList := [I b0, I b1] }, I be] })) ⟨⟨[(.int .i64 p), (.int .i64 (IntKind.i64.wrap nu))], [⟨n, c⟩]⟩, [(mvs n f)]⟩) ∧
((ConOK Try.prog 19 (C19 p (IntKind.i64.wrap nu) n n f2 (Value.tuple { toList := [Value.agg { toList := [I b0, I b1] }, I be] }))) ∧ (Con.pre (C19 p (IntKind.i64.wrap nu) n n f2 (Value.tuple { toList := [Value.agg { toList := [I b0, I b1] }, I be] })) ⟨⟨[(.int .i64 p), (.int .i64 (IntKind.i64.wrap nu))], [⟨n, n⟩]⟩, [(mvs n f2)]⟩) ∧
((((some (.bool ((↑na : Int) != (↑na : Int))) : Option Value) = some (.bool false))) ∧
((ConOK Try.prog 29 (C29 fo)) ∧ (Con.pre (C29 fo) ⟨⟨[(.int .i64 fo)], []⟩, []⟩) ∧
((ConOK Try.prog 29 (C29 fo2)) ∧ (Con.pre (C29 fo2) ⟨⟨[(.int .i64 fo2)], []⟩, []⟩) ∧
((((some (.bool ((↑(popN fo) : Int) != (↑(popN fo2) : Int))) : Option Value) = some (.bool false))) ∧
((ConOK Try.prog 29 (C29 lc)) ∧ (Con.pre (C29 lc) ⟨⟨[(.int .i64 lc)], []⟩, []⟩) ∧
((ConOK Try.prog 29 (C29 ld)) ∧ (Con.pre (C29 ld) ⟨⟨[(.int .i64 ld)], []⟩, []⟩) ∧
((((some (.bool ((↑(popN lc) : Int) != (↑(popN ld) : Int))) : Option Value) = some (.bool false))) ∧
((((some (.bool (!(b0 == b0 && (fun c => b1 == b1 && c) true))) : Option Value) = some (.bool false))) ∧
((((some (.bool (be != be)) : Option Value) = some (.bool false))) ∧
((ConOK Try.prog 27 (C27 true p n c n n f g rt)) ∧ (Con.pre (C27 true p n c n n f g rt) ⟨⟨[(.int .i64 p), (.bool true)], [⟨n, c⟩, ⟨n, n⟩]⟩, [(mvs n f), (natL n g)]⟩) ∧
((((((2 : Nat) ≤ (2 : Nat))) ∧ (((.agg ⟨[(.int .i64 p), (.slice (.some ⟨8, 0, .none⟩) (n) (n))]⟩) : Value) = (.agg ⟨[(.int .i64 p), (.slice (.some ⟨8, 0, .none⟩) (n) (n))]⟩))) ∧ (True)) ∧
((ConOK Try.prog 27 (C27 true p n n n n f2 g2 rt)) ∧ (Con.pre (C27 true p n n n n f2 g2 rt) ⟨⟨[(.int .i64 p), (.bool true)], [⟨n, n⟩, ⟨n, n⟩]⟩, [(mvs n f2), (natL n g2)]⟩) ∧
((((some (.bool (!(rt == rt && true))) : Option Value) = some (.bool false))) ∧
((ClW ⟨⟨[(.bool true), (.int .i64 n), (.int .i64 0), (.int .i64 n), (.int .i64 0), (.int .i64 p), (.int .i64 p)], [⟨((0 : Nat) + n), ((0 : Nat) + n)⟩, ⟨n, n⟩, ⟨n, c⟩, ⟨n, n⟩]⟩, [(mvs n f), (mvs n f2), ([] ++ (List.take (n * (4 : Nat)) (List.drop ((0 : Nat)) (mvs n f)))), (natL n q)], []⟩) ∧ (LoopOW Try.prog .none p10b (T10c) ⟨⟨[(.bool true), (.int .i64 n), (.int .i64 0), (.int .i64 n), (.int .i64 0), (.int .i64 p), (.int .i64 p)], [⟨((0 : Nat) + n), ((0 : Nat) + n)⟩, ⟨n, n⟩, ⟨n, c⟩, ⟨n, n⟩]⟩, [(mvs n f), (mvs n f2), ([] ++ (List.take (n * (4 : Nat)) (List.drop ((0 : Nat)) (mvs n f)))), (natL n q)], []⟩ (.exit ((2 : Nat))) (T10c) ⟨⟨[(.bool true), (.int .i64 n), (.int .i64 0), (.int .i64 n), (.int .i64 n), (.int .i64 p), (.int .i64 p)], [⟨n, n⟩, ⟨n, n⟩, ⟨n, c⟩, ⟨n, n⟩]⟩, [(mvs n f), (mvs n f2), (mvs n f), (natL n q)], []⟩) ∧
(((((((0 : Nat) < n)) ∧ (((0 : Nat) + n * (1 : Nat) ≤ (natL n q).length))) ∧ (((List.take (n * (1 : Nat)) (List.drop (0 : Nat) (natL n q))).all one = true))) ∧ (((¬(0 : Nat) + n ≤ (0 : Nat))) ∧ ((((0 : Nat) = (0 : Nat))) ∧ (((((0 : Nat) + n) * (8 : Nat) ≤ (140737488355328 : Nat))) ∧ (((0 : Nat) + n ≤ (4611686018427387904 : Nat))))))) ∧
((ClW ⟨⟨[(.bool true), (.int .i64 0), (.int .i64 n), (.int .i64 0), (.int .i64 p)], [⟨n, n⟩, ⟨n, n⟩, ⟨((0 : Nat) + n), ((0 : Nat) + n)⟩, ⟨n, c⟩]⟩, [(mvs n f), (mvs n f), (natL n q), ([] ++ (List.take (n * (1 : Nat)) (List.drop ((0 : Nat)) (natL n q))))], []⟩) ∧ (LoopOW Try.prog .none p10d (T10e) ⟨⟨[(.bool true), (.int .i64 0), (.int .i64 n), (.int .i64 0), (.int .i64 p)], [⟨n, n⟩, ⟨n, n⟩, ⟨((0 : Nat) + n), ((0 : Nat) + n)⟩, ⟨n, c⟩]⟩, [(mvs n f), (mvs n f), (natL n q), ([] ++ (List.take (n * (1 : Nat)) (List.drop ((0 : Nat)) (natL n q))))], []⟩ (.exit ((6 : Nat))) (T10e) ⟨⟨[(.bool true), (.int .i64 0), (.int .i64 n), (.int .i64 n), (.int .i64 p)], [⟨n, n⟩, ⟨n, n⟩, ⟨n, n⟩, ⟨n, c⟩]⟩, [(mvs n f), (mvs n f), (ints n fun x => (-9 : Int)), (natL n q)], []⟩) ∧
((ConNOK Try.prog 24 (C24c true p n c (mvs n f) na (natL n q))) ∧ (ConN.pre (C24c true p n c (mvs n f) na (natL n q)) ⟨⟨[(.int .i64 p), (.bool true)], [⟨n, c⟩]⟩, [(mvs n f)]⟩) ∧
((ConOK Try.prog 32 (C32 n n n fun i => (↑(q i) : Int))) ∧ (Con.pre (C32 n n n fun i => (↑(q i) : Int)) ⟨⟨[], [⟨n, n⟩, ⟨n, n⟩]⟩, [(natL n q), (natL n q)]⟩) ∧
((ClW ⟨⟨[(.int .i64 n), (.int .i64 0), (.int .i64 p)], [⟨n, n⟩, ⟨n, c⟩]⟩, [(mvs n f), (mvs n f)], []⟩) ∧ (LoopOW Try.prog .none p10e (T10f) ⟨⟨[(.int .i64 n), (.int .i64 0), (.int .i64 p)], [⟨n, n⟩, ⟨n, c⟩]⟩, [(mvs n f), (mvs n f)], []⟩ (.exit ((8 : Nat))) (T10f) ⟨⟨[(.int .i64 n), (.int .i64 n), (.int .i64 p)], [⟨n, n⟩, ⟨n, c⟩]⟩, [(mvs n f), (mvs n f)], []⟩) ∧
((ConOK Try.prog 12 (C12)) ∧ (Con.pre (C12) ⟨⟨[], []⟩, []⟩) ∧
R (.ret (.bool true))))))))))))))))))))))))))))))))))))) := by kernel_rfl
theorem f10f (p nu b0 b1 be : Int) (n c k d na fo fo2 lc ld : Nat) (rt : Bool) (f f2 : Nat → Mv) (bs : Nat → Int) (g g2 q : Nat → Nat) (pb : List Value) (R : ARes → Prop) : (vx.call 10 [hV p n c, slV 1 k d, .bool false, .int .u8 nu] (retK R) (m2b (mvs n f) (u8s k bs)) ((17, .val (.bool false)) :: (4, Hint.con ((C21 p n c f).when (ARes.ret (Value.bool true)))) :: (15, Hint.conN (C13q p n c k d f bs g)) :: (2, Hint.mk n (ints n fun x => (0 : Int))) :: (5, Hint.loopW T10a (AExit.exit (0 : Nat)) T10b fun x => h10b p false nu n c (mvs n f) (natL n g) (natL n g2) n (mvs n f2)) :: (3, Hint.growN) :: (3, Hint.conN (C24c false p n c (mvs n f) na (natL n q))) :: (9, Hint.conN (C24c false p n n (mvs n f2) na pb)) :: (9, Hint.con (C25 false p n c f fo)) :: (7, Hint.con (C25 false p n n f2 fo2)) :: (10, Hint.con (C23i false p n c ((IntKind.i64.wrap nu).tmod (8 : Int)) f lc)) :: (10, Hint.con (C23i false p n n ((IntKind.i64.wrap nu).tmod (8 : Int)) f2 ld)) :: (8, Hint.con (C19 p (IntKind.i64.wrap nu) n c f (Value.tuple { toList := [Value.agg { toList := [I b0, I b1] }, I be] }))) :: (9, Hint.con (C19 p (IntKind.i64.wrap nu) n n f2 (Value.tuple { toList := [Value.agg { toList := [I b0, I b1] }, I be] }))) :: (9, .val (.bool false)) :: (23, Hint.con (C29 fo)) :: (0, Hint.con (C29 fo2)) :: (0, .val (.bool false)) :: (19, Hint.con (C29 lc)) :: (0, Hint.con (C29 ld)) :: (0, .val (.bool false)) :: (4, .val (.bool false)) :: (4, .val (.bool false)) :: (8, Hint.con (C27 false p n c n n f g rt)) :: (0, Hint.again) :: (0, Hint.con (C27 false p n n n n f2 g2 rt)) :: (0, .val (.bool false)) :: (4, Hint.loopW T10c (AExit.exit (2 : Nat)) T10c fun x => h10c p false n c (mvs n f) (mvs n f2) (mvs n f) (natL n q) n) :: (2, Hint.growN) :: (4, Hint.loopW T10e (AExit.exit (6 : Nat)) T10e fun x => h10e p false n c (mvs n f) (mvs n f) (ints n fun x => (-9 : Int)) (natL n q) n) :: (2, Hint.conN (C24c false p n c (mvs n f) na (natL n q))) :: (13, Hint.con (C32 n n n fun i => (↑(q i) : Int))) :: (6, Hint.loopW T10f (AExit.exit (8 : Nat)) T10f fun x => h10f p n c (mvs n f) (mvs n f) n) :: (0, Hint.con C12) :: [])) =
(((((some (.bool (decide ((if (↑(0 : Nat) : Int) > (↑n : Int) then (↑(0 : Nat) : Int) else (↑n : Int)) > (40 : Int)))) : Option Value) = some (.bool false))) ∧
((ConOK Try.prog 21 ((C21 p n c f).when (ARes.ret (Value.bool true)))) ∧ (Con.pre ((C21 p n c f).when (ARes.ret (Value.bool true))) ⟨⟨[(.int .i64 p)], [⟨n, c⟩]⟩, [(mvs n f)]⟩) ∧
((ConNOK Try.prog 13 (C13q p n c k d f bs g)) ∧ (ConN.pre (C13q p n c k d f bs g) ⟨⟨[(.int .i64 p)], [⟨n, c⟩, ⟨k, d⟩]⟩, [(mvs n f), (u8s k bs)]⟩) ∧
((((((↑n : Int) = (↑n : Int))) ∧ (((↑n : Int) = (↑n : Int)))) ∧ (((((↑n : Int) ≤ (2 : Int) ^ (40 : Nat))) ∧ (((↑(8 : Nat) : Int) * (↑n : Int) ≤ (2 : Int) ^ (48 : Nat)))) ∧ ((zCells [Value.int .i64 (0 : Int)] (n * (1 : Nat)) = ints n fun x => (0 : Int))))) ∧
((ClW ⟨⟨[(.bool false), (.int .u8 (nu)), (.int .i64 n), (.int .i64 n), (.int .i64 0), (.int .i64 p), (.int .i64 p)], [⟨n, n⟩, ⟨n, n⟩, ⟨n, c⟩]⟩, [(mvs n f), (natL n g), (ints n fun x => (0 : Int))], []⟩) ∧ (LoopOW Try.prog .none p10a (T10a) ⟨⟨[(.bool false), (.int .u8 (nu)), (.int .i64 n), (.int .i64 n), (.int .i64 0), (.int .i64 p), (.int .i64 p)], [⟨n, n⟩, ⟨n, n⟩, ⟨n, c⟩]⟩, [(mvs n f), (natL n g), (ints n fun x => (0 : Int))], []⟩ (.exit ((0 : Nat))) (T10b) ⟨⟨[(.bool false), (.int .u8 (nu)), (.int .i64 n), (.int .i64 n), (.int .i64 n), (.int .i64 p), (.int .i64 p)], [⟨n, n⟩, ⟨n, n⟩, ⟨n, c⟩, ⟨n, n⟩]⟩, [(mvs n f), (natL n g), (natL n g2), (mvs n f2)], []⟩) ∧
(((((((0 : Nat) < n)) ∧ (((0 : Nat) + n * (4 : Nat) ≤ (mvs n f).length))) ∧ (((List.take (n * (4 : Nat)) (List.drop (0 : Nat) (mvs n f))).all one = true))) ∧ (((¬(0 : Nat) + n ≤ (0 : Nat))) ∧ ((((0 : Nat) = (0 : Nat))) ∧ (((((0 : Nat) + n) * (32 : Nat) ≤ (140737488355328 : Nat))) ∧ (((0 : Nat) + n ≤ (4611686018427387904 : Nat))))))) ∧
((ConNOK Try.prog 24 (C24c false p n c (mvs n f) na (natL n q))) ∧ (ConN.pre (C24c false p n c (mvs n f) na (natL n q)) ⟨⟨[(.int .i64 p), (.bool false)], [⟨n, c⟩]⟩, [(mvs n f)]⟩) ∧
((ConNOK Try.prog 24 (C24c false p n n (mvs n f2) na pb)) ∧ (ConN.pre (C24c false p n n (mvs n f2) na pb) ⟨⟨[(.int .i64 p), (.bool false)], [⟨n, n⟩]⟩, [(mvs n f2)]⟩) ∧
((ConOK Try.prog 25 (C25 false p n c f fo)) ∧ (Con.pre (C25 false p n c f fo) ⟨⟨[(.int .i64 p), (.bool false)], [⟨n, c⟩]⟩, [(mvs n f)]⟩) ∧
((ConOK Try.prog 25 (C25 false p n n f2 fo2)) ∧ (Con.pre (C25 false p n n f2 fo2) ⟨⟨[(.int .i64 p), (.bool false)], [⟨n, n⟩]⟩, [(mvs n f2)]⟩) ∧
((ConOK Try.prog 23 (C23i false p n c ((IntKind.i64.wrap nu).tmod (OfNat.ofNat (8 : Nat))) f lc)) ∧ (Con.pre (C23i false p n c ((IntKind.i64.wrap nu).tmod (OfNat.ofNat (8 : Nat))) f lc) ⟨⟨[(.int .i64 p), (.int .i64 ((IntKind.i64.wrap nu).tmod (8 : Int))), (.bool false)], [⟨n, c⟩]⟩, [(mvs n f)]⟩) ∧
((ConOK Try.prog 23 (C23i false p n n ((IntKind.i64.wrap nu).tmod (OfNat.ofNat (8 : Nat))) f2 ld)) ∧ (Con.pre (C23i false p n n ((IntKind.i64.wrap nu).tmod (OfNat.ofNat (8 : Nat))) f2 ld) ⟨⟨[(.int .i64 p), (.int .i64 ((IntKind.i64.wrap nu).tmod (8 : Int))), (.bool false)], [⟨n, n⟩]⟩, [(mvs n f2)]⟩) ∧
((ConOK Try.prog 19 (C19 p (IntKind.i64.wrap nu) n c f (Value.tuple { toList := [Value.agg { toList := [I b0, I b1] }, I be] }))) ∧ (Con.pre (C19 p (IntKind.i64.wrap nu) n c f (Value.tuple { toList := [Value.agg { toList := [I b0, I b1] }, I be] })) ⟨⟨[(.int .i64 p), (.int .i64 (IntKind.i64.wrap nu))], [⟨n, c⟩]⟩, [(mvs n f)]⟩) ∧
((ConOK Try.prog 19 (C19 p (IntKind.i64.wrap nu) n n f2 (Value.tuple { toList := [Value.agg { toList := [I b0, I b1] }, I be] }))) ∧ (Con.pre (C19 p (IntKind.i64.wrap nu) n n f2 (Value.tuple { toList := [Value.agg { toList := [I b0, I b1] }, I be] })) ⟨⟨[(.int .i64 p), (.int .i64 (IntKind.i64.wrap nu))], [⟨n, n⟩]⟩, [(mvs n f2)]⟩) ∧
((((some (.bool ((↑na : Int) != (↑na : Int))) : Option Value) = some (.bool false))) ∧
((ConOK Try.prog 29 (C29 fo)) ∧ (Con.pre (C29 fo) ⟨⟨[(.int .i64 fo)], []⟩, []⟩) ∧
((ConOK Try.prog 29 (C29 fo2)) ∧ (Con.pre (C29 fo2) ⟨⟨[(.int .i64 fo2)], []⟩, []⟩) ∧
((((some (.bool ((↑(popN fo) : Int) != (↑(popN fo2) : Int))) : Option Value) = some (.bool false))) ∧
((ConOK Try.prog 29 (C29 lc)) ∧ (Con.pre (C29 lc) ⟨⟨[(.int .i64 lc)], []⟩, []⟩) ∧
((ConOK Try.prog 29 (C29 ld)) ∧ (Con.pre (C29 ld) ⟨⟨[(.int .i64 ld)], []⟩, []⟩) ∧
((((some (.bool ((↑(popN lc) : Int) != (↑(popN ld) : Int))) : Option Value) = some (.bool false))) ∧
((((some (.bool (!(b0 == b0 && (fun c => b1 == b1 && c) true))) : Option Value) = some (.bool false))) ∧
((((some (.bool (be != be)) : Option Value) = some (.bool false))) ∧
((ConOK Try.prog 27 (C27 false p n c n n f g rt)) ∧ (Con.pre (C27 false p n c n n f g rt) ⟨⟨[(.int .i64 p), (.bool false)], [⟨n, c⟩, ⟨n, n⟩]⟩, [(mvs n f), (natL n g)]⟩) ∧
((((((2 : Nat) ≤ (2 : Nat))) ∧ (((.agg ⟨[(.int .i64 p), (.slice (.some ⟨8, 0, .none⟩) (n) (n))]⟩) : Value) = (.agg ⟨[(.int .i64 p), (.slice (.some ⟨8, 0, .none⟩) (n) (n))]⟩))) ∧ (True)) ∧
((ConOK Try.prog 27 (C27 false p n n n n f2 g2 rt)) ∧ (Con.pre (C27 false p n n n n f2 g2 rt) ⟨⟨[(.int .i64 p), (.bool false)], [⟨n, n⟩, ⟨n, n⟩]⟩, [(mvs n f2), (natL n g2)]⟩) ∧
((((some (.bool (!(rt == rt && true))) : Option Value) = some (.bool false))) ∧
((ClW ⟨⟨[(.bool false), (.int .i64 n), (.int .i64 0), (.int .i64 n), (.int .i64 0), (.int .i64 p), (.int .i64 p)], [⟨((0 : Nat) + n), ((0 : Nat) + n)⟩, ⟨n, n⟩, ⟨n, c⟩, ⟨n, n⟩]⟩, [(mvs n f), (mvs n f2), ([] ++ (List.take (n * (4 : Nat)) (List.drop ((0 : Nat)) (mvs n f)))), (natL n q)], []⟩) ∧ (LoopOW Try.prog .none p10b (T10c) ⟨⟨[(.bool false), (.int .i64 n), (.int .i64 0), (.int .i64 n), (.int .i64 0), (.int .i64 p), (.int .i64 p)], [⟨((0 : Nat) + n), ((0 : Nat) + n)⟩, ⟨n, n⟩, ⟨n, c⟩, ⟨n, n⟩]⟩, [(mvs n f), (mvs n f2), ([] ++ (List.take (n * (4 : Nat)) (List.drop ((0 : Nat)) (mvs n f)))), (natL n q)], []⟩ (.exit ((2 : Nat))) (T10c) ⟨⟨[(.bool false), (.int .i64 n), (.int .i64 0), (.int .i64 n), (.int .i64 n), (.int .i64 p), (.int .i64 p)], [⟨n, n⟩, ⟨n, n⟩, ⟨n, c⟩, ⟨n, n⟩]⟩, [(mvs n f), (mvs n f2), (mvs n f), (natL n q)], []⟩) ∧
(((((((0 : Nat) < n)) ∧ (((0 : Nat) + n * (1 : Nat) ≤ (natL n q).length))) ∧ (((List.take (n * (1 : Nat)) (List.drop (0 : Nat) (natL n q))).all one = true))) ∧ (((¬(0 : Nat) + n ≤ (0 : Nat))) ∧ ((((0 : Nat) = (0 : Nat))) ∧ (((((0 : Nat) + n) * (8 : Nat) ≤ (140737488355328 : Nat))) ∧ (((0 : Nat) + n ≤ (4611686018427387904 : Nat))))))) ∧
((ClW ⟨⟨[(.bool false), (.int .i64 0), (.int .i64 n), (.int .i64 0), (.int .i64 p)], [⟨n, n⟩, ⟨n, n⟩, ⟨((0 : Nat) + n), ((0 : Nat) + n)⟩, ⟨n, c⟩]⟩, [(mvs n f), (mvs n f), (natL n q), ([] ++ (List.take (n * (1 : Nat)) (List.drop ((0 : Nat)) (natL n q))))], []⟩) ∧ (LoopOW Try.prog .none p10d (T10e) ⟨⟨[(.bool false), (.int .i64 0), (.int .i64 n), (.int .i64 0), (.int .i64 p)], [⟨n, n⟩, ⟨n, n⟩, ⟨((0 : Nat) + n), ((0 : Nat) + n)⟩, ⟨n, c⟩]⟩, [(mvs n f), (mvs n f), (natL n q), ([] ++ (List.take (n * (1 : Nat)) (List.drop ((0 : Nat)) (natL n q))))], []⟩ (.exit ((6 : Nat))) (T10e) ⟨⟨[(.bool false), (.int .i64 0), (.int .i64 n), (.int .i64 n), (.int .i64 p)], [⟨n, n⟩, ⟨n, n⟩, ⟨n, n⟩, ⟨n, c⟩]⟩, [(mvs n f), (mvs n f), (ints n fun x => (-9 : Int)), (natL n q)], []⟩) ∧
((ConNOK Try.prog 24 (C24c false p n c (mvs n f) na (natL n q))) ∧ (ConN.pre (C24c false p n c (mvs n f) na (natL n q)) ⟨⟨[(.int .i64 p), (.bool false)], [⟨n, c⟩]⟩, [(mvs n f)]⟩) ∧
((ConOK Try.prog 32 (C32 n n n fun i => (↑(q i) : Int))) ∧ (Con.pre (C32 n n n fun i => (↑(q i) : Int)) ⟨⟨[], [⟨n, n⟩, ⟨n, n⟩]⟩, [(natL n q), (natL n q)]⟩) ∧
((ClW ⟨⟨[(.int .i64 n), (.int .i64 0), (.int .i64 p)], [⟨n, n⟩, ⟨n, c⟩]⟩, [(mvs n f), (mvs n f)], []⟩) ∧ (LoopOW Try.prog .none p10e (T10f) ⟨⟨[(.int .i64 n), (.int .i64 0), (.int .i64 p)], [⟨n, n⟩, ⟨n, c⟩]⟩, [(mvs n f), (mvs n f)], []⟩ (.exit ((8 : Nat))) (T10f) ⟨⟨[(.int .i64 n), (.int .i64 n), (.int .i64 p)], [⟨n, n⟩, ⟨n, c⟩]⟩, [(mvs n f), (mvs n f)], []⟩) ∧
((ConOK Try.prog 12 (C12)) ∧ (Con.pre (C12) ⟨⟨[], []⟩, []⟩) ∧
R (.ret (.bool true))))))))))))))))))))))))))))))))))))) := by kernel_rfl
theorem f10tz (p nu b0 b1 be : Int) (n c na fo fo2 lc ld : Nat) (rt : Bool) (f f2 : Nat → Mv) (g g2 q : Nat → Nat) (pb : List Value) (R : ARes → Prop) : (vx.call 10 [hV p n c, nilS, .bool true, .int .u8 nu] (retK R) (m2n (mvs n f)) ((17, .val (.bool false)) :: (4, Hint.con ((C21 p n c f).when (ARes.ret (Value.bool true)))) :: (15, Hint.conN (C13z p n c f g)) :: (2, Hint.mk n (ints n fun x => (0 : Int))) :: (5, Hint.loopW T10a (AExit.exit (0 : Nat)) T10b fun x => h10b p true nu n c (mvs n f) (natL n g) (natL n g2) n (mvs n f2)) :: (3, Hint.growN) :: (3, Hint.conN (C24c true p n c (mvs n f) na (natL n q))) :: (9, Hint.conN (C24c true p n n (mvs n f2) na pb)) :: (9, Hint.con (C25 true p n c f fo)) :: (7, Hint.con (C25 true p n n f2 fo2)) :: (10, Hint.con (C23i true p n c ((IntKind.i64.wrap nu).tmod (8 : Int)) f lc)) :: (10, Hint.con (C23i true p n n ((IntKind.i64.wrap nu).tmod (8 : Int)) f2 ld)) :: (8, Hint.con (C19 p (IntKind.i64.wrap nu) n c f (Value.tuple { toList := [Value.agg { toList := [I b0, I b1] }, I be] }))) :: (9, Hint.con (C19 p (IntKind.i64.wrap nu) n n f2 (Value.tuple { toList := [Value.agg { toList := [I b0, I b1] }, I be] }))) :: (9, .val (.bool false)) :: (23, Hint.con (C29 fo)) :: (0, Hint.con (C29 fo2)) :: (0, .val (.bool false)) :: (19, Hint.con (C29 lc)) :: (0, Hint.con (C29 ld)) :: (0, .val (.bool false)) :: (4, .val (.bool false)) :: (4, .val (.bool false)) :: (8, Hint.con (C27 true p n c n n f g rt)) :: (0, Hint.again) :: (0, Hint.con (C27 true p n n n n f2 g2 rt)) :: (0, .val (.bool false)) :: (4, Hint.loopW T10c (AExit.exit (2 : Nat)) T10c fun x => h10c p true n c (mvs n f) (mvs n f2) (mvs n f) (natL n q) n) :: (2, Hint.growN) :: (4, Hint.loopW T10e (AExit.exit (6 : Nat)) T10e fun x => h10e p true n c (mvs n f) (mvs n f) (ints n fun x => (-9 : Int)) (natL n q) n) :: (2, Hint.conN (C24c true p n c (mvs n f) na (natL n q))) :: (13, Hint.con (C32 n n n fun i => (↑(q i) : Int))) :: (6, Hint.loopW T10f (AExit.exit (8 : Nat)) T10f fun x => h10f p n c (mvs n f) (mvs n f) n) :: (0, Hint.con C12) :: [])) =
(((((some (.bool (decide ((if (↑(0 : Nat) : Int) > (↑n : Int) then (↑(0 : Nat) : Int) else (↑n : Int)) > (40 : Int)))) : Option Value) = some (.bool false))) ∧
((ConOK Try.prog 21 ((C21 p n c f).when (ARes.ret (Value.bool true)))) ∧ (Con.pre ((C21 p n c f).when (ARes.ret (Value.bool true))) ⟨⟨[(.int .i64 p)], [⟨n, c⟩]⟩, [(mvs n f)]⟩) ∧
((ConNOK Try.prog 13 (C13z p n c f g)) ∧ (ConN.pre (C13z p n c f g) ⟨⟨[(.int .i64 p)], [⟨n, c⟩]⟩, [(mvs n f)]⟩) ∧
((((((↑n : Int) = (↑n : Int))) ∧ (((↑n : Int) = (↑n : Int)))) ∧ (((((↑n : Int) ≤ (2 : Int) ^ (40 : Nat))) ∧ (((↑(8 : Nat) : Int) * (↑n : Int) ≤ (2 : Int) ^ (48 : Nat)))) ∧ ((zCells [Value.int .i64 (0 : Int)] (n * (1 : Nat)) = ints n fun x => (0 : Int))))) ∧
((ClW ⟨⟨[(.bool true), (.int .u8 (nu)), (.int .i64 n), (.int .i64 n), (.int .i64 0), (.int .i64 p), (.int .i64 p)], [⟨n, n⟩, ⟨n, n⟩, ⟨n, c⟩]⟩, [(mvs n f), (natL n g), (ints n fun x => (0 : Int))], []⟩) ∧ (LoopOW Try.prog .none p10a (T10a) ⟨⟨[(.bool true), (.int .u8 (nu)), (.int .i64 n), (.int .i64 n), (.int .i64 0), (.int .i64 p), (.int .i64 p)], [⟨n, n⟩, ⟨n, n⟩, ⟨n, c⟩]⟩, [(mvs n f), (natL n g), (ints n fun x => (0 : Int))], []⟩ (.exit ((0 : Nat))) (T10b) ⟨⟨[(.bool true), (.int .u8 (nu)), (.int .i64 n), (.int .i64 n), (.int .i64 n), (.int .i64 p), (.int .i64 p)], [⟨n, n⟩, ⟨n, n⟩, ⟨n, c⟩, ⟨n, n⟩]⟩, [(mvs n f), (natL n g), (natL n g2), (mvs n f2)], []⟩) ∧
(((((((0 : Nat) < n)) ∧ (((0 : Nat) + n * (4 : Nat) ≤ (mvs n f).length))) ∧ (((List.take (n * (4 : Nat)) (List.drop (0 : Nat) (mvs n f))).all one = true))) ∧ (((¬(0 : Nat) + n ≤ (0 : Nat))) ∧ ((((0 : Nat) = (0 : Nat))) ∧ (((((0 : Nat) + n) * (32 : Nat) ≤ (140737488355328 : Nat))) ∧ (((0 : Nat) + n ≤ (4611686018427387904 : Nat))))))) ∧
((ConNOK Try.prog 24 (C24c true p n c (mvs n f) na (natL n q))) ∧ (ConN.pre (C24c true p n c (mvs n f) na (natL n q)) ⟨⟨[(.int .i64 p), (.bool true)], [⟨n, c⟩]⟩, [(mvs n f)]⟩) ∧
((ConNOK Try.prog 24 (C24c true p n n (mvs n f2) na pb)) ∧ (ConN.pre (C24c true p n n (mvs n f2) na pb) ⟨⟨[(.int .i64 p), (.bool true)], [⟨n, n⟩]⟩, [(mvs n f2)]⟩) ∧
((ConOK Try.prog 25 (C25 true p n c f fo)) ∧ (Con.pre (C25 true p n c f fo) ⟨⟨[(.int .i64 p), (.bool true)], [⟨n, c⟩]⟩, [(mvs n f)]⟩) ∧
((ConOK Try.prog 25 (C25 true p n n f2 fo2)) ∧ (Con.pre (C25 true p n n f2 fo2) ⟨⟨[(.int .i64 p), (.bool true)], [⟨n, n⟩]⟩, [(mvs n f2)]⟩) ∧
((ConOK Try.prog 23 (C23i true p n c ((IntKind.i64.wrap nu).tmod (OfNat.ofNat (8 : Nat))) f lc)) ∧ (Con.pre (C23i true p n c ((IntKind.i64.wrap nu).tmod (OfNat.ofNat (8 : Nat))) f lc) ⟨⟨[(.int .i64 p), (.int .i64 ((IntKind.i64.wrap nu).tmod (8 : Int))), (.bool true)], [⟨n, c⟩]⟩, [(mvs n f)]⟩) ∧
((ConOK Try.prog 23 (C23i true p n n ((IntKind.i64.wrap nu).tmod (OfNat.ofNat (8 : Nat))) f2 ld)) ∧ (Con.pre (C23i true p n n ((IntKind.i64.wrap nu).tmod (OfNat.ofNat (8 : Nat))) f2 ld) ⟨⟨[(.int .i64 p), (.int .i64 ((IntKind.i64.wrap nu).tmod (8 : Int))), (.bool true)], [⟨n, n⟩]⟩, [(mvs n f2)]⟩) ∧
((ConOK Try.prog 19 (C19 p (IntKind.i64.wrap nu) n c f (Value.tuple { toList := [Value.agg { toList := [I b0, I b1] }, I be] }))) ∧ (Con.pre (C19 p (IntKind.i64.wrap nu) n c f (Value.tuple { toList := [Value.agg { toList := [I b0, I b1] }, I be] })) ⟨⟨[(.int .i64 p), (.int .i64 (IntKind.i64.wrap nu))], [⟨n, c⟩]⟩, [(mvs n f)]⟩) ∧
((ConOK Try.prog 19 (C19 p (IntKind.i64.wrap nu) n n f2 (Value.tuple { toList := [Value.agg { toList := [I b0, I b1] }, I be] }))) ∧ (Con.pre (C19 p (IntKind.i64.wrap nu) n n f2 (Value.tuple { toList := [Value.agg { toList := [I b0, I b1] }, I be] })) ⟨⟨[(.int .i64 p), (.int .i64 (IntKind.i64.wrap nu))], [⟨n, n⟩]⟩, [(mvs n f2)]⟩) ∧
((((some (.bool ((↑na : Int) != (↑na : Int))) : Option Value) = some (.bool false))) ∧
((ConOK Try.prog 29 (C29 fo)) ∧ (Con.pre (C29 fo) ⟨⟨[(.int .i64 fo)], []⟩, []⟩) ∧
((ConOK Try.prog 29 (C29 fo2)) ∧ (Con.pre (C29 fo2) ⟨⟨[(.int .i64 fo2)], []⟩, []⟩) ∧
((((some (.bool ((↑(popN fo) : Int) != (↑(popN fo2) : Int))) : Option Value) = some (.bool false))) ∧
((ConOK Try.prog 29 (C29 lc)) ∧ (Con.pre (C29 lc) ⟨⟨[(.int .i64 lc)], []⟩, []⟩) ∧
((ConOK Try.prog 29 (C29 ld)) ∧ (Con.pre (C29 ld) ⟨⟨[(.int .i64 ld)], []⟩, []⟩) ∧
((((some (.bool ((↑(popN lc) : Int) != (↑(popN ld) : Int))) : Option Value) = some (.bool false))) ∧
((((some (.bool (!(b0 == b0 && (fun c => b1 == b1 && c) true))) : Option Value) = some (.bool false))) ∧
((((some (.bool (be != be)) : Option Value) = some (.bool false))) ∧
((ConOK Try.prog 27 (C27 true p n c n n f g rt)) ∧ (Con.pre (C27 true p n c n n f g rt) ⟨⟨[(.int .i64 p), (.bool true)], [⟨n, c⟩, ⟨n, n⟩]⟩, [(mvs n f), (natL n g)]⟩) ∧
((((((2 : Nat) ≤ (2 : Nat))) ∧ (((.agg ⟨[(.int .i64 p), (.slice (.some ⟨8, 0, .none⟩) (n) (n))]⟩) : Value) = (.agg ⟨[(.int .i64 p), (.slice (.some ⟨8, 0, .none⟩) (n) (n))]⟩))) ∧ (True)) ∧
((ConOK Try.prog 27 (C27 true p n n n n f2 g2 rt)) ∧ (Con.pre (C27 true p n n n n f2 g2 rt) ⟨⟨[(.int .i64 p), (.bool true)], [⟨n, n⟩, ⟨n, n⟩]⟩, [(mvs n f2), (natL n g2)]⟩) ∧
((((some (.bool (!(rt == rt && true))) : Option Value) = some (.bool false))) ∧
((ClW ⟨⟨[(.bool true), (.int .i64 n), (.int .i64 0), (.int .i64 n), (.int .i64 0), (.int .i64 p), (.int .i64 p)], [⟨((0 : Nat) + n), ((0 : Nat) + n)⟩, ⟨n, n⟩, ⟨n, c⟩, ⟨n, n⟩]⟩, [(mvs n f), (mvs n f2), ([] ++ (List.take (n * (4 : Nat)) (List.drop ((0 : Nat)) (mvs n f)))), (natL n q)], []⟩) ∧ (LoopOW Try.prog .none p10b (T10c) ⟨⟨[(.bool true), (.int .i64 n), (.int .i64 0), (.int .i64 n), (.int .i64 0), (.int .i64 p), (.int .i64 p)], [⟨((0 : Nat) + n), ((0 : Nat) + n)⟩, ⟨n, n⟩, ⟨n, c⟩, ⟨n, n⟩]⟩, [(mvs n f), (mvs n f2), ([] ++ (List.take (n * (4 : Nat)) (List.drop ((0 : Nat)) (mvs n f)))), (natL n q)], []⟩ (.exit ((2 : Nat))) (T10c) ⟨⟨[(.bool true), (.int .i64 n), (.int .i64 0), (.int .i64 n), (.int .i64 n), (.int .i64 p), (.int .i64 p)], [⟨n, n⟩, ⟨n, n⟩, ⟨n, c⟩, ⟨n, n⟩]⟩, [(mvs n f), (mvs n f2), (mvs n f), (natL n q)], []⟩) ∧
(((((((0 : Nat) < n)) ∧ (((0 : Nat) + n * (1 : Nat) ≤ (natL n q).length))) ∧ (((List.take (n * (1 : Nat)) (List.drop (0 : Nat) (natL n q))).all one = true))) ∧ (((¬(0 : Nat) + n ≤ (0 : Nat))) ∧ ((((0 : Nat) = (0 : Nat))) ∧ (((((0 : Nat) + n) * (8 : Nat) ≤ (140737488355328 : Nat))) ∧ (((0 : Nat) + n ≤ (4611686018427387904 : Nat))))))) ∧
((ClW ⟨⟨[(.bool true), (.int .i64 0), (.int .i64 n), (.int .i64 0), (.int .i64 p)], [⟨n, n⟩, ⟨n, n⟩, ⟨((0 : Nat) + n), ((0 : Nat) + n)⟩, ⟨n, c⟩]⟩, [(mvs n f), (mvs n f), (natL n q), ([] ++ (List.take (n * (1 : Nat)) (List.drop ((0 : Nat)) (natL n q))))], []⟩) ∧ (LoopOW Try.prog .none p10d (T10e) ⟨⟨[(.bool true), (.int .i64 0), (.int .i64 n), (.int .i64 0), (.int .i64 p)], [⟨n, n⟩, ⟨n, n⟩, ⟨((0 : Nat) + n), ((0 : Nat) + n)⟩, ⟨n, c⟩]⟩, [(mvs n f), (mvs n f), (natL n q), ([] ++ (List.take (n * (1 : Nat)) (List.drop ((0 : Nat)) (natL n q))))], []⟩ (.exit ((6 : Nat))) (T10e) ⟨⟨[(.bool true), (.int .i64 0), (.int .i64 n), (.int .i64 n), (.int .i64 p)], [⟨n, n⟩, ⟨n, n⟩, ⟨n, n⟩, ⟨n, c⟩]⟩, [(mvs n f), (mvs n f), (ints n fun x => (-9 : Int)), (natL n q)], []⟩) ∧
((ConNOK Try.prog 24 (C24c true p n c (mvs n f) na (natL n q))) ∧ (ConN.pre (C24c true p n c (mvs n f) na (natL n q)) ⟨⟨[(.int .i64 p), (.bool true)], [⟨n, c⟩]⟩, [(mvs n f)]⟩) ∧
((ConOK Try.prog 32 (C32 n n n fun i => (↑(q i) : Int))) ∧ (Con.pre (C32 n n n fun i => (↑(q i) : Int)) ⟨⟨[], [⟨n, n⟩, ⟨n, n⟩]⟩, [(natL n q), (natL n q)]⟩) ∧
((ClW ⟨⟨[(.int .i64 n), (.int .i64 0), (.int .i64 p)], [⟨n, n⟩, ⟨n, c⟩]⟩, [(mvs n f), (mvs n f)], []⟩) ∧ (LoopOW Try.prog .none p10e (T10f) ⟨⟨[(.int .i64 n), (.int .i64 0), (.int .i64 p)], [⟨n, n⟩, ⟨n, c⟩]⟩, [(mvs n f), (mvs n f)], []⟩ (.exit ((8 : Nat))) (T10f) ⟨⟨[(.int .i64 n), (.int .i64 n), (.int .i64 p)], [⟨n, n⟩, ⟨n, c⟩]⟩, [(mvs n f), (mvs n f)], []⟩) ∧
((ConOK Try.prog 12 (C12)) ∧ (Con.pre (C12) ⟨⟨[], []⟩, []⟩) ∧
R (.ret (.bool true))))))))))))))))))))))))))))))))))))) := by kernel_rfl
theorem f10fz (p nu b0 b1 be : Int) (n c na fo fo2 lc ld : Nat) (rt : Bool) (f f2 : Nat → Mv) (g g2 q : Nat → Nat) (pb : List Value) (R : ARes → Prop) : (vx.call 10 [hV p n c, nilS, .bool false, .int .u8 nu] (retK R) (m2n (mvs n f)) ((17, .val (.bool false)) :: (4, Hint.con ((C21 p n c f).when (ARes.ret (Value.bool true)))) :: (15, Hint.conN (C13z p n c f g)) :: (2, Hint.mk n (ints n fun x => (0 : Int))) :: (5, Hint.loopW T10a (AExit.exit (0 : Nat)) T10b fun x => h10b p false nu n c (mvs n f) (natL n g) (natL n g2) n (mvs n f2)) :: (3, Hint.growN) :: (3, Hint.conN (C24c false p n c (mvs n f) na (natL n q))) :: (9, Hint.conN (C24c false p n n (mvs n f2) na pb)) :: (9, Hint.con (C25 false p n c f fo)) :: (7, Hint.con (C25 false p n n f2 fo2)) :: (10, Hint.con (C23i false p n c ((IntKind.i64.wrap nu).tmod (8 : Int)) f lc)) :: (10, Hint.con (C23i false p n n ((IntKind.i64.wrap nu).tmod (8 : Int)) f2 ld)) :: (8, Hint.con (C19 p (IntKind.i64.wrap nu) n c f (Value.tuple { toList := [Value.agg { toList := [I b0, I b1] }, I be] }))) :: (9, Hint.con (C19 p (IntKind.i64.wrap nu) n n f2 (Value.tuple { toList := [Value.agg { toList := [I b0, I b1] }, I be] }))) :: (9, .val (.bool false)) :: (23, Hint.con (C29 fo)) :: (0, Hint.con (C29 fo2)) :: (0, .val (.bool false)) :: (19, Hint.con (C29 lc)) :: (0, Hint.con (C29 ld)) :: (0, .val (.bool false)) :: (4, .val (.bool false)) :: (4, .val (.bool false)) :: (8, Hint.con (C27 false p n c n n f g rt)) :: (0, Hint.again) :: (0, Hint.con (C27 false p n n n n f2 g2 rt)) :: (0, .val (.bool false)) :: (4, Hint.loopW T10c (AExit.exit (2 : Nat)) T10c fun x => h10c p false n c (mvs n f) (mvs n f2) (mvs n f) (natL n q) n) :: (2, Hint.growN) :: (4, Hint.loopW T10e (AExit.exit (6 : Nat)) T10e fun x => h10e p false n c (mvs n f) (mvs n f) (ints n fun x => (-9 : Int)) (natL n q) n) :: (2, Hint.conN (C24c false p n c (mvs n f) na (natL n q))) :: (13, Hint.con (C32 n n n fun i => (↑(q i) : Int))) :: (6, Hint.loopW T10f (AExit.exit (8 : Nat)) T10f fun x => h10f p n c (mvs n f) (mvs n f) n) :: (0, Hint.con C12) :: [])) =
(((((some (.bool (decide ((if (↑(0 : Nat) : Int) > (↑n : Int) then (↑(0 : Nat) : Int) else (↑n : Int)) > (40 : Int)))) : Option Value) = some (.bool false))) ∧
((ConOK Try.prog 21 ((C21 p n c f).when (ARes.ret (Value.bool true)))) ∧ (Con.pre ((C21 p n c f).when (ARes.ret (Value.bool true))) ⟨⟨[(.int .i64 p)], [⟨n, c⟩]⟩, [(mvs n f)]⟩) ∧
((ConNOK Try.prog 13 (C13z p n c f g)) ∧ (ConN.pre (C13z p n c f g) ⟨⟨[(.int .i64 p)], [⟨n, c⟩]⟩, [(mvs n f)]⟩) ∧
((((((↑n : Int) = (↑n : Int))) ∧ (((↑n : Int) = (↑n : Int)))) ∧ (((((↑n : Int) ≤ (2 : Int) ^ (40 : Nat))) ∧ (((↑(8 : Nat) : Int) * (↑n : Int) ≤ (2 : Int) ^ (48 : Nat)))) ∧ ((zCells [Value.int .i64 (0 : Int)] (n * (1 : Nat)) = ints n fun x => (0 : Int))))) ∧
((ClW ⟨⟨[(.bool false), (.int .u8 (nu)), (.int .i64 n), (.int .i64 n), (.int .i64 0), (.int .i64 p), (.int .i64 p)], [⟨n, n⟩, ⟨n, n⟩, ⟨n, c⟩]⟩, [(mvs n f), (natL n g), (ints n fun x => (0 : Int))], []⟩) ∧ (LoopOW Try.prog .none p10a (T10a) ⟨⟨[(.bool false), (.int .u8 (nu)), (.int .i64 n), (.int .i64 n), (.int .i64 0), (.int .i64 p), (.int .i64 p)], [⟨n, n⟩, ⟨n, n⟩, ⟨n, c⟩]⟩, [(mvs n f), (natL n g), (ints n fun x => (0 : Int))], []⟩ (.exit ((0 : Nat))) (T10b) ⟨⟨[(.bool false), (.int .u8 (nu)), (.int .i64 n), (.int .i64 n), (.int .i64 n), (.int .i64 p), (.int .i64 p)], [⟨n, n⟩, ⟨n, n⟩, ⟨n, c⟩, ⟨n, n⟩]⟩, [(mvs n f), (natL n g), (natL n g2), (mvs n f2)], []⟩) ∧
(((((((0 : Nat) < n)) ∧ (((0 : Nat) + n * (4 : Nat) ≤ (mvs n f).length))) ∧ (((List.take (n * (4 : Nat)) (List.drop (0 : Nat) (mvs n f))).all one = true))) ∧ (((¬(0 : Nat) + n ≤ (0 : Nat))) ∧ ((((0 : Nat) = (0 : Nat))) ∧ (((((0 : Nat) + n) * (32 : Nat) ≤ (140737488355328 : Nat))) ∧ (((0 : Nat) + n ≤ (4611686018427387904 : Nat))))))) ∧
((ConNOK Try.prog 24 (C24c false p n c (mvs n f) na (natL n q))) ∧ (ConN.pre (C24c false p n c (mvs n f) na (natL n q)) ⟨⟨[(.int .i64 p), (.bool false)], [⟨n, c⟩]⟩, [(mvs n f)]⟩) ∧
((ConNOK Try.prog 24 (C24c false p n n (mvs n f2) na pb)) ∧ (ConN.pre (C24c false p n n (mvs n f2) na pb) ⟨⟨[(.int .i64 p), (.bool false)], [⟨n, n⟩]⟩, [(mvs n f2)]⟩) ∧
((ConOK Try.prog 25 (C25 false p n c f fo)) ∧ (Con.pre (C25 false p n c f fo) ⟨⟨[(.int .i64 p), (.bool false)], [⟨n, c⟩]⟩, [(mvs n f)]⟩) ∧
((ConOK Try.prog 25 (C25 false p n n f2 fo2)) ∧ (Con.pre (C25 false p n n f2 fo2) ⟨⟨[(.int .i64 p), (.bool false)], [⟨n, n⟩]⟩, [(mvs n f2)]⟩) ∧
((ConOK Try.prog 23 (C23i false p n c ((IntKind.i64.wrap nu).tmod (OfNat.ofNat (8 : Nat))) f lc)) ∧ (Con.pre (C23i false p n c ((IntKind.i64.wrap nu).tmod (OfNat.ofNat (8 : Nat))) f lc) ⟨⟨[(.int .i64 p), (.int .i64 ((IntKind.i64.wrap nu).tmod (8 : Int))), (.bool false)], [⟨n, c⟩]⟩, [(mvs n f)]⟩) ∧
((ConOK Try.prog 23 (C23i false p n n ((IntKind.i64.wrap nu).tmod (OfNat.ofNat (8 : Nat))) f2 ld)) ∧ (Con.pre (C23i false p n n ((IntKind.i64.wrap nu).tmod (OfNat.ofNat (8 : Nat))) f2 ld) ⟨⟨[(.int .i64 p), (.int .i64 ((IntKind.i64.wrap nu).tmod (8 : Int))), (.bool false)], [⟨n, n⟩]⟩, [(mvs n f2)]⟩) ∧
((ConOK Try.prog 19 (C19 p (IntKind.i64.wrap nu) n c f (Value.tuple { toList := [Value.agg { toList := [I b0, I b1] }, I be] }))) ∧ (Con.pre (C19 p (IntKind.i64.wrap nu) n c f (Value.tuple { toList := [Value.agg { toList := [I b0, I b1] }, I be] })) ⟨⟨[(.int .i64 p), (.int .i64 (IntKind.i64.wrap nu))], [⟨n, c⟩]⟩, [(mvs n f)]⟩) ∧
((ConOK Try.prog 19 (C19 p (IntKind.i64.wrap nu) n n f2 (Value.tuple { toList := [Value.agg { toList := [I b0, I b1] }, I be] }))) ∧ (Con.pre (C19 p (IntKind.i64.wrap nu) n n f2 (Value.tuple { toList := [Value.agg { toList := [I b0, I b1] }, I be] })) ⟨⟨[(.int .i64 p), (.int .i64 (IntKind.i64.wrap nu))], [⟨n, n⟩]⟩, [(mvs n f2)]⟩) ∧
((((some (.bool ((↑na : Int) != (↑na : Int))) : Option Value) = some (.bool false))) ∧
((ConOK Try.prog 29 (C29 fo)) ∧ (Con.pre (C29 fo) ⟨⟨[(.int .i64 fo)], []⟩, []⟩) ∧
((ConOK Try.prog 29 (C29 fo2)) ∧ (Con.pre (C29 fo2) ⟨⟨[(.int .i64 fo2)], []⟩, []⟩) ∧
((((some (.bool ((↑(popN fo) : Int) != (↑(popN fo2) : Int))) : Option Value) = some (.bool false))) ∧
((ConOK Try.prog 29 (C29 lc)) ∧ (Con.pre (C29 lc) ⟨⟨[(.int .i64 lc)], []⟩, []⟩) ∧
((ConOK Try.prog 29 (C29 ld)) ∧ (Con.pre (C29 ld) ⟨⟨[(.int .i64 ld)], []⟩, []⟩) ∧
((((some (.bool ((↑(popN lc) : Int) != (↑(popN ld) : Int))) : Option Value) = some (.bool false))) ∧
((((some (.bool (!(b0 == b0 && (fun c => b1 == b1 && c) true))) : Option Value) = some (.bool false))) ∧
((((some (.bool (be != be)) : Option Value) = some (.bool false))) ∧
((ConOK Try.prog 27 (C27 false p n c n n f g rt)) ∧ (Con.pre (C27 false p n c n n f g rt) ⟨⟨[(.int .i64 p), (.bool false)], [⟨n, c⟩, ⟨n, n⟩]⟩, [(mvs n f), (natL n g)]⟩) ∧
((((((2 : Nat) ≤ (2 : Nat))) ∧ (((.agg ⟨[(.int .i64 p), (.slice (.some ⟨8, 0, .none⟩) (n) (n))]⟩) : Value) = (.agg ⟨[(.int .i64 p), (.slice (.some ⟨8, 0, .none⟩) (n) (n))]⟩))) ∧ (True)) ∧
((ConOK Try.prog 27 (C27 false p n n n n f2 g2 rt)) ∧ (Con.pre (C27 false p n n n n f2 g2 rt) ⟨⟨[(.int .i64 p), (.bool false)], [⟨n, n⟩, ⟨n, n⟩]⟩, [(mvs n f2), (natL n g2)]⟩) ∧
((((some (.bool (!(rt == rt && true))) : Option Value) = some (.bool false))) ∧
((ClW ⟨⟨[(.bool false), (.int .i64 n), (.int .i64 0), (.int .i64 n), (.int .i64 0), (.int .i64 p), (.int .i64 p)], [⟨((0 : Nat) + n), ((0 : Nat) + n)⟩, ⟨n, n⟩, ⟨n, c⟩, ⟨n, n⟩]⟩, [(mvs n f), (mvs n f2), ([] ++ (List.take (n * (4 : Nat)) (List.drop ((0 : Nat)) (mvs n f)))), (natL n q)], []⟩) ∧ (LoopOW Try.prog .none p10b (T10c) ⟨⟨[(.bool false), (.int .i64 n), (.int .i64 0), (.int .i64 n), (.int .i64 0), (.int .i64 p), (.int .i64 p)], [⟨((0 : Nat) + n), ((0 : Nat) + n)⟩, ⟨n, n⟩, ⟨n, c⟩, ⟨n, n⟩]⟩, [(mvs n f), (mvs n f2), ([] ++ (List.take (n * (4 : Nat)) (List.drop ((0 : Nat)) (mvs n f)))), (natL n q)], []⟩ (.exit ((2 : Nat))) (T10c) ⟨⟨[(.bool false), (.int .i64 n), (.int .i64 0), (.int .i64 n), (.int .i64 n), (.int .i64 p), (.int .i64 p)], [⟨n, n⟩, ⟨n, n⟩, ⟨n, c⟩, ⟨n, n⟩]⟩, [(mvs n f), (mvs n f2), (mvs n f), (natL n q)], []⟩) ∧
(((((((0 : Nat) < n)) ∧ (((0 : Nat) + n * (1 : Nat) ≤ (natL n q).length))) ∧ (((List.take (n * (1 : Nat)) (List.drop (0 : Nat) (natL n q))).all one = true))) ∧ (((¬(0 : Nat) + n ≤ (0 : Nat))) ∧ ((((0 : Nat) = (0 : Nat))) ∧ (((((0 : Nat) + n) * (8 : Nat) ≤ (140737488355328 : Nat))) ∧ (((0 : Nat) + n ≤ (4611686018427387904 : Nat))))))) ∧
((ClW ⟨⟨[(.bool false), (.int .i64 0), (.int .i64 n), (.int .i64 0), (.int .i64 p)], [⟨n, n⟩, ⟨n, n⟩, ⟨((0 : Nat) + n), ((0 : Nat) + n)⟩, ⟨n, c⟩]⟩, [(mvs n f), (mvs n f), (natL n q), ([] ++ (List.take (n * (1 : Nat)) (List.drop ((0 : Nat)) (natL n q))))], []⟩) ∧ (LoopOW Try.prog .none p10d (T10e) ⟨⟨[(.bool false), (.int .i64 0), (.int .i64 n), (.int .i64 0), (.int .i64 p)], [⟨n, n⟩, ⟨n, n⟩, ⟨((0 : Nat) + n), ((0 : Nat) + n)⟩, ⟨n, c⟩]⟩, [(mvs n f), (mvs n f), (natL n q), ([] ++ (List.take (n * (1 : Nat)) (List.drop ((0 : Nat)) (natL n q))))], []⟩ (.exit ((6 : Nat))) (T10e) ⟨⟨[(.bool false), (.int .i64 0), (.int .i64 n), (.int .i64 n), (.int .i64 p)], [⟨n, n⟩, ⟨n, n⟩, ⟨n, n⟩, ⟨n, c⟩]⟩, [(mvs n f), (mvs n f), (ints n fun x => (-9 : Int)), (natL n q)], []⟩) ∧
((ConNOK Try.prog 24 (C24c false p n c (mvs n f) na (natL n q))) ∧ (ConN.pre (C24c false p n c (mvs n f) na (natL n q)) ⟨⟨[(.int .i64 p), (.bool false)], [⟨n, c⟩]⟩, [(mvs n f)]⟩) ∧
((ConOK Try.prog 32 (C32 n n n fun i => (↑(q i) : Int))) ∧ (Con.pre (C32 n n n fun i => (↑(q i) : Int)) ⟨⟨[], [⟨n, n⟩, ⟨n, n⟩]⟩, [(natL n q), (natL n q)]⟩) ∧
((ClW ⟨⟨[(.int .i64 n), (.int .i64 0), (.int .i64 p)], [⟨n, n⟩, ⟨n, c⟩]⟩, [(mvs n f), (mvs n f)], []⟩) ∧ (LoopOW Try.prog .none p10e (T10f) ⟨⟨[(.int .i64 n), (.int .i64 0), (.int .i64 p)], [⟨n, n⟩, ⟨n, c⟩]⟩, [(mvs n f), (mvs n f)], []⟩ (.exit ((8 : Nat))) (T10f) ⟨⟨[(.int .i64 n), (.int .i64 n), (.int .i64 p)], [⟨n, n⟩, ⟨n, c⟩]⟩, [(mvs n f), (mvs n f)], []⟩) ∧
((ConOK Try.prog 12 (C12)) ∧ (Con.pre (C12) ⟨⟨[], []⟩, []⟩) ∧
R (.ret (.bool true))))))))))))))))))))))))))))))))))))) := by kernel_rfl
theorem ones_mvs3 (n : Nat) (f : Nat → Mv) : (List.take (n * 4) (List.drop 0 (mvs n f))).all one = true := by
  have e : List.take (n * 4) (List.drop 0 (mvs n f)) = mvs n f := by rw [List.drop_zero, ← mvs_len n f, List.take_length]
  rw [e]
  refine List.all_eq_true.2 fun v hv => ?_
  unfold mvs flatC at hv
  simp only [List.mem_flatMap, List.mem_range] at hv
  obtain ⟨i, _, hv⟩ := hv
  simp only [mvV, List.mem_cons, List.not_mem_nil, or_false] at hv
  rcases hv with rfl | rfl | rfl | rfl <;> rfl
theorem all_mvs3 (n : Nat) (f : Nat → Mv) : ([] : List Value) ++ List.take (n * 4) (List.drop 0 (mvs n f)) = mvs n f := by rw [List.nil_append, List.drop_zero, ← mvs_len n f, List.take_length]
theorem ones_nat3 (n : Nat) (q : Nat → Nat) : (List.take (n * 1) (List.drop 0 (natL n q))).all one = true := by
  have e : List.take (n * 1) (List.drop 0 (natL n q)) = natL n q := by rw [List.drop_zero, ← natL_len n q, List.take_length]
  rw [e]
  refine List.all_eq_true.2 fun v hv => ?_
  unfold natL ints flatC at hv
  simp only [List.mem_flatMap, List.mem_range] at hv
  obtain ⟨i, _, hv⟩ := hv
  simp only [List.mem_cons, List.not_mem_nil, or_false] at hv
  subst hv
  rfl
theorem all_nat3 (n : Nat) (q : Nat → Nat) : ([] : List Value) ++ List.take (n * 1) (List.drop 0 (natL n q)) = natL n q := by rw [List.nil_append, List.drop_zero, ← natL_len n q, List.take_length]
theorem proof_lt7 (sure : Bool) (p : Int) {n : Nat} (f : Nat → Mv) (h7 : n ≤ 7) : bestF (ordF sure p n f n) (2 ^ n) < 128 := Nat.lt_of_lt_of_le (proof_lt (sure := sure) (p := p) (f := f) h7) (two_pow_lt h7).1
theorem busy_both {p : Int} {n c : Nat} {f : Nat → Mv} (h : HOK p n f) {m : Int} (m0 : 0 ≤ m) : ∃ b0 b1 be : Int, ConOK Try.prog 19 (C19 p m n c f (.tuple ⟨[.agg ⟨[I b0, I b1]⟩, I be]⟩)) ∧ ConOK Try.prog 19 (C19 p m n n (revF n f) (.tuple ⟨[.agg ⟨[I b0, I b1]⟩, I be]⟩)) := by
  have hok := okH_of h
  have hok2 := okH_of (rev_hok h)
  by_cases h1 : m ≤ 220
  · have a := C19_ok p m n c f hok m0 h1
    have b := C19_ok p m n n (revF n f) hok2 m0 h1
    have e0 := busy_rev (n := n) (f := f) m false
    have e1 := busy_rev (n := n) (f := f) m true
    unfold busyV at a b
    rw [e0, e1] at b
    exact ⟨_, _, _, a, b⟩
  · exact ⟨_, _, _, C19e_ok p m n c f hok (by omega), C19e_ok p m n n (revF n f) hok2 (by omega)⟩
theorem law10t (p nu : Int) (n c k d : Nat) (f : Nat → Mv) (bs : Nat → Int) (hb : ∀ i, i < k → 0 ≤ bs i ∧ bs i < 256) (hnu : 0 ≤ nu ∧ nu < 256) (h0 : 0 < n) (hok : okH p n f = true) :
    ∃ hs, vx.call 10 [hV p n c, slV 1 k d, .bool true, .int .u8 nu] (retK fun r => r = .ret (.bool true)) (m2b (mvs n f) (u8s k bs)) hs := by
  have hH := okH_iff hok
  have h7 := hH.n7
  have hwhen : ConOK Try.prog 21 ((C21 p n c f).when (.ret (.bool true))) := con_when (C21_ok p n c f (by omega)) _
  have hr : (C21 p n c f).res ⟨⟨[I p], [(n, c)]⟩, [mvs n f]⟩ = .ret (.bool true) := by show ARes.ret (.bool (okH p n f)) = _; rw [hok]
  have h2 := rev_hok hH
  have hok2 := okH_of h2
  obtain ⟨z, rfl⟩ := Int.eq_ofNat_of_zero_le hnu.1
  have ez : IntKind.i64.wrap (z : Int) = (z : Int) := wrapI (by omega) (by omega)
  have ew : (IntKind.i64.wrap (z : Int)).tmod (8 : Int) = ((z % 8 : Nat) : Int) := by rw [ez]; rfl
  have hlt : z % 8 < 8 := Nat.mod_lt z (by omega)
  generalize z % 8 = many at ew hlt
  have h24 := C24c_ok (c := c) true hok h7 h0
  obtain ⟨pb, h24b⟩ := C24any (c := n) true hok2
  rw [few_rev hH] at h24b
  have h25a := C25_ok (c := c) true hok h7
  have h25b := C25_ok (c := n) true hok2 h7
  have hpf : popN (bestF (ordF true p n (revF n f) n) (2 ^ n)) = popN (bestF (ordF true p n f n) (2 ^ n)) := proof_rev hH
  have hfo1 := proof_lt7 true p f h7
  have hfo2 := proof_lt7 true p (revF n f) h7
  have h23a := C23i_ok (c := c) true hok (many := many) (by omega) ew
  have h23b := C23i_ok (c := n) true hok2 (many := many) (by omega) ew
  have hlc := leave_lt (sure := true) (many := many) hH
  have hld := leave_lt (sure := true) (many := many) h2
  have hpop := leave_rev (sure := true) hH many
  obtain ⟨b0, b1, be, h19a, h19b⟩ := busy_both (c := c) hH (m := IntKind.i64.wrap (z : Int)) (by rw [ez]; omega)
  have hg : ∀ i, i < n → (ownP k bs) i < 7 := fun i _ => ownP_lt hb i
  have h13 := C13q_ok p n c k d f bs h0 (by omega) hb
  have hpl := okP_nat hg
  have hpl2 := okP_nat (n := n) (g := fun x => (ownP k bs) (n - 1 - x)) (fun i hi => hg (n - 1 - i) (by omega))
  have h27a := C27_ok true p n c n n f (ownP k bs) hok hpl h7 h7
  have h27b := C27_ok true p n n n n (revF n f) (fun x => (ownP k bs) (n - 1 - x)) hok2 hpl2 h7 h7
  have hrt := right_rev (sure := true) hH (ownP k bs)
  rw [hrt] at h27b
  have hcla := cl10a (p := p) (nu := (z : Int)) (sure := true) (n := n) (c := c) (f := f) (g := (ownP k bs)) 0
  have hla := loop10a (p := p) (nu := (z : Int)) (sure := true) (c := c) (f := f) (g := (ownP k bs)) h0 h7
  generalize (ownP k bs) = g at *
  have h29c := C29_ok hlc
  have h29d := C29_ok hld
  have h29a := C29_ok hfo1
  have h29b := C29_ok hfo2
  generalize leaveH true p n f many = lc at *
  generalize leaveH true p n (revF n f) many = ld at *
  generalize bestF (ordF true p n f n) (2 ^ n) = fo at *
  generalize bestF (ordF true p n (revF n f) n) (2 ^ n) = fo2 at *
  generalize hq : (planF (ordF true p n f n) n (fewH true p n f)).2.P = q at *
  have h24 : ConNOK Try.prog 24 (C24c true p n c (mvs n f) (fewH true p n f) (natL n q)) := by
    rw [← hq]; exact h24
  generalize fewH true p n f = na at *
  generalize rightB true p n n f (fun i => (g i : Int)) = rt at *
  have hk := mvs_aw n f
  have ho := natL_atom n q
  have hclc := cl10 (p := p) (sure := true) (n := n) (c := c) (f := f) (f2 := revF n f) hk ho 0
  have hlc10 := loop10c (sure := true) (c := c) hH hk ho
  have hcle := cl10e (p := p) (sure := true) (c := c) (n := n) hk hk ho (fun i => (q i : Int)) 0
  have hle := loop10e (p := p) (sure := true) (c := c) (q := q) h7 hk hk ho
  have hclf := cl10f (p := p) (n := n) (c := c) (f := f) 0
  have hlf := loop10f (p := p) (c := c) (f := f) h7
  have h32 := C32_ok (n := n) n n (fun i => (q i : Int)) (by omega)
  have no1 : ∀ m : Nat, (some (.bool ((m : Int) != (m : Int))) : Option Value) = some (.bool false) := fun m => by simp
  have tfar : (some (.bool (decide ((if ((0 : Nat) : Int) > (n : Int) then ((0 : Nat) : Int) else (n : Int)) > (40 : Int)))) : Option Value) = some (.bool false) := by rw [decide_eq_false (by split <;> omega)]
  have tpop : (some (.bool (((popN lc : Nat) : Int) != ((popN ld : Nat) : Int))) : Option Value) = some (.bool false) := by rw [hpop]; exact no1 _
  have tpo2 : (some (.bool (((popN fo : Nat) : Int) != ((popN fo2 : Nat) : Int))) : Option Value) = some (.bool false) := by rw [hpf]; exact no1 _
  have tb : (some (.bool (!(b0 == b0 && (fun c => b1 == b1 && c) true))) : Option Value) = some (.bool false) := by simp
  have te : (some (.bool (be != be)) : Option Value) = some (.bool false) := by simp
  have tr : (some (.bool (!(rt == rt && true))) : Option Value) = some (.bool false) := by cases rt <;> rfl
  have ones := ones_mvs3 n f
  have ones2 := ones_nat3 n q
  have hl4 := mvs_len n f
  have hl1 := natL_len n q
  have key : ∀ R : ARes → Prop, R (.ret (.bool true)) → ∃ hs, vx.call 10 [hV p n c, slV 1 k d, .bool true, .int .u8 (z : Int)] (retK R) (m2b (mvs n f) (u8s k bs)) hs := by
    intro R hR
    refine ⟨_, (f10t p z b0 b1 be n c k d na fo fo2 lc ld rt f (revF n f) bs g (fun x => g (n - 1 - x)) q pb R).mpr ?_⟩
    rw [all_mvs3, all_nat3, Nat.zero_add n]
    exact ⟨tfar, hwhen, ⟨rfl, hr⟩, h13, rfl, ⟨⟨rfl, rfl⟩, ⟨by omega, by omega⟩, zCells_ints n⟩, hcla, hla, ⟨⟨⟨h0, by rw [hl4]; omega⟩, ones⟩, by omega, rfl, by omega, by omega⟩, h24, rfl, h24b, rfl, h25a, rfl, h25b, rfl, h23a, rfl, h23b, rfl, h19a, rfl, h19b, rfl, no1 na, h29a, rfl, h29b, rfl, tpo2, h29c, rfl, h29d, rfl, tpop, tb, te, h27a, rfl, ⟨⟨Nat.le_refl _, rfl⟩, trivial⟩, h27b, rfl, tr, hclc, hlc10, ⟨⟨⟨h0, by rw [hl1]; omega⟩, ones2⟩, by omega, rfl, by omega, by omega⟩, hcle, hle, h24, rfl, h32, rfl, hclf, hlf, C12_ok, rfl, hR⟩
  exact key _ rfl
theorem law10f (p nu : Int) (n c k d : Nat) (f : Nat → Mv) (bs : Nat → Int) (hb : ∀ i, i < k → 0 ≤ bs i ∧ bs i < 256) (hnu : 0 ≤ nu ∧ nu < 256) (h0 : 0 < n) (hok : okH p n f = true) :
    ∃ hs, vx.call 10 [hV p n c, slV 1 k d, .bool false, .int .u8 nu] (retK fun r => r = .ret (.bool true)) (m2b (mvs n f) (u8s k bs)) hs := by
  have hH := okH_iff hok
  have h7 := hH.n7
  have hwhen : ConOK Try.prog 21 ((C21 p n c f).when (.ret (.bool true))) := con_when (C21_ok p n c f (by omega)) _
  have hr : (C21 p n c f).res ⟨⟨[I p], [(n, c)]⟩, [mvs n f]⟩ = .ret (.bool true) := by show ARes.ret (.bool (okH p n f)) = _; rw [hok]
  have h2 := rev_hok hH
  have hok2 := okH_of h2
  obtain ⟨z, rfl⟩ := Int.eq_ofNat_of_zero_le hnu.1
  have ez : IntKind.i64.wrap (z : Int) = (z : Int) := wrapI (by omega) (by omega)
  have ew : (IntKind.i64.wrap (z : Int)).tmod (8 : Int) = ((z % 8 : Nat) : Int) := by rw [ez]; rfl
  have hlt : z % 8 < 8 := Nat.mod_lt z (by omega)
  generalize z % 8 = many at ew hlt
  have h24 := C24c_ok (c := c) false hok h7 h0
  obtain ⟨pb, h24b⟩ := C24any (c := n) false hok2
  rw [few_rev hH] at h24b
  have h25a := C25_ok (c := c) false hok h7
  have h25b := C25_ok (c := n) false hok2 h7
  have hpf : popN (bestF (ordF false p n (revF n f) n) (2 ^ n)) = popN (bestF (ordF false p n f n) (2 ^ n)) := proof_rev hH
  have hfo1 := proof_lt7 false p f h7
  have hfo2 := proof_lt7 false p (revF n f) h7
  have h23a := C23i_ok (c := c) false hok (many := many) (by omega) ew
  have h23b := C23i_ok (c := n) false hok2 (many := many) (by omega) ew
  have hlc := leave_lt (sure := false) (many := many) hH
  have hld := leave_lt (sure := false) (many := many) h2
  have hpop := leave_rev (sure := false) hH many
  obtain ⟨b0, b1, be, h19a, h19b⟩ := busy_both (c := c) hH (m := IntKind.i64.wrap (z : Int)) (by rw [ez]; omega)
  have hg : ∀ i, i < n → (ownP k bs) i < 7 := fun i _ => ownP_lt hb i
  have h13 := C13q_ok p n c k d f bs h0 (by omega) hb
  have hpl := okP_nat hg
  have hpl2 := okP_nat (n := n) (g := fun x => (ownP k bs) (n - 1 - x)) (fun i hi => hg (n - 1 - i) (by omega))
  have h27a := C27_ok false p n c n n f (ownP k bs) hok hpl h7 h7
  have h27b := C27_ok false p n n n n (revF n f) (fun x => (ownP k bs) (n - 1 - x)) hok2 hpl2 h7 h7
  have hrt := right_rev (sure := false) hH (ownP k bs)
  rw [hrt] at h27b
  have hcla := cl10a (p := p) (nu := (z : Int)) (sure := false) (n := n) (c := c) (f := f) (g := (ownP k bs)) 0
  have hla := loop10a (p := p) (nu := (z : Int)) (sure := false) (c := c) (f := f) (g := (ownP k bs)) h0 h7
  generalize (ownP k bs) = g at *
  have h29c := C29_ok hlc
  have h29d := C29_ok hld
  have h29a := C29_ok hfo1
  have h29b := C29_ok hfo2
  generalize leaveH false p n f many = lc at *
  generalize leaveH false p n (revF n f) many = ld at *
  generalize bestF (ordF false p n f n) (2 ^ n) = fo at *
  generalize bestF (ordF false p n (revF n f) n) (2 ^ n) = fo2 at *
  generalize hq : (planF (ordF false p n f n) n (fewH false p n f)).2.P = q at *
  have h24 : ConNOK Try.prog 24 (C24c false p n c (mvs n f) (fewH false p n f) (natL n q)) := by
    rw [← hq]; exact h24
  generalize fewH false p n f = na at *
  generalize rightB false p n n f (fun i => (g i : Int)) = rt at *
  have hk := mvs_aw n f
  have ho := natL_atom n q
  have hclc := cl10 (p := p) (sure := false) (n := n) (c := c) (f := f) (f2 := revF n f) hk ho 0
  have hlc10 := loop10c (sure := false) (c := c) hH hk ho
  have hcle := cl10e (p := p) (sure := false) (c := c) (n := n) hk hk ho (fun i => (q i : Int)) 0
  have hle := loop10e (p := p) (sure := false) (c := c) (q := q) h7 hk hk ho
  have hclf := cl10f (p := p) (n := n) (c := c) (f := f) 0
  have hlf := loop10f (p := p) (c := c) (f := f) h7
  have h32 := C32_ok (n := n) n n (fun i => (q i : Int)) (by omega)
  have no1 : ∀ m : Nat, (some (.bool ((m : Int) != (m : Int))) : Option Value) = some (.bool false) := fun m => by simp
  have tfar : (some (.bool (decide ((if ((0 : Nat) : Int) > (n : Int) then ((0 : Nat) : Int) else (n : Int)) > (40 : Int)))) : Option Value) = some (.bool false) := by rw [decide_eq_false (by split <;> omega)]
  have tpop : (some (.bool (((popN lc : Nat) : Int) != ((popN ld : Nat) : Int))) : Option Value) = some (.bool false) := by rw [hpop]; exact no1 _
  have tpo2 : (some (.bool (((popN fo : Nat) : Int) != ((popN fo2 : Nat) : Int))) : Option Value) = some (.bool false) := by rw [hpf]; exact no1 _
  have tb : (some (.bool (!(b0 == b0 && (fun c => b1 == b1 && c) true))) : Option Value) = some (.bool false) := by simp
  have te : (some (.bool (be != be)) : Option Value) = some (.bool false) := by simp
  have tr : (some (.bool (!(rt == rt && true))) : Option Value) = some (.bool false) := by cases rt <;> rfl
  have ones := ones_mvs3 n f
  have ones2 := ones_nat3 n q
  have hl4 := mvs_len n f
  have hl1 := natL_len n q
  have key : ∀ R : ARes → Prop, R (.ret (.bool true)) → ∃ hs, vx.call 10 [hV p n c, slV 1 k d, .bool false, .int .u8 (z : Int)] (retK R) (m2b (mvs n f) (u8s k bs)) hs := by
    intro R hR
    refine ⟨_, (f10f p z b0 b1 be n c k d na fo fo2 lc ld rt f (revF n f) bs g (fun x => g (n - 1 - x)) q pb R).mpr ?_⟩
    rw [all_mvs3, all_nat3, Nat.zero_add n]
    exact ⟨tfar, hwhen, ⟨rfl, hr⟩, h13, rfl, ⟨⟨rfl, rfl⟩, ⟨by omega, by omega⟩, zCells_ints n⟩, hcla, hla, ⟨⟨⟨h0, by rw [hl4]; omega⟩, ones⟩, by omega, rfl, by omega, by omega⟩, h24, rfl, h24b, rfl, h25a, rfl, h25b, rfl, h23a, rfl, h23b, rfl, h19a, rfl, h19b, rfl, no1 na, h29a, rfl, h29b, rfl, tpo2, h29c, rfl, h29d, rfl, tpop, tb, te, h27a, rfl, ⟨⟨Nat.le_refl _, rfl⟩, trivial⟩, h27b, rfl, tr, hclc, hlc10, ⟨⟨⟨h0, by rw [hl1]; omega⟩, ones2⟩, by omega, rfl, by omega, by omega⟩, hcle, hle, h24, rfl, h32, rfl, hclf, hlf, C12_ok, rfl, hR⟩
  exact key _ rfl
theorem law10tz (p nu : Int) (n c : Nat) (f : Nat → Mv) (hnu : 0 ≤ nu ∧ nu < 256) (h0 : 0 < n) (hok : okH p n f = true) :
    ∃ hs, vx.call 10 [hV p n c, nilS, .bool true, .int .u8 nu] (retK fun r => r = .ret (.bool true)) (m2n (mvs n f)) hs := by
  have hH := okH_iff hok
  have h7 := hH.n7
  have hwhen : ConOK Try.prog 21 ((C21 p n c f).when (.ret (.bool true))) := con_when (C21_ok p n c f (by omega)) _
  have hr : (C21 p n c f).res ⟨⟨[I p], [(n, c)]⟩, [mvs n f]⟩ = .ret (.bool true) := by show ARes.ret (.bool (okH p n f)) = _; rw [hok]
  have h2 := rev_hok hH
  have hok2 := okH_of h2
  obtain ⟨z, rfl⟩ := Int.eq_ofNat_of_zero_le hnu.1
  have ez : IntKind.i64.wrap (z : Int) = (z : Int) := wrapI (by omega) (by omega)
  have ew : (IntKind.i64.wrap (z : Int)).tmod (8 : Int) = ((z % 8 : Nat) : Int) := by rw [ez]; rfl
  have hlt : z % 8 < 8 := Nat.mod_lt z (by omega)
  generalize z % 8 = many at ew hlt
  have h24 := C24c_ok (c := c) true hok h7 h0
  obtain ⟨pb, h24b⟩ := C24any (c := n) true hok2
  rw [few_rev hH] at h24b
  have h25a := C25_ok (c := c) true hok h7
  have h25b := C25_ok (c := n) true hok2 h7
  have hpf : popN (bestF (ordF true p n (revF n f) n) (2 ^ n)) = popN (bestF (ordF true p n f n) (2 ^ n)) := proof_rev hH
  have hfo1 := proof_lt7 true p f h7
  have hfo2 := proof_lt7 true p (revF n f) h7
  have h23a := C23i_ok (c := c) true hok (many := many) (by omega) ew
  have h23b := C23i_ok (c := n) true hok2 (many := many) (by omega) ew
  have hlc := leave_lt (sure := true) (many := many) hH
  have hld := leave_lt (sure := true) (many := many) h2
  have hpop := leave_rev (sure := true) hH many
  obtain ⟨b0, b1, be, h19a, h19b⟩ := busy_both (c := c) hH (m := IntKind.i64.wrap (z : Int)) (by rw [ez]; omega)
  have hg : ∀ i, i < n → (ownP 0 fun _ => 0) i < 7 := fun i _ => ownP_lt (k := 0) (b := fun _ => 0) (fun i hi => absurd hi (by omega)) i
  have h13 := C13z_ok p n c f h0 (by omega)
  have hpl := okP_nat hg
  have hpl2 := okP_nat (n := n) (g := fun x => (ownP 0 fun _ => 0) (n - 1 - x)) (fun i hi => hg (n - 1 - i) (by omega))
  have h27a := C27_ok true p n c n n f (ownP 0 fun _ => 0) hok hpl h7 h7
  have h27b := C27_ok true p n n n n (revF n f) (fun x => (ownP 0 fun _ => 0) (n - 1 - x)) hok2 hpl2 h7 h7
  have hrt := right_rev (sure := true) hH (ownP 0 fun _ => 0)
  rw [hrt] at h27b
  have hcla := cl10a (p := p) (nu := (z : Int)) (sure := true) (n := n) (c := c) (f := f) (g := (ownP 0 fun _ => 0)) 0
  have hla := loop10a (p := p) (nu := (z : Int)) (sure := true) (c := c) (f := f) (g := (ownP 0 fun _ => 0)) h0 h7
  generalize (ownP 0 fun _ => 0) = g at *
  have h29c := C29_ok hlc
  have h29d := C29_ok hld
  have h29a := C29_ok hfo1
  have h29b := C29_ok hfo2
  generalize leaveH true p n f many = lc at *
  generalize leaveH true p n (revF n f) many = ld at *
  generalize bestF (ordF true p n f n) (2 ^ n) = fo at *
  generalize bestF (ordF true p n (revF n f) n) (2 ^ n) = fo2 at *
  generalize hq : (planF (ordF true p n f n) n (fewH true p n f)).2.P = q at *
  have h24 : ConNOK Try.prog 24 (C24c true p n c (mvs n f) (fewH true p n f) (natL n q)) := by
    rw [← hq]; exact h24
  generalize fewH true p n f = na at *
  generalize rightB true p n n f (fun i => (g i : Int)) = rt at *
  have hk := mvs_aw n f
  have ho := natL_atom n q
  have hclc := cl10 (p := p) (sure := true) (n := n) (c := c) (f := f) (f2 := revF n f) hk ho 0
  have hlc10 := loop10c (sure := true) (c := c) hH hk ho
  have hcle := cl10e (p := p) (sure := true) (c := c) (n := n) hk hk ho (fun i => (q i : Int)) 0
  have hle := loop10e (p := p) (sure := true) (c := c) (q := q) h7 hk hk ho
  have hclf := cl10f (p := p) (n := n) (c := c) (f := f) 0
  have hlf := loop10f (p := p) (c := c) (f := f) h7
  have h32 := C32_ok (n := n) n n (fun i => (q i : Int)) (by omega)
  have no1 : ∀ m : Nat, (some (.bool ((m : Int) != (m : Int))) : Option Value) = some (.bool false) := fun m => by simp
  have tfar : (some (.bool (decide ((if ((0 : Nat) : Int) > (n : Int) then ((0 : Nat) : Int) else (n : Int)) > (40 : Int)))) : Option Value) = some (.bool false) := by rw [decide_eq_false (by split <;> omega)]
  have tpop : (some (.bool (((popN lc : Nat) : Int) != ((popN ld : Nat) : Int))) : Option Value) = some (.bool false) := by rw [hpop]; exact no1 _
  have tpo2 : (some (.bool (((popN fo : Nat) : Int) != ((popN fo2 : Nat) : Int))) : Option Value) = some (.bool false) := by rw [hpf]; exact no1 _
  have tb : (some (.bool (!(b0 == b0 && (fun c => b1 == b1 && c) true))) : Option Value) = some (.bool false) := by simp
  have te : (some (.bool (be != be)) : Option Value) = some (.bool false) := by simp
  have tr : (some (.bool (!(rt == rt && true))) : Option Value) = some (.bool false) := by cases rt <;> rfl
  have ones := ones_mvs3 n f
  have ones2 := ones_nat3 n q
  have hl4 := mvs_len n f
  have hl1 := natL_len n q
  have key : ∀ R : ARes → Prop, R (.ret (.bool true)) → ∃ hs, vx.call 10 [hV p n c, nilS, .bool true, .int .u8 (z : Int)] (retK R) (m2n (mvs n f)) hs := by
    intro R hR
    refine ⟨_, (f10tz p z b0 b1 be n c na fo fo2 lc ld rt f (revF n f) g (fun x => g (n - 1 - x)) q pb R).mpr ?_⟩
    rw [all_mvs3, all_nat3, Nat.zero_add n]
    exact ⟨tfar, hwhen, ⟨rfl, hr⟩, h13, rfl, ⟨⟨rfl, rfl⟩, ⟨by omega, by omega⟩, zCells_ints n⟩, hcla, hla, ⟨⟨⟨h0, by rw [hl4]; omega⟩, ones⟩, by omega, rfl, by omega, by omega⟩, h24, rfl, h24b, rfl, h25a, rfl, h25b, rfl, h23a, rfl, h23b, rfl, h19a, rfl, h19b, rfl, no1 na, h29a, rfl, h29b, rfl, tpo2, h29c, rfl, h29d, rfl, tpop, tb, te, h27a, rfl, ⟨⟨Nat.le_refl _, rfl⟩, trivial⟩, h27b, rfl, tr, hclc, hlc10, ⟨⟨⟨h0, by rw [hl1]; omega⟩, ones2⟩, by omega, rfl, by omega, by omega⟩, hcle, hle, h24, rfl, h32, rfl, hclf, hlf, C12_ok, rfl, hR⟩
  exact key _ rfl
theorem law10fz (p nu : Int) (n c : Nat) (f : Nat → Mv) (hnu : 0 ≤ nu ∧ nu < 256) (h0 : 0 < n) (hok : okH p n f = true) :
    ∃ hs, vx.call 10 [hV p n c, nilS, .bool false, .int .u8 nu] (retK fun r => r = .ret (.bool true)) (m2n (mvs n f)) hs := by
  have hH := okH_iff hok
  have h7 := hH.n7
  have hwhen : ConOK Try.prog 21 ((C21 p n c f).when (.ret (.bool true))) := con_when (C21_ok p n c f (by omega)) _
  have hr : (C21 p n c f).res ⟨⟨[I p], [(n, c)]⟩, [mvs n f]⟩ = .ret (.bool true) := by show ARes.ret (.bool (okH p n f)) = _; rw [hok]
  have h2 := rev_hok hH
  have hok2 := okH_of h2
  obtain ⟨z, rfl⟩ := Int.eq_ofNat_of_zero_le hnu.1
  have ez : IntKind.i64.wrap (z : Int) = (z : Int) := wrapI (by omega) (by omega)
  have ew : (IntKind.i64.wrap (z : Int)).tmod (8 : Int) = ((z % 8 : Nat) : Int) := by rw [ez]; rfl
  have hlt : z % 8 < 8 := Nat.mod_lt z (by omega)
  generalize z % 8 = many at ew hlt
  have h24 := C24c_ok (c := c) false hok h7 h0
  obtain ⟨pb, h24b⟩ := C24any (c := n) false hok2
  rw [few_rev hH] at h24b
  have h25a := C25_ok (c := c) false hok h7
  have h25b := C25_ok (c := n) false hok2 h7
  have hpf : popN (bestF (ordF false p n (revF n f) n) (2 ^ n)) = popN (bestF (ordF false p n f n) (2 ^ n)) := proof_rev hH
  have hfo1 := proof_lt7 false p f h7
  have hfo2 := proof_lt7 false p (revF n f) h7
  have h23a := C23i_ok (c := c) false hok (many := many) (by omega) ew
  have h23b := C23i_ok (c := n) false hok2 (many := many) (by omega) ew
  have hlc := leave_lt (sure := false) (many := many) hH
  have hld := leave_lt (sure := false) (many := many) h2
  have hpop := leave_rev (sure := false) hH many
  obtain ⟨b0, b1, be, h19a, h19b⟩ := busy_both (c := c) hH (m := IntKind.i64.wrap (z : Int)) (by rw [ez]; omega)
  have hg : ∀ i, i < n → (ownP 0 fun _ => 0) i < 7 := fun i _ => ownP_lt (k := 0) (b := fun _ => 0) (fun i hi => absurd hi (by omega)) i
  have h13 := C13z_ok p n c f h0 (by omega)
  have hpl := okP_nat hg
  have hpl2 := okP_nat (n := n) (g := fun x => (ownP 0 fun _ => 0) (n - 1 - x)) (fun i hi => hg (n - 1 - i) (by omega))
  have h27a := C27_ok false p n c n n f (ownP 0 fun _ => 0) hok hpl h7 h7
  have h27b := C27_ok false p n n n n (revF n f) (fun x => (ownP 0 fun _ => 0) (n - 1 - x)) hok2 hpl2 h7 h7
  have hrt := right_rev (sure := false) hH (ownP 0 fun _ => 0)
  rw [hrt] at h27b
  have hcla := cl10a (p := p) (nu := (z : Int)) (sure := false) (n := n) (c := c) (f := f) (g := (ownP 0 fun _ => 0)) 0
  have hla := loop10a (p := p) (nu := (z : Int)) (sure := false) (c := c) (f := f) (g := (ownP 0 fun _ => 0)) h0 h7
  generalize (ownP 0 fun _ => 0) = g at *
  have h29c := C29_ok hlc
  have h29d := C29_ok hld
  have h29a := C29_ok hfo1
  have h29b := C29_ok hfo2
  generalize leaveH false p n f many = lc at *
  generalize leaveH false p n (revF n f) many = ld at *
  generalize bestF (ordF false p n f n) (2 ^ n) = fo at *
  generalize bestF (ordF false p n (revF n f) n) (2 ^ n) = fo2 at *
  generalize hq : (planF (ordF false p n f n) n (fewH false p n f)).2.P = q at *
  have h24 : ConNOK Try.prog 24 (C24c false p n c (mvs n f) (fewH false p n f) (natL n q)) := by
    rw [← hq]; exact h24
  generalize fewH false p n f = na at *
  generalize rightB false p n n f (fun i => (g i : Int)) = rt at *
  have hk := mvs_aw n f
  have ho := natL_atom n q
  have hclc := cl10 (p := p) (sure := false) (n := n) (c := c) (f := f) (f2 := revF n f) hk ho 0
  have hlc10 := loop10c (sure := false) (c := c) hH hk ho
  have hcle := cl10e (p := p) (sure := false) (c := c) (n := n) hk hk ho (fun i => (q i : Int)) 0
  have hle := loop10e (p := p) (sure := false) (c := c) (q := q) h7 hk hk ho
  have hclf := cl10f (p := p) (n := n) (c := c) (f := f) 0
  have hlf := loop10f (p := p) (c := c) (f := f) h7
  have h32 := C32_ok (n := n) n n (fun i => (q i : Int)) (by omega)
  have no1 : ∀ m : Nat, (some (.bool ((m : Int) != (m : Int))) : Option Value) = some (.bool false) := fun m => by simp
  have tfar : (some (.bool (decide ((if ((0 : Nat) : Int) > (n : Int) then ((0 : Nat) : Int) else (n : Int)) > (40 : Int)))) : Option Value) = some (.bool false) := by rw [decide_eq_false (by split <;> omega)]
  have tpop : (some (.bool (((popN lc : Nat) : Int) != ((popN ld : Nat) : Int))) : Option Value) = some (.bool false) := by rw [hpop]; exact no1 _
  have tpo2 : (some (.bool (((popN fo : Nat) : Int) != ((popN fo2 : Nat) : Int))) : Option Value) = some (.bool false) := by rw [hpf]; exact no1 _
  have tb : (some (.bool (!(b0 == b0 && (fun c => b1 == b1 && c) true))) : Option Value) = some (.bool false) := by simp
  have te : (some (.bool (be != be)) : Option Value) = some (.bool false) := by simp
  have tr : (some (.bool (!(rt == rt && true))) : Option Value) = some (.bool false) := by cases rt <;> rfl
  have ones := ones_mvs3 n f
  have ones2 := ones_nat3 n q
  have hl4 := mvs_len n f
  have hl1 := natL_len n q
  have key : ∀ R : ARes → Prop, R (.ret (.bool true)) → ∃ hs, vx.call 10 [hV p n c, nilS, .bool false, .int .u8 (z : Int)] (retK R) (m2n (mvs n f)) hs := by
    intro R hR
    refine ⟨_, (f10fz p z b0 b1 be n c na fo fo2 lc ld rt f (revF n f) g (fun x => g (n - 1 - x)) q pb R).mpr ?_⟩
    rw [all_mvs3, all_nat3, Nat.zero_add n]
    exact ⟨tfar, hwhen, ⟨rfl, hr⟩, h13, rfl, ⟨⟨rfl, rfl⟩, ⟨by omega, by omega⟩, zCells_ints n⟩, hcla, hla, ⟨⟨⟨h0, by rw [hl4]; omega⟩, ones⟩, by omega, rfl, by omega, by omega⟩, h24, rfl, h24b, rfl, h25a, rfl, h25b, rfl, h23a, rfl, h23b, rfl, h19a, rfl, h19b, rfl, no1 na, h29a, rfl, h29b, rfl, tpo2, h29c, rfl, h29d, rfl, tpop, tb, te, h27a, rfl, ⟨⟨Nat.le_refl _, rfl⟩, trivial⟩, h27b, rfl, tr, hclc, hlc10, ⟨⟨⟨h0, by rw [hl1]; omega⟩, ones2⟩, by omega, rfl, by omega, by omega⟩, hcle, hle, h24, rfl, h32, rfl, hclf, hlf, C12_ok, rfl, hR⟩
  exact key _ rfl
end Go.Ab
