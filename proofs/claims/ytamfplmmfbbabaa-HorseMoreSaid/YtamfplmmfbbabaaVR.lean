/- the law HorseMore: its runs, where there are moves. -/
import Derived.Test.YtamfplmmfbbabaaVP
import Derived.Test.YtamfplmmfbbabaaVQ
import Derived.Test.YtamfplmmfbbabaaVG
set_option maxRecDepth 100000
namespace Go.Ab
open Go Go.RowKit Go.Proofs
theorem f9o (p wh nu : Int) (n c k d na nb lc ld i2 : Nat) (f f2 : Nat → Mv) (bs : Nat → Int) (g : Nat → Nat) (pa pb pj pl : List Value) (R : ARes → Prop) : (vx.call 9 [hV p n c, slV 1 k d, .int .u8 wh, .int .u8 nu] (retK R) (m2b (mvs n f) (u8s k bs)) ([(17, .split ((7, .con C12) :: []) ((4, .con ((C21 p n c f).when (.ret (.bool true)))) :: (9, .conN (C24c true p n c (mvs n f) na pa)) :: (8, .conN (C24c false p n c (mvs n f) nb pb)) :: (9, .con (C23i true p n c ((IntKind.i64.wrap nu).tmod (8 : Int)) f lc)) :: (7, .con (C23i false p n c ((IntKind.i64.wrap nu).tmod (8 : Int)) f ld)) :: (15, .val (.bool false)) :: (20, .con (C29 lc)) :: (2, .con (C29 ld)) :: (0, .val (.bool false)) :: (5, .again) :: (4, .growN) :: (8, .loopW T9a (.exit (0 : Nat)) T9b fun x => h9b p wh nu n c k d na (mvs n f) (u8s k bs) (mvs n f) n (mvs n fun i => topM (f i))) :: (3, .val (.bool true)) :: (3, .val (.bool false)) :: (9, .conN (C24c true p n n (mvs n fun i => topM (f i)) na pj)) :: (8, .conN (C24c false p n n (mvs n fun i => topM (f i)) na pl)) :: [(16, .split ([]) ([(4, .split ([]) ((4, .conN (C13q p n c k d f bs g)) :: (3, .conN (C15 p n c n f fun i => (↑(g i) : Int))) :: (7, .conN (C15 (if IntKind.i64.wrap (p - (1 : Int)) > (0 : Int) then IntKind.i64.wrap (p - (1 : Int)) else (0 : Int)) n n n f fun i => (↑(g i) : Int))) :: [(16, .split ([]) ([(6, .split ([]) ((5, .loopW (T9c (0 : Nat)) (.exit (2 : Nat)) (T9c (0 : Nat)) fun x => h9c p (if IntKind.i64.wrap (p - (1 : Int)) > (0 : Int) then IntKind.i64.wrap (p - (1 : Int)) else (0 : Int)) n c (mvs n f) (mvs n f) (spansC n (latS false p n f fun i => (↑(g i) : Int)) (latS true p n f fun i => (↑(g i) : Int))) (spansC n (latS false (if IntKind.i64.wrap (p - (1 : Int)) > (0 : Int) then IntKind.i64.wrap (p - (1 : Int)) else (0 : Int)) n f fun i => (↑(g i) : Int)) (latS true (if IntKind.i64.wrap (p - (1 : Int)) > (0 : Int) then IntKind.i64.wrap (p - (1 : Int)) else (0 : Int)) n f fun i => (↑(g i) : Int))) (natL n g) n) :: (3, .loopW (T9d (0 : Nat)) (.exit (4 : Nat)) (T9d (0 : Nat)) fun x => h9d p (if IntKind.i64.wrap (p - (1 : Int)) > (0 : Int) then IntKind.i64.wrap (p - (1 : Int)) else (0 : Int)) n c (mvs n f) (mvs n f) (natL n g) (2 : Nat)) :: (0, .con C12) :: []))]))]))]))]))])) =
((((decide ((if (↑(0 : Nat) : Int) > (↑n : Int) then (↑(0 : Nat) : Int) else (↑n : Int)) > (40 : Int))) = true → ((ConOK Try.prog 12 (C12)) ∧ (Con.pre (C12) ⟨⟨[], []⟩, []⟩) ∧
R (.ret (.bool true)))) ∧
((decide ((if (↑(0 : Nat) : Int) > (↑n : Int) then (↑(0 : Nat) : Int) else (↑n : Int)) > (40 : Int))) = false → ((ConOK Try.prog 21 ((C21 p n c f).when (.ret (.bool true)))) ∧ (Con.pre ((C21 p n c f).when (.ret (.bool true))) ⟨⟨[(I p)], [⟨n, c⟩]⟩, [(mvs n f)]⟩) ∧
((ConNOK Try.prog 24 (C24c true p n c (mvs n f) na pa)) ∧ (ConN.pre (C24c true p n c (mvs n f) na pa) ⟨⟨[(I p), (.bool true)], [⟨n, c⟩]⟩, [(mvs n f)]⟩) ∧
((ConNOK Try.prog 24 (C24c false p n c (mvs n f) nb pb)) ∧ (ConN.pre (C24c false p n c (mvs n f) nb pb) ⟨⟨[(I p), (.bool false)], [⟨n, c⟩]⟩, [(mvs n f)]⟩) ∧
((ConOK Try.prog 23 (C23i true p n c ((IntKind.i64.wrap nu).tmod (OfNat.ofNat (8 : Nat))) f lc)) ∧ (Con.pre (C23i true p n c ((IntKind.i64.wrap nu).tmod (OfNat.ofNat (8 : Nat))) f lc) ⟨⟨[(I p), (I ((IntKind.i64.wrap nu).tmod (8 : Int))), (.bool true)], [⟨n, c⟩]⟩, [(mvs n f)]⟩) ∧
((ConOK Try.prog 23 (C23i false p n c ((IntKind.i64.wrap nu).tmod (OfNat.ofNat (8 : Nat))) f ld)) ∧ (Con.pre (C23i false p n c ((IntKind.i64.wrap nu).tmod (OfNat.ofNat (8 : Nat))) f ld) ⟨⟨[(I p), (I ((IntKind.i64.wrap nu).tmod (8 : Int))), (.bool false)], [⟨n, c⟩]⟩, [(mvs n f)]⟩) ∧
((((some (.bool (decide ((↑na : Int) < (↑nb : Int)))) : Option Value) = some (.bool false))) ∧
((ConOK Try.prog 29 (C29 lc)) ∧ (Con.pre (C29 lc) ⟨⟨[(I lc)], []⟩, []⟩) ∧
((ConOK Try.prog 29 (C29 ld)) ∧ (Con.pre (C29 ld) ⟨⟨[(I ld)], []⟩, []⟩) ∧
((((some (.bool (decide ((↑(popN lc) : Int) < (↑(popN ld) : Int)))) : Option Value) = some (.bool false))) ∧
((((((2 : Nat) ≤ (2 : Nat))) ∧ (((.agg ⟨[(I p), (.slice (.some ⟨0, 0, .none⟩) (n) (c))]⟩) : Value) = (.agg ⟨[(I p), (.slice (.some ⟨0, 0, .none⟩) (n) (c))]⟩))) ∧ (True)) ∧
(((((((0 : Nat) < n)) ∧ (((0 : Nat) + n * (4 : Nat) ≤ (mvs n f).length))) ∧ (((List.take (n * (4 : Nat)) (List.drop (0 : Nat) (mvs n f))).all one = true))) ∧ (((¬(0 : Nat) + n ≤ (0 : Nat))) ∧ ((((0 : Nat) = (0 : Nat))) ∧ (((((0 : Nat) + n) * (32 : Nat) ≤ (140737488355328 : Nat))) ∧ (((0 : Nat) + n ≤ (4611686018427387904 : Nat))))))) ∧
((ClW ⟨⟨[(.int .u8 (wh)), (.int .u8 (nu)), (I na), (I n), (I 0), (I p), (I p), (I p)], [⟨k, d⟩, ⟨n, c⟩, ⟨n, c⟩, ⟨((0 : Nat) + n), ((0 : Nat) + n)⟩]⟩, [(mvs n f), (u8s k bs), ([] ++ (List.take (n * (4 : Nat)) (List.drop ((0 : Nat)) (mvs n f))))], []⟩) ∧ (LoopOW Try.prog .none p9a (T9a) ⟨⟨[(.int .u8 (wh)), (.int .u8 (nu)), (I na), (I n), (I 0), (I p), (I p), (I p)], [⟨k, d⟩, ⟨n, c⟩, ⟨n, c⟩, ⟨((0 : Nat) + n), ((0 : Nat) + n)⟩]⟩, [(mvs n f), (u8s k bs), ([] ++ (List.take (n * (4 : Nat)) (List.drop ((0 : Nat)) (mvs n f))))], []⟩ (.exit ((0 : Nat))) (T9b) ⟨⟨[(.int .u8 (wh)), (.int .u8 (nu)), (I na), (I n), (I n), (I p), (I p), (I p)], [⟨k, d⟩, ⟨n, c⟩, ⟨n, c⟩, ⟨n, n⟩, ⟨n, n⟩]⟩, [(mvs n f), (u8s k bs), (mvs n f), (mvs n fun i => topM (f i))], []⟩) ∧
((((some (.bool (decide ((↑n : Int) > (0 : Int)))) : Option Value) = some (.bool true))) ∧
((((some (.bool (nu.tmod (2 : Int) == (0 : Int))) : Option Value) = some (.bool false))) ∧
((ConNOK Try.prog 24 (C24c true p n n (mvs n fun i => topM (f i)) na pj)) ∧ (ConN.pre (C24c true p n n (mvs n fun i => topM (f i)) na pj) ⟨⟨[(I p), (.bool true)], [⟨n, n⟩]⟩, [(mvs n fun i => topM (f i))]⟩) ∧
((ConNOK Try.prog 24 (C24c false p n n (mvs n fun i => topM (f i)) na pl)) ∧ (ConN.pre (C24c false p n n (mvs n fun i => topM (f i)) na pl) ⟨⟨[(I p), (.bool false)], [⟨n, n⟩]⟩, [(mvs n fun i => topM (f i))]⟩) ∧
((((↑na : Int) != (↑na : Int)) = true → R (.ret (.bool false))) ∧
(((↑na : Int) != (↑na : Int)) = false → ((((↑na : Int) != (↑na : Int)) = true → R (.ret (.bool false))) ∧
(((↑na : Int) != (↑na : Int)) = false → ((ConNOK Try.prog 13 (C13q p n c k d f bs g)) ∧ (ConN.pre (C13q p n c k d f bs g) ⟨⟨[(I p)], [⟨n, c⟩, ⟨k, d⟩]⟩, [(mvs n f), (u8s k bs)]⟩) ∧
((ConNOK Try.prog 15 (C15 p n c n f fun i => (↑(g i) : Int))) ∧ (ConN.pre (C15 p n c n f fun i => (↑(g i) : Int)) ⟨⟨[(I p)], [⟨n, c⟩, ⟨n, n⟩]⟩, [(mvs n f), (natL n g)]⟩) ∧
((ConNOK Try.prog 15 (C15 (if IntKind.i64.wrap (p - (1 : Int)) > (0 : Int) then IntKind.i64.wrap (p - (1 : Int)) else (0 : Int)) n n n f fun i => (↑(g i) : Int))) ∧ (ConN.pre (C15 (if IntKind.i64.wrap (p - (1 : Int)) > (0 : Int) then IntKind.i64.wrap (p - (1 : Int)) else (0 : Int)) n n n f fun i => (↑(g i) : Int)) ⟨⟨[(I (if IntKind.i64.wrap (p - (1 : Int)) > (0 : Int) then IntKind.i64.wrap (p - (1 : Int)) else (0 : Int)))], [⟨n, n⟩, ⟨n, n⟩]⟩, [(mvs n f), (natL n g)]⟩) ∧
((((↑n : Int) != (↑n : Int)) = true → R (.ret (.bool false))) ∧
(((↑n : Int) != (↑n : Int)) = false → ((((↑n : Int) != (↑n : Int)) = true → R (.ret (.bool false))) ∧
(((↑n : Int) != (↑n : Int)) = false → ((ClW ⟨⟨[(I n), (I 0), (I p), (I (if IntKind.i64.wrap (p - (1 : Int)) > (0 : Int) then IntKind.i64.wrap (p - (1 : Int)) else (0 : Int)))], [⟨n, n⟩, ⟨n, n⟩, ⟨n, n⟩, ⟨n, c⟩, ⟨n, n⟩]⟩, [(mvs n f), (mvs n f), (natL n g), (spansC n (latS false p n f fun i => (↑(g i) : Int)) (latS true p n f fun i => (↑(g i) : Int))), (spansC n (latS false (if IntKind.i64.wrap (p - (1 : Int)) > (0 : Int) then IntKind.i64.wrap (p - (1 : Int)) else (0 : Int)) n f fun i => (↑(g i) : Int)) (latS true (if IntKind.i64.wrap (p - (1 : Int)) > (0 : Int) then IntKind.i64.wrap (p - (1 : Int)) else (0 : Int)) n f fun i => (↑(g i) : Int)))], []⟩) ∧ (LoopOW Try.prog .none p9b (T9c (0 : Nat)) ⟨⟨[(I n), (I 0), (I p), (I (if IntKind.i64.wrap (p - (1 : Int)) > (0 : Int) then IntKind.i64.wrap (p - (1 : Int)) else (0 : Int)))], [⟨n, n⟩, ⟨n, n⟩, ⟨n, n⟩, ⟨n, c⟩, ⟨n, n⟩]⟩, [(mvs n f), (mvs n f), (natL n g), (spansC n (latS false p n f fun i => (↑(g i) : Int)) (latS true p n f fun i => (↑(g i) : Int))), (spansC n (latS false (if IntKind.i64.wrap (p - (1 : Int)) > (0 : Int) then IntKind.i64.wrap (p - (1 : Int)) else (0 : Int)) n f fun i => (↑(g i) : Int)) (latS true (if IntKind.i64.wrap (p - (1 : Int)) > (0 : Int) then IntKind.i64.wrap (p - (1 : Int)) else (0 : Int)) n f fun i => (↑(g i) : Int)))], []⟩ (.exit ((2 : Nat))) (T9c (0 : Nat)) ⟨⟨[(I n), (I n), (I p), (I (if IntKind.i64.wrap (p - (1 : Int)) > (0 : Int) then IntKind.i64.wrap (p - (1 : Int)) else (0 : Int)))], [⟨n, n⟩, ⟨n, n⟩, ⟨n, n⟩, ⟨n, c⟩, ⟨n, n⟩]⟩, [(mvs n f), (mvs n f), (natL n g), (spansC n (latS false p n f fun i => (↑(g i) : Int)) (latS true p n f fun i => (↑(g i) : Int))), (spansC n (latS false (if IntKind.i64.wrap (p - (1 : Int)) > (0 : Int) then IntKind.i64.wrap (p - (1 : Int)) else (0 : Int)) n f fun i => (↑(g i) : Int)) (latS true (if IntKind.i64.wrap (p - (1 : Int)) > (0 : Int) then IntKind.i64.wrap (p - (1 : Int)) else (0 : Int)) n f fun i => (↑(g i) : Int)))], []⟩) ∧
((ClW ⟨⟨[(I ((↑(2 : Nat) : Int))), (I 0), (I p), (I (if IntKind.i64.wrap (p - (1 : Int)) > (0 : Int) then IntKind.i64.wrap (p - (1 : Int)) else (0 : Int)))], [⟨n, n⟩, ⟨((2 : Nat)), ((2 : Nat))⟩, ⟨n, c⟩, ⟨n, n⟩]⟩, [(mvs n f), (mvs n f), (natL n g)], []⟩) ∧ (LoopOW Try.prog .none p9c (T9d (0 : Nat)) ⟨⟨[(I ((↑(2 : Nat) : Int))), (I 0), (I p), (I (if IntKind.i64.wrap (p - (1 : Int)) > (0 : Int) then IntKind.i64.wrap (p - (1 : Int)) else (0 : Int)))], [⟨n, n⟩, ⟨((2 : Nat)), ((2 : Nat))⟩, ⟨n, c⟩, ⟨n, n⟩]⟩, [(mvs n f), (mvs n f), (natL n g)], []⟩ (.exit ((4 : Nat))) (T9d (0 : Nat)) ⟨⟨[(I 2), (I ((↑(2 : Nat) : Int))), (I p), (I (if IntKind.i64.wrap (p - (1 : Int)) > (0 : Int) then IntKind.i64.wrap (p - (1 : Int)) else (0 : Int)))], [⟨n, n⟩, ⟨((2 : Nat)), ((2 : Nat))⟩, ⟨n, c⟩, ⟨n, n⟩]⟩, [(mvs n f), (mvs n f), (natL n g)], []⟩) ∧
((ConOK Try.prog 12 (C12)) ∧ (Con.pre (C12) ⟨⟨[], []⟩, []⟩) ∧
R (.ret (.bool true))))))))))))))))))))))))))))))))))) := by kernel_rfl
theorem f9e (p wh nu : Int) (n c k d na nb lc ld i2 : Nat) (f f2 : Nat → Mv) (bs : Nat → Int) (g : Nat → Nat) (pa pb pj pl : List Value) (R : ARes → Prop) : (vx.call 9 [hV p n c, slV 1 k d, .int .u8 wh, .int .u8 nu] (retK R) (m2b (mvs n f) (u8s k bs)) ([(17, .split ((7, .con C12) :: []) ((4, .con ((C21 p n c f).when (.ret (.bool true)))) :: (9, .conN (C24c true p n c (mvs n f) na pa)) :: (8, .conN (C24c false p n c (mvs n f) nb pb)) :: (9, .con (C23i true p n c ((IntKind.i64.wrap nu).tmod (8 : Int)) f lc)) :: (7, .con (C23i false p n c ((IntKind.i64.wrap nu).tmod (8 : Int)) f ld)) :: (15, .val (.bool false)) :: (20, .con (C29 lc)) :: (2, .con (C29 ld)) :: (0, .val (.bool false)) :: (5, .again) :: (4, .growN) :: (8, .loopW T9a (.exit (0 : Nat)) T9b fun x => h9b p wh nu n c k d na (mvs n f) (u8s k bs) (mvs n f) n (mvs n fun i => topM (f i))) :: (3, .val (.bool true)) :: (3, .val (.bool true)) :: (9, .val (I i2)) :: (0, .val (.pointer (.some ⟨((10 : Nat)), ((0 : Nat) + i2 * (4 : Nat)), .none⟩))) :: (6, .val (I ((f i2).lo))) :: (6, .val (I ((f i2).hi))) :: (10, .put (mvs n f2)) :: (1, .conN (C24c true p n n (mvs n fun i => topM (f i)) na pj)) :: (8, .conN (C24c false p n n (mvs n fun i => topM (f i)) na pl)) :: [(16, .split ([]) ([(4, .split ([]) ((4, .conN (C13q p n c k d f bs g)) :: (3, .conN (C15 p n c n f fun i => (↑(g i) : Int))) :: (7, .conN (C15 p n n n f2 fun i => (↑(g i) : Int))) :: [(16, .split ([]) ([(6, .split ([]) ((5, .loopW (T9c (1 : Nat)) (.exit (2 : Nat)) (T9c (1 : Nat)) fun x => h9c p p n c (mvs n f) (mvs n f2) (spansC n (latS false p n f fun i => (↑(g i) : Int)) (latS true p n f fun i => (↑(g i) : Int))) (spansC n (latS false p n f2 fun i => (↑(g i) : Int)) (latS true p n f2 fun i => (↑(g i) : Int))) (natL n g) n) :: (3, .loopW (T9d (1 : Nat)) (.exit (4 : Nat)) (T9d (1 : Nat)) fun x => h9d p p n c (mvs n f) (mvs n f2) (natL n g) (2 : Nat)) :: (0, .con C12) :: []))]))]))]))]))])) =
((((decide ((if (↑(0 : Nat) : Int) > (↑n : Int) then (↑(0 : Nat) : Int) else (↑n : Int)) > (40 : Int))) = true → ((ConOK Try.prog 12 (C12)) ∧ (Con.pre (C12) ⟨⟨[], []⟩, []⟩) ∧
R (.ret (.bool true)))) ∧
((decide ((if (↑(0 : Nat) : Int) > (↑n : Int) then (↑(0 : Nat) : Int) else (↑n : Int)) > (40 : Int))) = false → ((ConOK Try.prog 21 ((C21 p n c f).when (.ret (.bool true)))) ∧ (Con.pre ((C21 p n c f).when (.ret (.bool true))) ⟨⟨[(I p)], [⟨n, c⟩]⟩, [(mvs n f)]⟩) ∧
((ConNOK Try.prog 24 (C24c true p n c (mvs n f) na pa)) ∧ (ConN.pre (C24c true p n c (mvs n f) na pa) ⟨⟨[(I p), (.bool true)], [⟨n, c⟩]⟩, [(mvs n f)]⟩) ∧
((ConNOK Try.prog 24 (C24c false p n c (mvs n f) nb pb)) ∧ (ConN.pre (C24c false p n c (mvs n f) nb pb) ⟨⟨[(I p), (.bool false)], [⟨n, c⟩]⟩, [(mvs n f)]⟩) ∧
((ConOK Try.prog 23 (C23i true p n c ((IntKind.i64.wrap nu).tmod (OfNat.ofNat (8 : Nat))) f lc)) ∧ (Con.pre (C23i true p n c ((IntKind.i64.wrap nu).tmod (OfNat.ofNat (8 : Nat))) f lc) ⟨⟨[(I p), (I ((IntKind.i64.wrap nu).tmod (8 : Int))), (.bool true)], [⟨n, c⟩]⟩, [(mvs n f)]⟩) ∧
((ConOK Try.prog 23 (C23i false p n c ((IntKind.i64.wrap nu).tmod (OfNat.ofNat (8 : Nat))) f ld)) ∧ (Con.pre (C23i false p n c ((IntKind.i64.wrap nu).tmod (OfNat.ofNat (8 : Nat))) f ld) ⟨⟨[(I p), (I ((IntKind.i64.wrap nu).tmod (8 : Int))), (.bool false)], [⟨n, c⟩]⟩, [(mvs n f)]⟩) ∧
((((some (.bool (decide ((↑na : Int) < (↑nb : Int)))) : Option Value) = some (.bool false))) ∧
((ConOK Try.prog 29 (C29 lc)) ∧ (Con.pre (C29 lc) ⟨⟨[(I lc)], []⟩, []⟩) ∧
((ConOK Try.prog 29 (C29 ld)) ∧ (Con.pre (C29 ld) ⟨⟨[(I ld)], []⟩, []⟩) ∧
((((some (.bool (decide ((↑(popN lc) : Int) < (↑(popN ld) : Int)))) : Option Value) = some (.bool false))) ∧
((((((2 : Nat) ≤ (2 : Nat))) ∧ (((.agg ⟨[(I p), (.slice (.some ⟨0, 0, .none⟩) (n) (c))]⟩) : Value) = (.agg ⟨[(I p), (.slice (.some ⟨0, 0, .none⟩) (n) (c))]⟩))) ∧ (True)) ∧
(((((((0 : Nat) < n)) ∧ (((0 : Nat) + n * (4 : Nat) ≤ (mvs n f).length))) ∧ (((List.take (n * (4 : Nat)) (List.drop (0 : Nat) (mvs n f))).all one = true))) ∧ (((¬(0 : Nat) + n ≤ (0 : Nat))) ∧ ((((0 : Nat) = (0 : Nat))) ∧ (((((0 : Nat) + n) * (32 : Nat) ≤ (140737488355328 : Nat))) ∧ (((0 : Nat) + n ≤ (4611686018427387904 : Nat))))))) ∧
((ClW ⟨⟨[(.int .u8 (wh)), (.int .u8 (nu)), (I na), (I n), (I 0), (I p), (I p), (I p)], [⟨k, d⟩, ⟨n, c⟩, ⟨n, c⟩, ⟨((0 : Nat) + n), ((0 : Nat) + n)⟩]⟩, [(mvs n f), (u8s k bs), ([] ++ (List.take (n * (4 : Nat)) (List.drop ((0 : Nat)) (mvs n f))))], []⟩) ∧ (LoopOW Try.prog .none p9a (T9a) ⟨⟨[(.int .u8 (wh)), (.int .u8 (nu)), (I na), (I n), (I 0), (I p), (I p), (I p)], [⟨k, d⟩, ⟨n, c⟩, ⟨n, c⟩, ⟨((0 : Nat) + n), ((0 : Nat) + n)⟩]⟩, [(mvs n f), (u8s k bs), ([] ++ (List.take (n * (4 : Nat)) (List.drop ((0 : Nat)) (mvs n f))))], []⟩ (.exit ((0 : Nat))) (T9b) ⟨⟨[(.int .u8 (wh)), (.int .u8 (nu)), (I na), (I n), (I n), (I p), (I p), (I p)], [⟨k, d⟩, ⟨n, c⟩, ⟨n, c⟩, ⟨n, n⟩, ⟨n, n⟩]⟩, [(mvs n f), (u8s k bs), (mvs n f), (mvs n fun i => topM (f i))], []⟩) ∧
((((some (.bool (decide ((↑n : Int) > (0 : Int)))) : Option Value) = some (.bool true))) ∧
((((some (.bool (nu.tmod (2 : Int) == (0 : Int))) : Option Value) = some (.bool true))) ∧
((((((↑n : Int) ≠ (0 : Int))) ∧ ((IntKind.i64 = IntKind.i64))) ∧ (((I i2) : Value) = (I ((IntKind.i64.wrap wh).tmod (↑n : Int))))) ∧
((((((0 : Int) ≤ (↑i2 : Int))) ∧ (((↑i2 : Int) < (↑n : Int)))) ∧ (((.pointer (.some ⟨((10 : Nat)), ((0 : Nat) + i2 * (4 : Nat)), .none⟩)) : Value) = (.pointer (.some ⟨((10 : Nat)), ((0 : Nat) + i2 * (4 : Nat)), .none⟩)))) ∧
((((mvs n f)[(0 : Nat) + i2 * (4 : Nat) + (2 : Nat) + (0 : Nat)]? = some (I ((f i2).lo)))) ∧
((((mvs n f)[(0 : Nat) + i2 * (4 : Nat) + (2 : Nat) + (1 : Nat)]? = some (I ((f i2).hi)))) ∧
(((((0 : Nat) + i2 * (4 : Nat) + (2 : Nat) + (2 : Nat) ≤ (mvs n f).length)) ∧ ((List.take ((0 : Nat) + i2 * (4 : Nat) + (2 : Nat)) (mvs n f) ++ [Value.int .i64 (if IntKind.i64.wrap ((f i2).lo - (1 : Int)) > (1 : Int) then IntKind.i64.wrap ((f i2).lo - (1 : Int)) else (1 : Int)), Value.int .i64 (if IntKind.i64.wrap ((f i2).hi - (1 : Int)) > (1 : Int) then IntKind.i64.wrap ((f i2).hi - (1 : Int)) else (1 : Int))] ++ List.drop ((0 : Nat) + i2 * (4 : Nat) + (2 : Nat) + (2 : Nat)) (mvs n f) = mvs n f2))) ∧
((ConNOK Try.prog 24 (C24c true p n n (mvs n fun i => topM (f i)) na pj)) ∧ (ConN.pre (C24c true p n n (mvs n fun i => topM (f i)) na pj) ⟨⟨[(I p), (.bool true)], [⟨n, n⟩]⟩, [(mvs n fun i => topM (f i))]⟩) ∧
((ConNOK Try.prog 24 (C24c false p n n (mvs n fun i => topM (f i)) na pl)) ∧ (ConN.pre (C24c false p n n (mvs n fun i => topM (f i)) na pl) ⟨⟨[(I p), (.bool false)], [⟨n, n⟩]⟩, [(mvs n fun i => topM (f i))]⟩) ∧
((((↑na : Int) != (↑na : Int)) = true → R (.ret (.bool false))) ∧
(((↑na : Int) != (↑na : Int)) = false → ((((↑na : Int) != (↑na : Int)) = true → R (.ret (.bool false))) ∧
(((↑na : Int) != (↑na : Int)) = false → ((ConNOK Try.prog 13 (C13q p n c k d f bs g)) ∧ (ConN.pre (C13q p n c k d f bs g) ⟨⟨[(I p)], [⟨n, c⟩, ⟨k, d⟩]⟩, [(mvs n f), (u8s k bs)]⟩) ∧
((ConNOK Try.prog 15 (C15 p n c n f fun i => (↑(g i) : Int))) ∧ (ConN.pre (C15 p n c n f fun i => (↑(g i) : Int)) ⟨⟨[(I p)], [⟨n, c⟩, ⟨n, n⟩]⟩, [(mvs n f), (natL n g)]⟩) ∧
((ConNOK Try.prog 15 (C15 p n n n f2 fun i => (↑(g i) : Int))) ∧ (ConN.pre (C15 p n n n f2 fun i => (↑(g i) : Int)) ⟨⟨[(I p)], [⟨n, n⟩, ⟨n, n⟩]⟩, [(mvs n f2), (natL n g)]⟩) ∧
((((↑n : Int) != (↑n : Int)) = true → R (.ret (.bool false))) ∧
(((↑n : Int) != (↑n : Int)) = false → ((((↑n : Int) != (↑n : Int)) = true → R (.ret (.bool false))) ∧
(((↑n : Int) != (↑n : Int)) = false → ((ClW ⟨⟨[(I n), (I 0), (I p), (I p)], [⟨n, n⟩, ⟨n, n⟩, ⟨n, n⟩, ⟨n, c⟩, ⟨n, n⟩]⟩, [(mvs n f), (mvs n f2), (natL n g), (spansC n (latS false p n f fun i => (↑(g i) : Int)) (latS true p n f fun i => (↑(g i) : Int))), (spansC n (latS false p n f2 fun i => (↑(g i) : Int)) (latS true p n f2 fun i => (↑(g i) : Int)))], []⟩) ∧ (LoopOW Try.prog .none p9b (T9c (1 : Nat)) ⟨⟨[(I n), (I 0), (I p), (I p)], [⟨n, n⟩, ⟨n, n⟩, ⟨n, n⟩, ⟨n, c⟩, ⟨n, n⟩]⟩, [(mvs n f), (mvs n f2), (natL n g), (spansC n (latS false p n f fun i => (↑(g i) : Int)) (latS true p n f fun i => (↑(g i) : Int))), (spansC n (latS false p n f2 fun i => (↑(g i) : Int)) (latS true p n f2 fun i => (↑(g i) : Int)))], []⟩ (.exit ((2 : Nat))) (T9c (1 : Nat)) ⟨⟨[(I n), (I n), (I p), (I p)], [⟨n, n⟩, ⟨n, n⟩, ⟨n, n⟩, ⟨n, c⟩, ⟨n, n⟩]⟩, [(mvs n f), (mvs n f2), (natL n g), (spansC n (latS false p n f fun i => (↑(g i) : Int)) (latS true p n f fun i => (↑(g i) : Int))), (spansC n (latS false p n f2 fun i => (↑(g i) : Int)) (latS true p n f2 fun i => (↑(g i) : Int)))], []⟩) ∧
((ClW ⟨⟨[(I ((↑(2 : Nat) : Int))), (I 0), (I p), (I p)], [⟨n, n⟩, ⟨((2 : Nat)), ((2 : Nat))⟩, ⟨n, c⟩, ⟨n, n⟩]⟩, [(mvs n f), (mvs n f2), (natL n g)], []⟩) ∧ (LoopOW Try.prog .none p9c (T9d (1 : Nat)) ⟨⟨[(I ((↑(2 : Nat) : Int))), (I 0), (I p), (I p)], [⟨n, n⟩, ⟨((2 : Nat)), ((2 : Nat))⟩, ⟨n, c⟩, ⟨n, n⟩]⟩, [(mvs n f), (mvs n f2), (natL n g)], []⟩ (.exit ((4 : Nat))) (T9d (1 : Nat)) ⟨⟨[(I 2), (I ((↑(2 : Nat) : Int))), (I p), (I p)], [⟨n, n⟩, ⟨((2 : Nat)), ((2 : Nat))⟩, ⟨n, c⟩, ⟨n, n⟩]⟩, [(mvs n f), (mvs n f2), (natL n g)], []⟩) ∧
((ConOK Try.prog 12 (C12)) ∧ (Con.pre (C12) ⟨⟨[], []⟩, []⟩) ∧
R (.ret (.bool true)))))))))))))))))))))))))))))))))))))))) := by kernel_rfl
theorem f9oz (p wh nu : Int) (n c na nb lc ld i2 : Nat) (f f2 : Nat → Mv) (g : Nat → Nat) (pa pb pj pl : List Value) (R : ARes → Prop) : (vx.call 9 [hV p n c, nilS, .int .u8 wh, .int .u8 nu] (retK R) (m2n (mvs n f)) ([(17, .split ((7, .con C12) :: []) ((4, .con ((C21 p n c f).when (.ret (.bool true)))) :: (9, .conN (C24c true p n c (mvs n f) na pa)) :: (8, .conN (C24c false p n c (mvs n f) nb pb)) :: (9, .con (C23i true p n c ((IntKind.i64.wrap nu).tmod (8 : Int)) f lc)) :: (7, .con (C23i false p n c ((IntKind.i64.wrap nu).tmod (8 : Int)) f ld)) :: (15, .val (.bool false)) :: (20, .con (C29 lc)) :: (2, .con (C29 ld)) :: (0, .val (.bool false)) :: (5, .again) :: (4, .growN) :: (8, .loopW T9az (.exit (0 : Nat)) T9bz fun x => h9bz p wh nu n c na (mvs n f) (mvs n f) n (mvs n fun i => topM (f i))) :: (3, .val (.bool true)) :: (3, .val (.bool false)) :: (9, .conN (C24c true p n n (mvs n fun i => topM (f i)) na pj)) :: (8, .conN (C24c false p n n (mvs n fun i => topM (f i)) na pl)) :: [(16, .split ([]) ([(4, .split ([]) ((4, .conN (C13z p n c f g)) :: (3, .conN (C15 p n c n f fun i => (↑(g i) : Int))) :: (7, .conN (C15 (if IntKind.i64.wrap (p - (1 : Int)) > (0 : Int) then IntKind.i64.wrap (p - (1 : Int)) else (0 : Int)) n n n f fun i => (↑(g i) : Int))) :: [(16, .split ([]) ([(6, .split ([]) ((5, .loopW (T9c (0 : Nat)) (.exit (2 : Nat)) (T9c (0 : Nat)) fun x => h9c p (if IntKind.i64.wrap (p - (1 : Int)) > (0 : Int) then IntKind.i64.wrap (p - (1 : Int)) else (0 : Int)) n c (mvs n f) (mvs n f) (spansC n (latS false p n f fun i => (↑(g i) : Int)) (latS true p n f fun i => (↑(g i) : Int))) (spansC n (latS false (if IntKind.i64.wrap (p - (1 : Int)) > (0 : Int) then IntKind.i64.wrap (p - (1 : Int)) else (0 : Int)) n f fun i => (↑(g i) : Int)) (latS true (if IntKind.i64.wrap (p - (1 : Int)) > (0 : Int) then IntKind.i64.wrap (p - (1 : Int)) else (0 : Int)) n f fun i => (↑(g i) : Int))) (natL n g) n) :: (3, .loopW (T9d (0 : Nat)) (.exit (4 : Nat)) (T9d (0 : Nat)) fun x => h9d p (if IntKind.i64.wrap (p - (1 : Int)) > (0 : Int) then IntKind.i64.wrap (p - (1 : Int)) else (0 : Int)) n c (mvs n f) (mvs n f) (natL n g) (2 : Nat)) :: (0, .con C12) :: []))]))]))]))]))])) =
((((decide ((if (↑(0 : Nat) : Int) > (↑n : Int) then (↑(0 : Nat) : Int) else (↑n : Int)) > (40 : Int))) = true → ((ConOK Try.prog 12 (C12)) ∧ (Con.pre (C12) ⟨⟨[], []⟩, []⟩) ∧
R (.ret (.bool true)))) ∧
((decide ((if (↑(0 : Nat) : Int) > (↑n : Int) then (↑(0 : Nat) : Int) else (↑n : Int)) > (40 : Int))) = false → ((ConOK Try.prog 21 ((C21 p n c f).when (.ret (.bool true)))) ∧ (Con.pre ((C21 p n c f).when (.ret (.bool true))) ⟨⟨[(I p)], [⟨n, c⟩]⟩, [(mvs n f)]⟩) ∧
((ConNOK Try.prog 24 (C24c true p n c (mvs n f) na pa)) ∧ (ConN.pre (C24c true p n c (mvs n f) na pa) ⟨⟨[(I p), (.bool true)], [⟨n, c⟩]⟩, [(mvs n f)]⟩) ∧
((ConNOK Try.prog 24 (C24c false p n c (mvs n f) nb pb)) ∧ (ConN.pre (C24c false p n c (mvs n f) nb pb) ⟨⟨[(I p), (.bool false)], [⟨n, c⟩]⟩, [(mvs n f)]⟩) ∧
((ConOK Try.prog 23 (C23i true p n c ((IntKind.i64.wrap nu).tmod (OfNat.ofNat (8 : Nat))) f lc)) ∧ (Con.pre (C23i true p n c ((IntKind.i64.wrap nu).tmod (OfNat.ofNat (8 : Nat))) f lc) ⟨⟨[(I p), (I ((IntKind.i64.wrap nu).tmod (8 : Int))), (.bool true)], [⟨n, c⟩]⟩, [(mvs n f)]⟩) ∧
((ConOK Try.prog 23 (C23i false p n c ((IntKind.i64.wrap nu).tmod (OfNat.ofNat (8 : Nat))) f ld)) ∧ (Con.pre (C23i false p n c ((IntKind.i64.wrap nu).tmod (OfNat.ofNat (8 : Nat))) f ld) ⟨⟨[(I p), (I ((IntKind.i64.wrap nu).tmod (8 : Int))), (.bool false)], [⟨n, c⟩]⟩, [(mvs n f)]⟩) ∧
((((some (.bool (decide ((↑na : Int) < (↑nb : Int)))) : Option Value) = some (.bool false))) ∧
((ConOK Try.prog 29 (C29 lc)) ∧ (Con.pre (C29 lc) ⟨⟨[(I lc)], []⟩, []⟩) ∧
((ConOK Try.prog 29 (C29 ld)) ∧ (Con.pre (C29 ld) ⟨⟨[(I ld)], []⟩, []⟩) ∧
((((some (.bool (decide ((↑(popN lc) : Int) < (↑(popN ld) : Int)))) : Option Value) = some (.bool false))) ∧
((((((2 : Nat) ≤ (2 : Nat))) ∧ (((.agg ⟨[(I p), (.slice (.some ⟨0, 0, .none⟩) (n) (c))]⟩) : Value) = (.agg ⟨[(I p), (.slice (.some ⟨0, 0, .none⟩) (n) (c))]⟩))) ∧ (True)) ∧
(((((((0 : Nat) < n)) ∧ (((0 : Nat) + n * (4 : Nat) ≤ (mvs n f).length))) ∧ (((List.take (n * (4 : Nat)) (List.drop (0 : Nat) (mvs n f))).all one = true))) ∧ (((¬(0 : Nat) + n ≤ (0 : Nat))) ∧ ((((0 : Nat) = (0 : Nat))) ∧ (((((0 : Nat) + n) * (32 : Nat) ≤ (140737488355328 : Nat))) ∧ (((0 : Nat) + n ≤ (4611686018427387904 : Nat))))))) ∧
((ClW ⟨⟨[(.int .u8 (wh)), (.int .u8 (nu)), (I na), (I n), (I 0), (I p), (I p), (I p)], [⟨n, c⟩, ⟨n, c⟩, ⟨((0 : Nat) + n), ((0 : Nat) + n)⟩]⟩, [(mvs n f), ([] ++ (List.take (n * (4 : Nat)) (List.drop ((0 : Nat)) (mvs n f))))], []⟩) ∧ (LoopOW Try.prog .none p9a (T9az) ⟨⟨[(.int .u8 (wh)), (.int .u8 (nu)), (I na), (I n), (I 0), (I p), (I p), (I p)], [⟨n, c⟩, ⟨n, c⟩, ⟨((0 : Nat) + n), ((0 : Nat) + n)⟩]⟩, [(mvs n f), ([] ++ (List.take (n * (4 : Nat)) (List.drop ((0 : Nat)) (mvs n f))))], []⟩ (.exit ((0 : Nat))) (T9bz) ⟨⟨[(.int .u8 (wh)), (.int .u8 (nu)), (I na), (I n), (I n), (I p), (I p), (I p)], [⟨n, c⟩, ⟨n, c⟩, ⟨n, n⟩, ⟨n, n⟩]⟩, [(mvs n f), (mvs n f), (mvs n fun i => topM (f i))], []⟩) ∧
((((some (.bool (decide ((↑n : Int) > (0 : Int)))) : Option Value) = some (.bool true))) ∧
((((some (.bool (nu.tmod (2 : Int) == (0 : Int))) : Option Value) = some (.bool false))) ∧
((ConNOK Try.prog 24 (C24c true p n n (mvs n fun i => topM (f i)) na pj)) ∧ (ConN.pre (C24c true p n n (mvs n fun i => topM (f i)) na pj) ⟨⟨[(I p), (.bool true)], [⟨n, n⟩]⟩, [(mvs n fun i => topM (f i))]⟩) ∧
((ConNOK Try.prog 24 (C24c false p n n (mvs n fun i => topM (f i)) na pl)) ∧ (ConN.pre (C24c false p n n (mvs n fun i => topM (f i)) na pl) ⟨⟨[(I p), (.bool false)], [⟨n, n⟩]⟩, [(mvs n fun i => topM (f i))]⟩) ∧
((((↑na : Int) != (↑na : Int)) = true → R (.ret (.bool false))) ∧
(((↑na : Int) != (↑na : Int)) = false → ((((↑na : Int) != (↑na : Int)) = true → R (.ret (.bool false))) ∧
(((↑na : Int) != (↑na : Int)) = false → ((ConNOK Try.prog 13 (C13z p n c f g)) ∧ (ConN.pre (C13z p n c f g) ⟨⟨[(I p)], [⟨n, c⟩]⟩, [(mvs n f)]⟩) ∧
((ConNOK Try.prog 15 (C15 p n c n f fun i => (↑(g i) : Int))) ∧ (ConN.pre (C15 p n c n f fun i => (↑(g i) : Int)) ⟨⟨[(I p)], [⟨n, c⟩, ⟨n, n⟩]⟩, [(mvs n f), (natL n g)]⟩) ∧
((ConNOK Try.prog 15 (C15 (if IntKind.i64.wrap (p - (1 : Int)) > (0 : Int) then IntKind.i64.wrap (p - (1 : Int)) else (0 : Int)) n n n f fun i => (↑(g i) : Int))) ∧ (ConN.pre (C15 (if IntKind.i64.wrap (p - (1 : Int)) > (0 : Int) then IntKind.i64.wrap (p - (1 : Int)) else (0 : Int)) n n n f fun i => (↑(g i) : Int)) ⟨⟨[(I (if IntKind.i64.wrap (p - (1 : Int)) > (0 : Int) then IntKind.i64.wrap (p - (1 : Int)) else (0 : Int)))], [⟨n, n⟩, ⟨n, n⟩]⟩, [(mvs n f), (natL n g)]⟩) ∧
((((↑n : Int) != (↑n : Int)) = true → R (.ret (.bool false))) ∧
(((↑n : Int) != (↑n : Int)) = false → ((((↑n : Int) != (↑n : Int)) = true → R (.ret (.bool false))) ∧
(((↑n : Int) != (↑n : Int)) = false → ((ClW ⟨⟨[(I n), (I 0), (I p), (I (if IntKind.i64.wrap (p - (1 : Int)) > (0 : Int) then IntKind.i64.wrap (p - (1 : Int)) else (0 : Int)))], [⟨n, n⟩, ⟨n, n⟩, ⟨n, n⟩, ⟨n, c⟩, ⟨n, n⟩]⟩, [(mvs n f), (mvs n f), (natL n g), (spansC n (latS false p n f fun i => (↑(g i) : Int)) (latS true p n f fun i => (↑(g i) : Int))), (spansC n (latS false (if IntKind.i64.wrap (p - (1 : Int)) > (0 : Int) then IntKind.i64.wrap (p - (1 : Int)) else (0 : Int)) n f fun i => (↑(g i) : Int)) (latS true (if IntKind.i64.wrap (p - (1 : Int)) > (0 : Int) then IntKind.i64.wrap (p - (1 : Int)) else (0 : Int)) n f fun i => (↑(g i) : Int)))], []⟩) ∧ (LoopOW Try.prog .none p9b (T9c (0 : Nat)) ⟨⟨[(I n), (I 0), (I p), (I (if IntKind.i64.wrap (p - (1 : Int)) > (0 : Int) then IntKind.i64.wrap (p - (1 : Int)) else (0 : Int)))], [⟨n, n⟩, ⟨n, n⟩, ⟨n, n⟩, ⟨n, c⟩, ⟨n, n⟩]⟩, [(mvs n f), (mvs n f), (natL n g), (spansC n (latS false p n f fun i => (↑(g i) : Int)) (latS true p n f fun i => (↑(g i) : Int))), (spansC n (latS false (if IntKind.i64.wrap (p - (1 : Int)) > (0 : Int) then IntKind.i64.wrap (p - (1 : Int)) else (0 : Int)) n f fun i => (↑(g i) : Int)) (latS true (if IntKind.i64.wrap (p - (1 : Int)) > (0 : Int) then IntKind.i64.wrap (p - (1 : Int)) else (0 : Int)) n f fun i => (↑(g i) : Int)))], []⟩ (.exit ((2 : Nat))) (T9c (0 : Nat)) ⟨⟨[(I n), (I n), (I p), (I (if IntKind.i64.wrap (p - (1 : Int)) > (0 : Int) then IntKind.i64.wrap (p - (1 : Int)) else (0 : Int)))], [⟨n, n⟩, ⟨n, n⟩, ⟨n, n⟩, ⟨n, c⟩, ⟨n, n⟩]⟩, [(mvs n f), (mvs n f), (natL n g), (spansC n (latS false p n f fun i => (↑(g i) : Int)) (latS true p n f fun i => (↑(g i) : Int))), (spansC n (latS false (if IntKind.i64.wrap (p - (1 : Int)) > (0 : Int) then IntKind.i64.wrap (p - (1 : Int)) else (0 : Int)) n f fun i => (↑(g i) : Int)) (latS true (if IntKind.i64.wrap (p - (1 : Int)) > (0 : Int) then IntKind.i64.wrap (p - (1 : Int)) else (0 : Int)) n f fun i => (↑(g i) : Int)))], []⟩) ∧
((ClW ⟨⟨[(I ((↑(2 : Nat) : Int))), (I 0), (I p), (I (if IntKind.i64.wrap (p - (1 : Int)) > (0 : Int) then IntKind.i64.wrap (p - (1 : Int)) else (0 : Int)))], [⟨n, n⟩, ⟨((2 : Nat)), ((2 : Nat))⟩, ⟨n, c⟩, ⟨n, n⟩]⟩, [(mvs n f), (mvs n f), (natL n g)], []⟩) ∧ (LoopOW Try.prog .none p9c (T9d (0 : Nat)) ⟨⟨[(I ((↑(2 : Nat) : Int))), (I 0), (I p), (I (if IntKind.i64.wrap (p - (1 : Int)) > (0 : Int) then IntKind.i64.wrap (p - (1 : Int)) else (0 : Int)))], [⟨n, n⟩, ⟨((2 : Nat)), ((2 : Nat))⟩, ⟨n, c⟩, ⟨n, n⟩]⟩, [(mvs n f), (mvs n f), (natL n g)], []⟩ (.exit ((4 : Nat))) (T9d (0 : Nat)) ⟨⟨[(I 2), (I ((↑(2 : Nat) : Int))), (I p), (I (if IntKind.i64.wrap (p - (1 : Int)) > (0 : Int) then IntKind.i64.wrap (p - (1 : Int)) else (0 : Int)))], [⟨n, n⟩, ⟨((2 : Nat)), ((2 : Nat))⟩, ⟨n, c⟩, ⟨n, n⟩]⟩, [(mvs n f), (mvs n f), (natL n g)], []⟩) ∧
((ConOK Try.prog 12 (C12)) ∧ (Con.pre (C12) ⟨⟨[], []⟩, []⟩) ∧
R (.ret (.bool true))))))))))))))))))))))))))))))))))) := by kernel_rfl
theorem f9ez (p wh nu : Int) (n c na nb lc ld i2 : Nat) (f f2 : Nat → Mv) (g : Nat → Nat) (pa pb pj pl : List Value) (R : ARes → Prop) : (vx.call 9 [hV p n c, nilS, .int .u8 wh, .int .u8 nu] (retK R) (m2n (mvs n f)) ([(17, .split ((7, .con C12) :: []) ((4, .con ((C21 p n c f).when (.ret (.bool true)))) :: (9, .conN (C24c true p n c (mvs n f) na pa)) :: (8, .conN (C24c false p n c (mvs n f) nb pb)) :: (9, .con (C23i true p n c ((IntKind.i64.wrap nu).tmod (8 : Int)) f lc)) :: (7, .con (C23i false p n c ((IntKind.i64.wrap nu).tmod (8 : Int)) f ld)) :: (15, .val (.bool false)) :: (20, .con (C29 lc)) :: (2, .con (C29 ld)) :: (0, .val (.bool false)) :: (5, .again) :: (4, .growN) :: (8, .loopW T9az (.exit (0 : Nat)) T9bz fun x => h9bz p wh nu n c na (mvs n f) (mvs n f) n (mvs n fun i => topM (f i))) :: (3, .val (.bool true)) :: (3, .val (.bool true)) :: (9, .val (I i2)) :: (0, .val (.pointer (.some ⟨((10 : Nat)), ((0 : Nat) + i2 * (4 : Nat)), .none⟩))) :: (6, .val (I ((f i2).lo))) :: (6, .val (I ((f i2).hi))) :: (10, .put (mvs n f2)) :: (1, .conN (C24c true p n n (mvs n fun i => topM (f i)) na pj)) :: (8, .conN (C24c false p n n (mvs n fun i => topM (f i)) na pl)) :: [(16, .split ([]) ([(4, .split ([]) ((4, .conN (C13z p n c f g)) :: (3, .conN (C15 p n c n f fun i => (↑(g i) : Int))) :: (7, .conN (C15 p n n n f2 fun i => (↑(g i) : Int))) :: [(16, .split ([]) ([(6, .split ([]) ((5, .loopW (T9c (1 : Nat)) (.exit (2 : Nat)) (T9c (1 : Nat)) fun x => h9c p p n c (mvs n f) (mvs n f2) (spansC n (latS false p n f fun i => (↑(g i) : Int)) (latS true p n f fun i => (↑(g i) : Int))) (spansC n (latS false p n f2 fun i => (↑(g i) : Int)) (latS true p n f2 fun i => (↑(g i) : Int))) (natL n g) n) :: (3, .loopW (T9d (1 : Nat)) (.exit (4 : Nat)) (T9d (1 : Nat)) fun x => h9d p p n c (mvs n f) (mvs n f2) (natL n g) (2 : Nat)) :: (0, .con C12) :: []))]))]))]))]))])) =
((((decide ((if (↑(0 : Nat) : Int) > (↑n : Int) then (↑(0 : Nat) : Int) else (↑n : Int)) > (40 : Int))) = true → ((ConOK Try.prog 12 (C12)) ∧ (Con.pre (C12) ⟨⟨[], []⟩, []⟩) ∧
R (.ret (.bool true)))) ∧
((decide ((if (↑(0 : Nat) : Int) > (↑n : Int) then (↑(0 : Nat) : Int) else (↑n : Int)) > (40 : Int))) = false → ((ConOK Try.prog 21 ((C21 p n c f).when (.ret (.bool true)))) ∧ (Con.pre ((C21 p n c f).when (.ret (.bool true))) ⟨⟨[(I p)], [⟨n, c⟩]⟩, [(mvs n f)]⟩) ∧
((ConNOK Try.prog 24 (C24c true p n c (mvs n f) na pa)) ∧ (ConN.pre (C24c true p n c (mvs n f) na pa) ⟨⟨[(I p), (.bool true)], [⟨n, c⟩]⟩, [(mvs n f)]⟩) ∧
((ConNOK Try.prog 24 (C24c false p n c (mvs n f) nb pb)) ∧ (ConN.pre (C24c false p n c (mvs n f) nb pb) ⟨⟨[(I p), (.bool false)], [⟨n, c⟩]⟩, [(mvs n f)]⟩) ∧
((ConOK Try.prog 23 (C23i true p n c ((IntKind.i64.wrap nu).tmod (OfNat.ofNat (8 : Nat))) f lc)) ∧ (Con.pre (C23i true p n c ((IntKind.i64.wrap nu).tmod (OfNat.ofNat (8 : Nat))) f lc) ⟨⟨[(I p), (I ((IntKind.i64.wrap nu).tmod (8 : Int))), (.bool true)], [⟨n, c⟩]⟩, [(mvs n f)]⟩) ∧
((ConOK Try.prog 23 (C23i false p n c ((IntKind.i64.wrap nu).tmod (OfNat.ofNat (8 : Nat))) f ld)) ∧ (Con.pre (C23i false p n c ((IntKind.i64.wrap nu).tmod (OfNat.ofNat (8 : Nat))) f ld) ⟨⟨[(I p), (I ((IntKind.i64.wrap nu).tmod (8 : Int))), (.bool false)], [⟨n, c⟩]⟩, [(mvs n f)]⟩) ∧
((((some (.bool (decide ((↑na : Int) < (↑nb : Int)))) : Option Value) = some (.bool false))) ∧
((ConOK Try.prog 29 (C29 lc)) ∧ (Con.pre (C29 lc) ⟨⟨[(I lc)], []⟩, []⟩) ∧
((ConOK Try.prog 29 (C29 ld)) ∧ (Con.pre (C29 ld) ⟨⟨[(I ld)], []⟩, []⟩) ∧
((((some (.bool (decide ((↑(popN lc) : Int) < (↑(popN ld) : Int)))) : Option Value) = some (.bool false))) ∧
((((((2 : Nat) ≤ (2 : Nat))) ∧ (((.agg ⟨[(I p), (.slice (.some ⟨0, 0, .none⟩) (n) (c))]⟩) : Value) = (.agg ⟨[(I p), (.slice (.some ⟨0, 0, .none⟩) (n) (c))]⟩))) ∧ (True)) ∧
(((((((0 : Nat) < n)) ∧ (((0 : Nat) + n * (4 : Nat) ≤ (mvs n f).length))) ∧ (((List.take (n * (4 : Nat)) (List.drop (0 : Nat) (mvs n f))).all one = true))) ∧ (((¬(0 : Nat) + n ≤ (0 : Nat))) ∧ ((((0 : Nat) = (0 : Nat))) ∧ (((((0 : Nat) + n) * (32 : Nat) ≤ (140737488355328 : Nat))) ∧ (((0 : Nat) + n ≤ (4611686018427387904 : Nat))))))) ∧
((ClW ⟨⟨[(.int .u8 (wh)), (.int .u8 (nu)), (I na), (I n), (I 0), (I p), (I p), (I p)], [⟨n, c⟩, ⟨n, c⟩, ⟨((0 : Nat) + n), ((0 : Nat) + n)⟩]⟩, [(mvs n f), ([] ++ (List.take (n * (4 : Nat)) (List.drop ((0 : Nat)) (mvs n f))))], []⟩) ∧ (LoopOW Try.prog .none p9a (T9az) ⟨⟨[(.int .u8 (wh)), (.int .u8 (nu)), (I na), (I n), (I 0), (I p), (I p), (I p)], [⟨n, c⟩, ⟨n, c⟩, ⟨((0 : Nat) + n), ((0 : Nat) + n)⟩]⟩, [(mvs n f), ([] ++ (List.take (n * (4 : Nat)) (List.drop ((0 : Nat)) (mvs n f))))], []⟩ (.exit ((0 : Nat))) (T9bz) ⟨⟨[(.int .u8 (wh)), (.int .u8 (nu)), (I na), (I n), (I n), (I p), (I p), (I p)], [⟨n, c⟩, ⟨n, c⟩, ⟨n, n⟩, ⟨n, n⟩]⟩, [(mvs n f), (mvs n f), (mvs n fun i => topM (f i))], []⟩) ∧
((((some (.bool (decide ((↑n : Int) > (0 : Int)))) : Option Value) = some (.bool true))) ∧
((((some (.bool (nu.tmod (2 : Int) == (0 : Int))) : Option Value) = some (.bool true))) ∧
((((((↑n : Int) ≠ (0 : Int))) ∧ ((IntKind.i64 = IntKind.i64))) ∧ (((I i2) : Value) = (I ((IntKind.i64.wrap wh).tmod (↑n : Int))))) ∧
((((((0 : Int) ≤ (↑i2 : Int))) ∧ (((↑i2 : Int) < (↑n : Int)))) ∧ (((.pointer (.some ⟨((10 : Nat)), ((0 : Nat) + i2 * (4 : Nat)), .none⟩)) : Value) = (.pointer (.some ⟨((10 : Nat)), ((0 : Nat) + i2 * (4 : Nat)), .none⟩)))) ∧
((((mvs n f)[(0 : Nat) + i2 * (4 : Nat) + (2 : Nat) + (0 : Nat)]? = some (I ((f i2).lo)))) ∧
((((mvs n f)[(0 : Nat) + i2 * (4 : Nat) + (2 : Nat) + (1 : Nat)]? = some (I ((f i2).hi)))) ∧
(((((0 : Nat) + i2 * (4 : Nat) + (2 : Nat) + (2 : Nat) ≤ (mvs n f).length)) ∧ ((List.take ((0 : Nat) + i2 * (4 : Nat) + (2 : Nat)) (mvs n f) ++ [Value.int .i64 (if IntKind.i64.wrap ((f i2).lo - (1 : Int)) > (1 : Int) then IntKind.i64.wrap ((f i2).lo - (1 : Int)) else (1 : Int)), Value.int .i64 (if IntKind.i64.wrap ((f i2).hi - (1 : Int)) > (1 : Int) then IntKind.i64.wrap ((f i2).hi - (1 : Int)) else (1 : Int))] ++ List.drop ((0 : Nat) + i2 * (4 : Nat) + (2 : Nat) + (2 : Nat)) (mvs n f) = mvs n f2))) ∧
((ConNOK Try.prog 24 (C24c true p n n (mvs n fun i => topM (f i)) na pj)) ∧ (ConN.pre (C24c true p n n (mvs n fun i => topM (f i)) na pj) ⟨⟨[(I p), (.bool true)], [⟨n, n⟩]⟩, [(mvs n fun i => topM (f i))]⟩) ∧
((ConNOK Try.prog 24 (C24c false p n n (mvs n fun i => topM (f i)) na pl)) ∧ (ConN.pre (C24c false p n n (mvs n fun i => topM (f i)) na pl) ⟨⟨[(I p), (.bool false)], [⟨n, n⟩]⟩, [(mvs n fun i => topM (f i))]⟩) ∧
((((↑na : Int) != (↑na : Int)) = true → R (.ret (.bool false))) ∧
(((↑na : Int) != (↑na : Int)) = false → ((((↑na : Int) != (↑na : Int)) = true → R (.ret (.bool false))) ∧
(((↑na : Int) != (↑na : Int)) = false → ((ConNOK Try.prog 13 (C13z p n c f g)) ∧ (ConN.pre (C13z p n c f g) ⟨⟨[(I p)], [⟨n, c⟩]⟩, [(mvs n f)]⟩) ∧
((ConNOK Try.prog 15 (C15 p n c n f fun i => (↑(g i) : Int))) ∧ (ConN.pre (C15 p n c n f fun i => (↑(g i) : Int)) ⟨⟨[(I p)], [⟨n, c⟩, ⟨n, n⟩]⟩, [(mvs n f), (natL n g)]⟩) ∧
((ConNOK Try.prog 15 (C15 p n n n f2 fun i => (↑(g i) : Int))) ∧ (ConN.pre (C15 p n n n f2 fun i => (↑(g i) : Int)) ⟨⟨[(I p)], [⟨n, n⟩, ⟨n, n⟩]⟩, [(mvs n f2), (natL n g)]⟩) ∧
((((↑n : Int) != (↑n : Int)) = true → R (.ret (.bool false))) ∧
(((↑n : Int) != (↑n : Int)) = false → ((((↑n : Int) != (↑n : Int)) = true → R (.ret (.bool false))) ∧
(((↑n : Int) != (↑n : Int)) = false → ((ClW ⟨⟨[(I n), (I 0), (I p), (I p)], [⟨n, n⟩, ⟨n, n⟩, ⟨n, n⟩, ⟨n, c⟩, ⟨n, n⟩]⟩, [(mvs n f), (mvs n f2), (natL n g), (spansC n (latS false p n f fun i => (↑(g i) : Int)) (latS true p n f fun i => (↑(g i) : Int))), (spansC n (latS false p n f2 fun i => (↑(g i) : Int)) (latS true p n f2 fun i => (↑(g i) : Int)))], []⟩) ∧ (LoopOW Try.prog .none p9b (T9c (1 : Nat)) ⟨⟨[(I n), (I 0), (I p), (I p)], [⟨n, n⟩, ⟨n, n⟩, ⟨n, n⟩, ⟨n, c⟩, ⟨n, n⟩]⟩, [(mvs n f), (mvs n f2), (natL n g), (spansC n (latS false p n f fun i => (↑(g i) : Int)) (latS true p n f fun i => (↑(g i) : Int))), (spansC n (latS false p n f2 fun i => (↑(g i) : Int)) (latS true p n f2 fun i => (↑(g i) : Int)))], []⟩ (.exit ((2 : Nat))) (T9c (1 : Nat)) ⟨⟨[(I n), (I n), (I p), (I p)], [⟨n, n⟩, ⟨n, n⟩, ⟨n, n⟩, ⟨n, c⟩, ⟨n, n⟩]⟩, [(mvs n f), (mvs n f2), (natL n g), (spansC n (latS false p n f fun i => (↑(g i) : Int)) (latS true p n f fun i => (↑(g i) : Int))), (spansC n (latS false p n f2 fun i => (↑(g i) : Int)) (latS true p n f2 fun i => (↑(g i) : Int)))], []⟩) ∧
((ClW ⟨⟨[(I ((↑(2 : Nat) : Int))), (I 0), (I p), (I p)], [⟨n, n⟩, ⟨((2 : Nat)), ((2 : Nat))⟩, ⟨n, c⟩, ⟨n, n⟩]⟩, [(mvs n f), (mvs n f2), (natL n g)], []⟩) ∧ (LoopOW Try.prog .none p9c (T9d (1 : Nat)) ⟨⟨[(I ((↑(2 : Nat) : Int))), (I 0), (I p), (I p)], [⟨n, n⟩, ⟨((2 : Nat)), ((2 : Nat))⟩, ⟨n, c⟩, ⟨n, n⟩]⟩, [(mvs n f), (mvs n f2), (natL n g)], []⟩ (.exit ((4 : Nat))) (T9d (1 : Nat)) ⟨⟨[(I 2), (I ((↑(2 : Nat) : Int))), (I p), (I p)], [⟨n, n⟩, ⟨((2 : Nat)), ((2 : Nat))⟩, ⟨n, c⟩, ⟨n, n⟩]⟩, [(mvs n f), (mvs n f2), (natL n g)], []⟩) ∧
((ConOK Try.prog 12 (C12)) ∧ (Con.pre (C12) ⟨⟨[], []⟩, []⟩) ∧
R (.ret (.bool true)))))))))))))))))))))))))))))))))))))))) := by kernel_rfl
theorem mvs_at2 {n i : Nat} (f : Nat → Mv) (h : i < n) : (mvs n f)[0 + i * 4 + 2 + 0]? = some (I (f i).lo) ∧ (mvs n f)[0 + i * 4 + 2 + 1]? = some (I (f i).hi) := by
  have h1 := flatC_get (n := n) (k := 4) (g := fun i => mvV (f i)) (fun i _ => rfl) h (j := 2) (by omega)
  have h2 := flatC_get (n := n) (k := 4) (g := fun i => mvV (f i)) (fun i _ => rfl) h (j := 3) (by omega)
  rw [Nat.zero_add]
  exact ⟨h1, h2⟩
theorem mvs_less {n i : Nat} (f : Nat → Mv) (h : i < n) : (mvs n f).take (0 + i * 4 + 2) ++ [I (lessM (f i)).lo, I (lessM (f i)).hi] ++ (mvs n f).drop (0 + i * 4 + 2 + 2) = mvs n (lessF f i) := by
  have hs := flatC_set (n := n) (k := 4) (g := fun i => mvV (f i)) (fun _ _ => rfl) h (v := mvV (lessM (f i))) rfl
  have hp := mvs_part (n := n) f h
  rw [Nat.zero_add] at hp ⊢
  have h2 : ((mvs n f).drop (i * 4)).take 2 = [I (f i).at_, I (f i).place] := by
    have : ((mvs n f).drop (i * 4)).take 2 = (((mvs n f).drop (i * 4)).take 4).take 2 := by rw [List.take_take]; rfl
    rw [this, hp]
    rfl
  rw [List.take_add, h2]
  have e4 : i * 4 + 2 + 2 = i * 4 + 4 := by omega
  rw [e4, List.append_assoc, List.append_assoc]
  have hs : (mvs n f).take (i * 4) ++ mvV (lessM (f i)) ++ (mvs n f).drop (i * 4 + 4) = flatC n fun x => if x = i then mvV (lessM (f i)) else mvV (f x) := hs
  have e5 : (flatC n fun x => if x = i then mvV (lessM (f i)) else mvV (f x)) = mvs n (lessF f i) := flatC_congr fun x _ => by
    simp only [lessF]
    split
    · rename_i e; rw [e]
    · rfl
  rw [← e5, ← hs, List.append_assoc]
  rfl
theorem ones_mvs2 (n : Nat) (f : Nat → Mv) : (List.take (n * 4) (List.drop 0 (mvs n f))).all one = true := by
  have e : List.take (n * 4) (List.drop 0 (mvs n f)) = mvs n f := by rw [List.drop_zero, ← mvs_len n f, List.take_length]
  rw [e]
  refine List.all_eq_true.2 fun v hv => ?_
  unfold mvs flatC at hv
  simp only [List.mem_flatMap, List.mem_range] at hv
  obtain ⟨i, _, hv⟩ := hv
  simp only [mvV, List.mem_cons, List.not_mem_nil, or_false] at hv
  rcases hv with rfl | rfl | rfl | rfl <;> rfl
theorem all_mvs (n : Nat) (f : Nat → Mv) : ([] : List Value) ++ List.take (n * 4) (List.drop 0 (mvs n f)) = mvs n f := by rw [List.nil_append, List.drop_zero, ← mvs_len n f, List.take_length]
theorem law9o (p wh nu : Int) (n c k d : Nat) (f : Nat → Mv) (bs : Nat → Int) (hb : ∀ i, i < k → 0 ≤ bs i ∧ bs i < 256) (hnu : 0 ≤ nu ∧ nu < 256) (h0 : 0 < n) (hok : okH p n f = true) (hpar : (nu.tmod 2 == 0) = false) :
    ∃ hs, vx.call 9 [hV p n c, slV 1 k d, .int .u8 wh, .int .u8 nu] (retK fun r => r = .ret (.bool true)) (m2b (mvs n f) (u8s k bs)) hs := by
  have hH := okH_iff hok
  have h7 := hH.n7
  have hwhen : ConOK Try.prog 21 ((C21 p n c f).when (.ret (.bool true))) := con_when (C21_ok p n c f (by omega)) _
  have hr : (C21 p n c f).res ⟨⟨[I p], [(n, c)]⟩, [mvs n f]⟩ = .ret (.bool true) := by show ARes.ret (.bool (okH p n f)) = _; rw [hok]
  have q : Quick p n f (if IntKind.i64.wrap (p - 1) > 0 then IntKind.i64.wrap (p - 1) else 0) f := quick_pace hH
  have h2 := q.hok hH
  have hok2 := okH_of h2
  obtain ⟨z, rfl⟩ := Int.eq_ofNat_of_zero_le hnu.1
  have ew : (IntKind.i64.wrap (z : Int)).tmod (8 : Int) = ((z % 8 : Nat) : Int) := by rw [wrapI (by omega) (by omega)]; rfl
  have hlt : z % 8 < 8 := Nat.mod_lt z (by omega)
  generalize z % 8 = many at ew hlt
  obtain ⟨pa, hA⟩ := C24any (c := c) true hok
  obtain ⟨pb, hB⟩ := C24any (c := c) false hok
  have htop := okH_of (top_hok hH)
  obtain ⟨pj, hJ⟩ := C24any (c := n) true htop
  obtain ⟨pl, hL⟩ := C24any (c := n) false htop
  rw [top_few hH] at hJ hL
  have h23a := C23i_ok (c := c) true hok (many := many) (by omega) ew
  have h23b := C23i_ok (c := c) false hok (many := many) (by omega) ew
  have hlc := leave_lt (sure := true) (many := many) hH
  have hld := leave_lt (sure := false) (many := many) hH
  have hpop := leave_sure hH many
  have hfew := sure_few hH
  have h29a := C29_ok hlc
  have h29b := C29_ok hld
  have hg : ∀ i, i < n → (ownP k bs) i < 7 := fun i _ => ownP_lt hb i
  have h13 := C13q_ok p n c k d f bs h0 (by omega) hb
  have hpl := okP_nat hg
  have h15a := C15_ok p n c n f (fun i => ((ownP k bs) i : Int)) h0 hok hpl
  have h15b := C15_ok (if IntKind.i64.wrap (p - 1) > 0 then IntKind.i64.wrap (p - 1) else 0) n n n f (fun i => ((ownP k bs) i : Int)) h0 hok2 hpl
  have hlat : ∀ i, i < n → latS false (if IntKind.i64.wrap (p - 1) > 0 then IntKind.i64.wrap (p - 1) else 0) n f (fun i => ((ownP k bs) i : Int)) i ≤ latS false p n f (fun i => ((ownP k bs) i : Int)) i ∧ latS true (if IntKind.i64.wrap (p - 1) > 0 then IntKind.i64.wrap (p - 1) else 0) n f (fun i => ((ownP k bs) i : Int)) i ≤ latS true p n f (fun i => ((ownP k bs) i : Int)) i := fun i hi => ⟨lat_quick hH q false hi, lat_quick hH q true hi⟩
  have hcl := cl9a (p := p) (wh := wh) (nu := z) (n := n) (c := c) (k := k) (d := d) (a := fewH true p n f) (f := f) (bs := bs) (ms2 := mvs n f) (mvs_at n f)
  have hl := loop9a (p := p) (wh := wh) (nu := z) (n := n) (c := c) (k := k) (d := d) (a := fewH true p n f) (f := f) (bs := bs) (ms2 := mvs n f) (mvs_at n f) h0 h7
  have hclc := cl9c (p := p) (p2 := (if IntKind.i64.wrap (p - 1) > 0 then IntKind.i64.wrap (p - 1) else 0)) (n := n) (c := c) (L0 := latS false p n f (fun i => ((ownP k bs) i : Int))) (L1 := latS true p n f (fun i => ((ownP k bs) i : Int))) (S0 := latS false (if IntKind.i64.wrap (p - 1) > 0 then IntKind.i64.wrap (p - 1) else 0) n f (fun i => ((ownP k bs) i : Int))) (S1 := latS true (if IntKind.i64.wrap (p - 1) > 0 then IntKind.i64.wrap (p - 1) else 0) n f (fun i => ((ownP k bs) i : Int))) (mvs_at n f) (mvs_at n f) (natL_atom n (ownP k bs)) 0
  have hlc' := loop9c0 (p := p) (p2 := (if IntKind.i64.wrap (p - 1) > 0 then IntKind.i64.wrap (p - 1) else 0)) (n := n) (c := c) (mvs_at n f) (mvs_at n f) (natL_atom n (ownP k bs)) h7 hlat
  have hcld := cl9d (p := p) (p2 := (if IntKind.i64.wrap (p - 1) > 0 then IntKind.i64.wrap (p - 1) else 0)) (n := n) (c := c) (f := f) (f2 := f) (g := (ownP k bs)) 0
  have hld' := loop9d0 (c := c) hH q hg
  generalize (ownP k bs) = g at *
  generalize leaveH true p n f many = lc at *
  generalize leaveH false p n f many = ld at *
  generalize fewH true p n f = na at *
  generalize fewH false p n f = nb at *
  have tna : (some (.bool (decide ((na : Int) < (nb : Int)))) : Option Value) = some (.bool false) := by rw [decide_eq_false (by omega)]
  have tpop : (some (.bool (decide ((popN lc : Int) < (popN ld : Int)))) : Option Value) = some (.bool false) := by rw [decide_eq_false (by omega)]
  have tpos : (some (.bool (decide ((n : Int) > 0))) : Option Value) = some (.bool true) := by rw [decide_eq_true (by omega)]
  have tpar : (some (.bool ((z : Int).tmod 2 == 0)) : Option Value) = some (.bool false) := by rw [hpar]
  have no1 : ∀ m : Nat, ((m : Int) != (m : Int)) = true → False := fun m h => by simp at h
  have ones := ones_mvs2 n f
  have hfar : decide ((if ((0 : Nat) : Int) > (n : Int) then ((0 : Nat) : Int) else (n : Int)) > (40 : Int)) = false := decide_eq_false (by split <;> omega)
  have key : ∀ R : ARes → Prop, R (.ret (.bool true)) → ∃ hs, vx.call 9 [hV p n c, slV 1 k d, .int .u8 wh, .int .u8 (z : Int)] (retK R) (m2b (mvs n f) (u8s k bs)) hs := by
    intro R hR
    refine ⟨_, (f9o p wh z n c k d na nb lc ld 0 f f bs g pa pb pj pl R).mpr ?_⟩
    rw [all_mvs, Nat.zero_add n]
    refine ⟨fun hx => (by rw [hfar] at hx; cases hx), fun _ => ⟨hwhen, ⟨rfl, hr⟩, hA, rfl, hB, rfl, h23a, rfl, h23b, rfl, tna, h29a, rfl, h29b, rfl, tpop, ⟨⟨Nat.le_refl _, rfl⟩, trivial⟩, ⟨⟨⟨h0, by rw [mvs_len]; omega⟩, ones⟩, by omega, rfl, by omega, by omega⟩, hcl, hl, tpos, tpar, hJ, rfl, hL, rfl, fun h => (no1 _ h).elim, fun _ => ⟨fun h => (no1 _ h).elim, fun _ => ⟨h13, rfl, h15a, rfl, h15b, rfl, fun h => (no1 _ h).elim, fun _ => ⟨fun h => (no1 _ h).elim, fun _ => ⟨hclc, hlc', hcld, hld', C12_ok, rfl, hR⟩⟩⟩⟩⟩⟩
  exact key _ rfl
theorem law9oz (p wh nu : Int) (n c : Nat) (f : Nat → Mv) (hnu : 0 ≤ nu ∧ nu < 256) (h0 : 0 < n) (hok : okH p n f = true) (hpar : (nu.tmod 2 == 0) = false) :
    ∃ hs, vx.call 9 [hV p n c, nilS, .int .u8 wh, .int .u8 nu] (retK fun r => r = .ret (.bool true)) (m2n (mvs n f)) hs := by
  have hH := okH_iff hok
  have h7 := hH.n7
  have hwhen : ConOK Try.prog 21 ((C21 p n c f).when (.ret (.bool true))) := con_when (C21_ok p n c f (by omega)) _
  have hr : (C21 p n c f).res ⟨⟨[I p], [(n, c)]⟩, [mvs n f]⟩ = .ret (.bool true) := by show ARes.ret (.bool (okH p n f)) = _; rw [hok]
  have q : Quick p n f (if IntKind.i64.wrap (p - 1) > 0 then IntKind.i64.wrap (p - 1) else 0) f := quick_pace hH
  have h2 := q.hok hH
  have hok2 := okH_of h2
  obtain ⟨z, rfl⟩ := Int.eq_ofNat_of_zero_le hnu.1
  have ew : (IntKind.i64.wrap (z : Int)).tmod (8 : Int) = ((z % 8 : Nat) : Int) := by rw [wrapI (by omega) (by omega)]; rfl
  have hlt : z % 8 < 8 := Nat.mod_lt z (by omega)
  generalize z % 8 = many at ew hlt
  obtain ⟨pa, hA⟩ := C24any (c := c) true hok
  obtain ⟨pb, hB⟩ := C24any (c := c) false hok
  have htop := okH_of (top_hok hH)
  obtain ⟨pj, hJ⟩ := C24any (c := n) true htop
  obtain ⟨pl, hL⟩ := C24any (c := n) false htop
  rw [top_few hH] at hJ hL
  have h23a := C23i_ok (c := c) true hok (many := many) (by omega) ew
  have h23b := C23i_ok (c := c) false hok (many := many) (by omega) ew
  have hlc := leave_lt (sure := true) (many := many) hH
  have hld := leave_lt (sure := false) (many := many) hH
  have hpop := leave_sure hH many
  have hfew := sure_few hH
  have h29a := C29_ok hlc
  have h29b := C29_ok hld
  have hg : ∀ i, i < n → (ownP 0 fun _ => 0) i < 7 := fun i _ => ownP_lt (k := 0) (b := fun _ => 0) (fun i hi => absurd hi (by omega)) i
  have h13 := C13z_ok p n c f h0 (by omega)
  have hpl := okP_nat hg
  have h15a := C15_ok p n c n f (fun i => ((ownP 0 fun _ => 0) i : Int)) h0 hok hpl
  have h15b := C15_ok (if IntKind.i64.wrap (p - 1) > 0 then IntKind.i64.wrap (p - 1) else 0) n n n f (fun i => ((ownP 0 fun _ => 0) i : Int)) h0 hok2 hpl
  have hlat : ∀ i, i < n → latS false (if IntKind.i64.wrap (p - 1) > 0 then IntKind.i64.wrap (p - 1) else 0) n f (fun i => ((ownP 0 fun _ => 0) i : Int)) i ≤ latS false p n f (fun i => ((ownP 0 fun _ => 0) i : Int)) i ∧ latS true (if IntKind.i64.wrap (p - 1) > 0 then IntKind.i64.wrap (p - 1) else 0) n f (fun i => ((ownP 0 fun _ => 0) i : Int)) i ≤ latS true p n f (fun i => ((ownP 0 fun _ => 0) i : Int)) i := fun i hi => ⟨lat_quick hH q false hi, lat_quick hH q true hi⟩
  have hcl := cl9az (p := p) (wh := wh) (nu := z) (n := n) (c := c) (a := fewH true p n f) (f := f) (ms2 := mvs n f) (mvs_at n f)
  have hl := loop9az (p := p) (wh := wh) (nu := z) (n := n) (c := c) (a := fewH true p n f) (f := f) (ms2 := mvs n f) (mvs_at n f) h0 h7
  have hclc := cl9c (p := p) (p2 := (if IntKind.i64.wrap (p - 1) > 0 then IntKind.i64.wrap (p - 1) else 0)) (n := n) (c := c) (L0 := latS false p n f (fun i => ((ownP 0 fun _ => 0) i : Int))) (L1 := latS true p n f (fun i => ((ownP 0 fun _ => 0) i : Int))) (S0 := latS false (if IntKind.i64.wrap (p - 1) > 0 then IntKind.i64.wrap (p - 1) else 0) n f (fun i => ((ownP 0 fun _ => 0) i : Int))) (S1 := latS true (if IntKind.i64.wrap (p - 1) > 0 then IntKind.i64.wrap (p - 1) else 0) n f (fun i => ((ownP 0 fun _ => 0) i : Int))) (mvs_at n f) (mvs_at n f) (natL_atom n (ownP 0 fun _ => 0)) 0
  have hlc' := loop9c0 (p := p) (p2 := (if IntKind.i64.wrap (p - 1) > 0 then IntKind.i64.wrap (p - 1) else 0)) (n := n) (c := c) (mvs_at n f) (mvs_at n f) (natL_atom n (ownP 0 fun _ => 0)) h7 hlat
  have hcld := cl9d (p := p) (p2 := (if IntKind.i64.wrap (p - 1) > 0 then IntKind.i64.wrap (p - 1) else 0)) (n := n) (c := c) (f := f) (f2 := f) (g := (ownP 0 fun _ => 0)) 0
  have hld' := loop9d0 (c := c) hH q hg
  generalize (ownP 0 fun _ => 0) = g at *
  generalize leaveH true p n f many = lc at *
  generalize leaveH false p n f many = ld at *
  generalize fewH true p n f = na at *
  generalize fewH false p n f = nb at *
  have tna : (some (.bool (decide ((na : Int) < (nb : Int)))) : Option Value) = some (.bool false) := by rw [decide_eq_false (by omega)]
  have tpop : (some (.bool (decide ((popN lc : Int) < (popN ld : Int)))) : Option Value) = some (.bool false) := by rw [decide_eq_false (by omega)]
  have tpos : (some (.bool (decide ((n : Int) > 0))) : Option Value) = some (.bool true) := by rw [decide_eq_true (by omega)]
  have tpar : (some (.bool ((z : Int).tmod 2 == 0)) : Option Value) = some (.bool false) := by rw [hpar]
  have no1 : ∀ m : Nat, ((m : Int) != (m : Int)) = true → False := fun m h => by simp at h
  have ones := ones_mvs2 n f
  have hfar : decide ((if ((0 : Nat) : Int) > (n : Int) then ((0 : Nat) : Int) else (n : Int)) > (40 : Int)) = false := decide_eq_false (by split <;> omega)
  have key : ∀ R : ARes → Prop, R (.ret (.bool true)) → ∃ hs, vx.call 9 [hV p n c, nilS, .int .u8 wh, .int .u8 (z : Int)] (retK R) (m2n (mvs n f)) hs := by
    intro R hR
    refine ⟨_, (f9oz p wh z n c na nb lc ld 0 f f g pa pb pj pl R).mpr ?_⟩
    rw [all_mvs, Nat.zero_add n]
    refine ⟨fun hx => (by rw [hfar] at hx; cases hx), fun _ => ⟨hwhen, ⟨rfl, hr⟩, hA, rfl, hB, rfl, h23a, rfl, h23b, rfl, tna, h29a, rfl, h29b, rfl, tpop, ⟨⟨Nat.le_refl _, rfl⟩, trivial⟩, ⟨⟨⟨h0, by rw [mvs_len]; omega⟩, ones⟩, by omega, rfl, by omega, by omega⟩, hcl, hl, tpos, tpar, hJ, rfl, hL, rfl, fun h => (no1 _ h).elim, fun _ => ⟨fun h => (no1 _ h).elim, fun _ => ⟨h13, rfl, h15a, rfl, h15b, rfl, fun h => (no1 _ h).elim, fun _ => ⟨fun h => (no1 _ h).elim, fun _ => ⟨hclc, hlc', hcld, hld', C12_ok, rfl, hR⟩⟩⟩⟩⟩⟩
  exact key _ rfl
theorem law9e (p wh nu : Int) (n c k d : Nat) (f : Nat → Mv) (bs : Nat → Int) (hb : ∀ i, i < k → 0 ≤ bs i ∧ bs i < 256) (hnu : 0 ≤ nu ∧ nu < 256) (hwh : 0 ≤ wh ∧ wh < 256) (h0 : 0 < n) (hok : okH p n f = true) (hpar : (nu.tmod 2 == 0) = true) :
    ∃ hs, vx.call 9 [hV p n c, slV 1 k d, .int .u8 wh, .int .u8 nu] (retK fun r => r = .ret (.bool true)) (m2b (mvs n f) (u8s k bs)) hs := by
  have hH := okH_iff hok
  have h7 := hH.n7
  have hwhen : ConOK Try.prog 21 ((C21 p n c f).when (.ret (.bool true))) := con_when (C21_ok p n c f (by omega)) _
  have hr : (C21 p n c f).res ⟨⟨[I p], [(n, c)]⟩, [mvs n f]⟩ = .ret (.bool true) := by show ARes.ret (.bool (okH p n f)) = _; rw [hok]
  obtain ⟨zw, rfl⟩ := Int.eq_ofNat_of_zero_le hwh.1
  have ei : (IntKind.i64.wrap (zw : Int)).tmod (n : Int) = ((zw % n : Nat) : Int) := by rw [wrapI (by omega) (by omega)]; rfl
  have hi2 : zw % n < n := Nat.mod_lt zw h0
  generalize zw % n = i2 at ei hi2
  have q : Quick p n f p (lessF f i2) := quick_move hH i2
  have h2 := q.hok hH
  have hok2 := okH_of h2
  obtain ⟨z, rfl⟩ := Int.eq_ofNat_of_zero_le hnu.1
  have ew : (IntKind.i64.wrap (z : Int)).tmod (8 : Int) = ((z % 8 : Nat) : Int) := by rw [wrapI (by omega) (by omega)]; rfl
  have hlt : z % 8 < 8 := Nat.mod_lt z (by omega)
  generalize z % 8 = many at ew hlt
  obtain ⟨pa, hA⟩ := C24any (c := c) true hok
  obtain ⟨pb, hB⟩ := C24any (c := c) false hok
  have htop := okH_of (top_hok hH)
  obtain ⟨pj, hJ⟩ := C24any (c := n) true htop
  obtain ⟨pl, hL⟩ := C24any (c := n) false htop
  rw [top_few hH] at hJ hL
  have h23a := C23i_ok (c := c) true hok (many := many) (by omega) ew
  have h23b := C23i_ok (c := c) false hok (many := many) (by omega) ew
  have hlc := leave_lt (sure := true) (many := many) hH
  have hld := leave_lt (sure := false) (many := many) hH
  have hpop := leave_sure hH many
  have hfew := sure_few hH
  have h29a := C29_ok hlc
  have h29b := C29_ok hld
  have hg : ∀ i, i < n → (ownP k bs) i < 7 := fun i _ => ownP_lt hb i
  have h13 := C13q_ok p n c k d f bs h0 (by omega) hb
  have hpl := okP_nat hg
  have h15a := C15_ok p n c n f (fun i => ((ownP k bs) i : Int)) h0 hok hpl
  have h15b := C15_ok p n n n (lessF f i2) (fun i => ((ownP k bs) i : Int)) h0 hok2 hpl
  have hlat : ∀ i, i < n → latS false p n (lessF f i2) (fun i => ((ownP k bs) i : Int)) i ≤ latS false p n f (fun i => ((ownP k bs) i : Int)) i ∧ latS true p n (lessF f i2) (fun i => ((ownP k bs) i : Int)) i ≤ latS true p n f (fun i => ((ownP k bs) i : Int)) i := fun i hi => ⟨lat_quick hH q false hi, lat_quick hH q true hi⟩
  have hcl := cl9a (p := p) (wh := zw) (nu := z) (n := n) (c := c) (k := k) (d := d) (a := fewH true p n f) (f := f) (bs := bs) (ms2 := mvs n f) (mvs_at n f)
  have hl := loop9a (p := p) (wh := zw) (nu := z) (n := n) (c := c) (k := k) (d := d) (a := fewH true p n f) (f := f) (bs := bs) (ms2 := mvs n f) (mvs_at n f) h0 h7
  have hclc := cl9c (p := p) (p2 := p) (n := n) (c := c) (L0 := latS false p n f (fun i => ((ownP k bs) i : Int))) (L1 := latS true p n f (fun i => ((ownP k bs) i : Int))) (S0 := latS false p n (lessF f i2) (fun i => ((ownP k bs) i : Int))) (S1 := latS true p n (lessF f i2) (fun i => ((ownP k bs) i : Int))) (mvs_at n f) (mvs_at n (lessF f i2)) (natL_atom n (ownP k bs)) 0
  have hlc' := loop9c1 (p := p) (p2 := p) (n := n) (c := c) (mvs_at n f) (mvs_at n (lessF f i2)) (natL_atom n (ownP k bs)) h7 hlat
  have hcld := cl9d (p := p) (p2 := p) (n := n) (c := c) (f := f) (f2 := (lessF f i2)) (g := (ownP k bs)) 0
  have hld' := loop9d1 (c := c) hH q hg
  generalize (ownP k bs) = g at *
  generalize leaveH true p n f many = lc at *
  generalize leaveH false p n f many = ld at *
  generalize fewH true p n f = na at *
  generalize fewH false p n f = nb at *
  have tna : (some (.bool (decide ((na : Int) < (nb : Int)))) : Option Value) = some (.bool false) := by rw [decide_eq_false (by omega)]
  have tpop : (some (.bool (decide ((popN lc : Int) < (popN ld : Int)))) : Option Value) = some (.bool false) := by rw [decide_eq_false (by omega)]
  have tpos : (some (.bool (decide ((n : Int) > 0))) : Option Value) = some (.bool true) := by rw [decide_eq_true (by omega)]
  have tpar : (some (.bool ((z : Int).tmod 2 == 0)) : Option Value) = some (.bool true) := by rw [hpar]
  have no1 : ∀ m : Nat, ((m : Int) != (m : Int)) = true → False := fun m h => by simp at h
  have ones := ones_mvs2 n f
  have hfar : decide ((if ((0 : Nat) : Int) > (n : Int) then ((0 : Nat) : Int) else (n : Int)) > (40 : Int)) = false := decide_eq_false (by split <;> omega)
  obtain ⟨g1, g2⟩ := mvs_at2 f hi2
  have g3 := mvs_less f hi2
  have hne : ((n : Int) ≠ 0) := by omega
  have hi2' : 0 ≤ (i2 : Int) ∧ (i2 : Int) < n := ⟨by omega, by omega⟩
  have hlen2 : 0 + i2 * 4 + 2 + 2 ≤ (mvs n f).length := by rw [mvs_len]; have := flatC_bound (k := 4) hi2; omega
  have key : ∀ R : ARes → Prop, R (.ret (.bool true)) → ∃ hs, vx.call 9 [hV p n c, slV 1 k d, .int .u8 (zw : Int), .int .u8 (z : Int)] (retK R) (m2b (mvs n f) (u8s k bs)) hs := by
    intro R hR
    refine ⟨_, (f9e p zw z n c k d na nb lc ld i2 f (lessF f i2) bs g pa pb pj pl R).mpr ?_⟩
    rw [all_mvs, Nat.zero_add n]
    refine ⟨fun hx => (by rw [hfar] at hx; cases hx), fun _ => ⟨hwhen, ⟨rfl, hr⟩, hA, rfl, hB, rfl, h23a, rfl, h23b, rfl, tna, h29a, rfl, h29b, rfl, tpop, ⟨⟨Nat.le_refl _, rfl⟩, trivial⟩, ⟨⟨⟨h0, by rw [mvs_len]; omega⟩, ones⟩, by omega, rfl, by omega, by omega⟩, hcl, hl, tpos, tpar, ⟨⟨hne, rfl⟩, by rw [ei]⟩, ⟨hi2', rfl⟩, g1, g2, ⟨hlen2, g3⟩, hJ, rfl, hL, rfl, fun h => (no1 _ h).elim, fun _ => ⟨fun h => (no1 _ h).elim, fun _ => ⟨h13, rfl, h15a, rfl, h15b, rfl, fun h => (no1 _ h).elim, fun _ => ⟨fun h => (no1 _ h).elim, fun _ => ⟨hclc, hlc', hcld, hld', C12_ok, rfl, hR⟩⟩⟩⟩⟩⟩
  exact key _ rfl
theorem law9ez (p wh nu : Int) (n c : Nat) (f : Nat → Mv) (hnu : 0 ≤ nu ∧ nu < 256) (hwh : 0 ≤ wh ∧ wh < 256) (h0 : 0 < n) (hok : okH p n f = true) (hpar : (nu.tmod 2 == 0) = true) :
    ∃ hs, vx.call 9 [hV p n c, nilS, .int .u8 wh, .int .u8 nu] (retK fun r => r = .ret (.bool true)) (m2n (mvs n f)) hs := by
  have hH := okH_iff hok
  have h7 := hH.n7
  have hwhen : ConOK Try.prog 21 ((C21 p n c f).when (.ret (.bool true))) := con_when (C21_ok p n c f (by omega)) _
  have hr : (C21 p n c f).res ⟨⟨[I p], [(n, c)]⟩, [mvs n f]⟩ = .ret (.bool true) := by show ARes.ret (.bool (okH p n f)) = _; rw [hok]
  obtain ⟨zw, rfl⟩ := Int.eq_ofNat_of_zero_le hwh.1
  have ei : (IntKind.i64.wrap (zw : Int)).tmod (n : Int) = ((zw % n : Nat) : Int) := by rw [wrapI (by omega) (by omega)]; rfl
  have hi2 : zw % n < n := Nat.mod_lt zw h0
  generalize zw % n = i2 at ei hi2
  have q : Quick p n f p (lessF f i2) := quick_move hH i2
  have h2 := q.hok hH
  have hok2 := okH_of h2
  obtain ⟨z, rfl⟩ := Int.eq_ofNat_of_zero_le hnu.1
  have ew : (IntKind.i64.wrap (z : Int)).tmod (8 : Int) = ((z % 8 : Nat) : Int) := by rw [wrapI (by omega) (by omega)]; rfl
  have hlt : z % 8 < 8 := Nat.mod_lt z (by omega)
  generalize z % 8 = many at ew hlt
  obtain ⟨pa, hA⟩ := C24any (c := c) true hok
  obtain ⟨pb, hB⟩ := C24any (c := c) false hok
  have htop := okH_of (top_hok hH)
  obtain ⟨pj, hJ⟩ := C24any (c := n) true htop
  obtain ⟨pl, hL⟩ := C24any (c := n) false htop
  rw [top_few hH] at hJ hL
  have h23a := C23i_ok (c := c) true hok (many := many) (by omega) ew
  have h23b := C23i_ok (c := c) false hok (many := many) (by omega) ew
  have hlc := leave_lt (sure := true) (many := many) hH
  have hld := leave_lt (sure := false) (many := many) hH
  have hpop := leave_sure hH many
  have hfew := sure_few hH
  have h29a := C29_ok hlc
  have h29b := C29_ok hld
  have hg : ∀ i, i < n → (ownP 0 fun _ => 0) i < 7 := fun i _ => ownP_lt (k := 0) (b := fun _ => 0) (fun i hi => absurd hi (by omega)) i
  have h13 := C13z_ok p n c f h0 (by omega)
  have hpl := okP_nat hg
  have h15a := C15_ok p n c n f (fun i => ((ownP 0 fun _ => 0) i : Int)) h0 hok hpl
  have h15b := C15_ok p n n n (lessF f i2) (fun i => ((ownP 0 fun _ => 0) i : Int)) h0 hok2 hpl
  have hlat : ∀ i, i < n → latS false p n (lessF f i2) (fun i => ((ownP 0 fun _ => 0) i : Int)) i ≤ latS false p n f (fun i => ((ownP 0 fun _ => 0) i : Int)) i ∧ latS true p n (lessF f i2) (fun i => ((ownP 0 fun _ => 0) i : Int)) i ≤ latS true p n f (fun i => ((ownP 0 fun _ => 0) i : Int)) i := fun i hi => ⟨lat_quick hH q false hi, lat_quick hH q true hi⟩
  have hcl := cl9az (p := p) (wh := zw) (nu := z) (n := n) (c := c) (a := fewH true p n f) (f := f) (ms2 := mvs n f) (mvs_at n f)
  have hl := loop9az (p := p) (wh := zw) (nu := z) (n := n) (c := c) (a := fewH true p n f) (f := f) (ms2 := mvs n f) (mvs_at n f) h0 h7
  have hclc := cl9c (p := p) (p2 := p) (n := n) (c := c) (L0 := latS false p n f (fun i => ((ownP 0 fun _ => 0) i : Int))) (L1 := latS true p n f (fun i => ((ownP 0 fun _ => 0) i : Int))) (S0 := latS false p n (lessF f i2) (fun i => ((ownP 0 fun _ => 0) i : Int))) (S1 := latS true p n (lessF f i2) (fun i => ((ownP 0 fun _ => 0) i : Int))) (mvs_at n f) (mvs_at n (lessF f i2)) (natL_atom n (ownP 0 fun _ => 0)) 0
  have hlc' := loop9c1 (p := p) (p2 := p) (n := n) (c := c) (mvs_at n f) (mvs_at n (lessF f i2)) (natL_atom n (ownP 0 fun _ => 0)) h7 hlat
  have hcld := cl9d (p := p) (p2 := p) (n := n) (c := c) (f := f) (f2 := (lessF f i2)) (g := (ownP 0 fun _ => 0)) 0
  have hld' := loop9d1 (c := c) hH q hg
  generalize (ownP 0 fun _ => 0) = g at *
  generalize leaveH true p n f many = lc at *
  generalize leaveH false p n f many = ld at *
  generalize fewH true p n f = na at *
  generalize fewH false p n f = nb at *
  have tna : (some (.bool (decide ((na : Int) < (nb : Int)))) : Option Value) = some (.bool false) := by rw [decide_eq_false (by omega)]
  have tpop : (some (.bool (decide ((popN lc : Int) < (popN ld : Int)))) : Option Value) = some (.bool false) := by rw [decide_eq_false (by omega)]
  have tpos : (some (.bool (decide ((n : Int) > 0))) : Option Value) = some (.bool true) := by rw [decide_eq_true (by omega)]
  have tpar : (some (.bool ((z : Int).tmod 2 == 0)) : Option Value) = some (.bool true) := by rw [hpar]
  have no1 : ∀ m : Nat, ((m : Int) != (m : Int)) = true → False := fun m h => by simp at h
  have ones := ones_mvs2 n f
  have hfar : decide ((if ((0 : Nat) : Int) > (n : Int) then ((0 : Nat) : Int) else (n : Int)) > (40 : Int)) = false := decide_eq_false (by split <;> omega)
  obtain ⟨g1, g2⟩ := mvs_at2 f hi2
  have g3 := mvs_less f hi2
  have hne : ((n : Int) ≠ 0) := by omega
  have hi2' : 0 ≤ (i2 : Int) ∧ (i2 : Int) < n := ⟨by omega, by omega⟩
  have hlen2 : 0 + i2 * 4 + 2 + 2 ≤ (mvs n f).length := by rw [mvs_len]; have := flatC_bound (k := 4) hi2; omega
  have key : ∀ R : ARes → Prop, R (.ret (.bool true)) → ∃ hs, vx.call 9 [hV p n c, nilS, .int .u8 (zw : Int), .int .u8 (z : Int)] (retK R) (m2n (mvs n f)) hs := by
    intro R hR
    refine ⟨_, (f9ez p zw z n c na nb lc ld i2 f (lessF f i2) g pa pb pj pl R).mpr ?_⟩
    rw [all_mvs, Nat.zero_add n]
    refine ⟨fun hx => (by rw [hfar] at hx; cases hx), fun _ => ⟨hwhen, ⟨rfl, hr⟩, hA, rfl, hB, rfl, h23a, rfl, h23b, rfl, tna, h29a, rfl, h29b, rfl, tpop, ⟨⟨Nat.le_refl _, rfl⟩, trivial⟩, ⟨⟨⟨h0, by rw [mvs_len]; omega⟩, ones⟩, by omega, rfl, by omega, by omega⟩, hcl, hl, tpos, tpar, ⟨⟨hne, rfl⟩, by rw [ei]⟩, ⟨hi2', rfl⟩, g1, g2, ⟨hlen2, g3⟩, hJ, rfl, hL, rfl, fun h => (no1 _ h).elim, fun _ => ⟨fun h => (no1 _ h).elim, fun _ => ⟨h13, rfl, h15a, rfl, h15b, rfl, fun h => (no1 _ h).elim, fun _ => ⟨fun h => (no1 _ h).elim, fun _ => ⟨hclc, hlc', hcld, hld', C12_ok, rfl, hR⟩⟩⟩⟩⟩⟩
  exact key _ rfl
end Go.Ab
set_option maxRecDepth 100000
namespace Go.Ab
open Go Go.RowKit Go.Proofs
noncomputable def hC (p : Int) (c : Nat) : Value := .agg ⟨[I p, .slice (some ⟨0, 0, none⟩) 0 c]⟩
noncomputable def m1v (b : XB) : Mem := ⟨fillX [b] 0 .nil, 1⟩
noncomputable def m2v (a b : XB) : Mem := ⟨fillX [a, b] 0 .nil, 2⟩
noncomputable def C23w (sure : Bool) (p mz : Int) (c : Nat) : Con where
  A := .agg (.hole (.slice 0 0 .nil)) (.hole (.hole .nil))
  bs := [.dead]
  pre x := x = ⟨⟨[I p, I mz, .bool sure], [(0, c)]⟩, []⟩
  res _ := .ret (.tuple ⟨[I 0, I 0]⟩)
noncomputable def C24w (sure : Bool) (p : Int) (c : Nat) : ConN where
  A := .agg (.hole (.slice 0 0 .nil)) (.hole .nil)
  bs := [.dead]
  pre x := x = ⟨⟨[I p, .bool sure], [(0, c)]⟩, []⟩
  news _ := [([], 3)]
  one := false
  res _ := [.cv (I 0), .sl 0 0, .cv (I 0)]
noncomputable def C15n (p : Int) : Con where
  A := .agg (.hole (.val nilS .nil)) (.val nilS .nil)
  bs := []
  pre x := x = ⟨⟨[I p], []⟩, []⟩
  res _ := .ret (.tuple ⟨[nilS, I 0]⟩)
noncomputable def C15w (p : Int) (c : Nat) : Con where
  A := .agg (.hole (.slice 0 0 .nil)) (.val nilS .nil)
  bs := [.dead]
  pre x := x = ⟨⟨[I p], [(0, c)]⟩, []⟩
  res _ := .ret (.tuple ⟨[nilS, I 0]⟩)
noncomputable def C27n (sure : Bool) (p : Int) : Con where
  A := .agg (.hole (.val nilS .nil)) (.val nilS (.hole .nil))
  bs := []
  pre x := x = ⟨⟨[I p, .bool sure], []⟩, []⟩
  res _ := .ret (.bool true)
noncomputable def C27w (sure : Bool) (p : Int) (c : Nat) : Con where
  A := .agg (.hole (.slice 0 0 .nil)) (.val nilS (.hole .nil))
  bs := [.dead]
  pre x := x = ⟨⟨[I p, .bool sure], [(0, c)]⟩, []⟩
  res _ := .ret (.bool true)
end Go.Ab
