/- the law HorseFewest: its runs, where there are moves. -/
import Derived.Test.YtamfplmmfbbabaaUX
set_option maxRecDepth 100000
namespace Go.Ab
open Go Go.RowKit Go.Proofs
theorem f5zwt (p : Int) (n c many found next kk : Nat) (f : Nat → Mv) (P g : Nat → Nat) (R : ARes → Prop) : (vx.call 5 [hV p n c, .bool true, nilS] (retK R) (m2n (mvs n f)) ([(17, .split ((7, .con C12) :: []) ((4, .con ((C21 p n c f).when (ARes.ret (Value.bool true)))) :: (6, .conN (C24c true p n c (mvs n f) many (natL n P))) :: (9, .con (C25 true p n c f found)) :: (14, .con (C26 p n c n n f P)) :: (0, .val (.bool false)) :: (5, .con (C27 true p n c n n f P true)) :: (4, .con (C28 n n P many)) :: (1, .val (.bool false)) :: (10, .val (I ((↑found : Int) / (2 : Int) ^ n))) :: [(0, .split ([]) ((3, .con (C29 found)) :: [(1, .split ([]) ((6, .loopW T5az (AExit.exit (0 : Nat)) T5az fun x => st5az true p n c f many found P next n) :: (8, .loopW T5bz (AExit.exit (2 : Nat)) T5bz fun x => st5bz true p n c f many found P (2 : Int) n) :: (2, .conN (C13z p n c f g)) :: (4, .con (C27 true p n c n n f g false)) :: (2, .con C12) :: []))]))]))])) =
((((decide ((if (↑(0 : Nat) : Int) > (↑n : Int) then (↑(0 : Nat) : Int) else (↑n : Int)) > (40 : Int))) = true → ((ConOK Try.prog 12 (C12)) ∧ (Con.pre (C12) ⟨⟨[], []⟩, []⟩) ∧
R (.ret (.bool true)))) ∧
((decide ((if (↑(0 : Nat) : Int) > (↑n : Int) then (↑(0 : Nat) : Int) else (↑n : Int)) > (40 : Int))) = false → ((ConOK Try.prog 21 ((C21 p n c f).when (ARes.ret (Value.bool true)))) ∧ (Con.pre ((C21 p n c f).when (ARes.ret (Value.bool true))) ⟨⟨[(I p)], [⟨n, c⟩]⟩, [(mvs n f)]⟩) ∧
((ConNOK Try.prog 24 (C24c true p n c (mvs n f) many (natL n P))) ∧ (ConN.pre (C24c true p n c (mvs n f) many (natL n P)) ⟨⟨[(I p), (.bool true)], [⟨n, c⟩]⟩, [(mvs n f)]⟩) ∧
((ConOK Try.prog 25 (C25 true p n c f found)) ∧ (Con.pre (C25 true p n c f found) ⟨⟨[(I p), (.bool true)], [⟨n, c⟩]⟩, [(mvs n f)]⟩) ∧
((ConOK Try.prog 26 (C26 p n c n n f P)) ∧ (Con.pre (C26 p n c n n f P) ⟨⟨[(I p)], [⟨n, c⟩, ⟨n, n⟩]⟩, [(mvs n f), (natL n P)]⟩) ∧
((((some (.bool (!decide ((↑n : Int) = (↑n : Int)))) : Option Value) = some (.bool false))) ∧
((ConOK Try.prog 27 (C27 true p n c n n f P true)) ∧ (Con.pre (C27 true p n c n n f P true) ⟨⟨[(I p), (.bool true)], [⟨n, c⟩, ⟨n, n⟩]⟩, [(mvs n f), (natL n P)]⟩) ∧
((ConOK Try.prog 28 (C28 n n P many)) ∧ (Con.pre (C28 n n P many) ⟨⟨[], [⟨n, n⟩]⟩, [(natL n P)]⟩) ∧
((((some (.bool ((↑many : Int) != (↑many : Int))) : Option Value) = some (.bool false))) ∧
((((((0 : Int) ≤ (↑n : Int))) ∧ (((↑n : Int) ≤ (↑(64 : Nat) : Int)))) ∧ (((I ((↑found : Int) / (2 : Int) ^ n)) : Value) = (I ((↑found : Int) / (2 : Int) ^ n)))) ∧
((((↑found : Int) / (2 : Int) ^ n != (0 : Int)) = true → R (.ret (.bool false))) ∧
(((↑found : Int) / (2 : Int) ^ n != (0 : Int)) = false → ((ConOK Try.prog 29 (C29 found)) ∧ (Con.pre (C29 found) ⟨⟨[(I found)], []⟩, []⟩) ∧
((((↑(popN found) : Int) != (↑many : Int)) = true → R (.ret (.bool false))) ∧
(((↑(popN found) : Int) != (↑many : Int)) = false → ((ClW ⟨⟨[(.bool true), (I many), (I found), (I 0), (I n), (I 0), (I p)], [⟨n, n⟩, ⟨n, n⟩, ⟨n, c⟩]⟩, [(mvs n f), (natL n P)], []⟩) ∧ (LoopOW Try.prog .none p5a (T5az) ⟨⟨[(.bool true), (I many), (I found), (I 0), (I n), (I 0), (I p)], [⟨n, n⟩, ⟨n, n⟩, ⟨n, c⟩]⟩, [(mvs n f), (natL n P)], []⟩ (.exit ((0 : Nat))) (T5az) ⟨⟨[(.bool true), (I many), (I found), (I next), (I n), (I n), (I p)], [⟨n, n⟩, ⟨n, n⟩, ⟨n, c⟩]⟩, [(mvs n f), (natL n P)], []⟩) ∧
((ClW ⟨⟨[(.bool true), (I many), (I found), (I 2), (I n), (I 0), (I p)], [⟨n, n⟩, ⟨n, c⟩]⟩, [(mvs n f), (natL n P)], []⟩) ∧ (LoopOW Try.prog .none p5b (T5bz) ⟨⟨[(.bool true), (I many), (I found), (I 2), (I n), (I 0), (I p)], [⟨n, n⟩, ⟨n, c⟩]⟩, [(mvs n f), (natL n P)], []⟩ (.exit ((2 : Nat))) (T5bz) ⟨⟨[(.bool true), (I many), (I found), (I 2), (I n), (I n), (I p)], [⟨n, n⟩, ⟨n, c⟩]⟩, [(mvs n f), (natL n P)], []⟩) ∧
((ConNOK Try.prog 13 (C13z p n c f g)) ∧ (ConN.pre (C13z p n c f g) ⟨⟨[(I p)], [⟨n, c⟩]⟩, [(mvs n f)]⟩) ∧
((ConOK Try.prog 27 (C27 true p n c n n f g false)) ∧ (Con.pre (C27 true p n c n n f g false) ⟨⟨[(I p), (.bool true)], [⟨n, c⟩, ⟨n, n⟩]⟩, [(mvs n f), (natL n g)]⟩) ∧
((ConOK Try.prog 12 (C12)) ∧ (Con.pre (C12) ⟨⟨[], []⟩, []⟩) ∧
R (.ret (.bool true)))))))))))))))))))))))) := by kernel_rfl
theorem f5zet (p : Int) (n c many found next kk : Nat) (f : Nat → Mv) (P g : Nat → Nat) (R : ARes → Prop) : (vx.call 5 [hV p n c, .bool true, nilS] (retK R) (m2n (mvs n f)) ([(17, .split ((7, .con C12) :: []) ((4, .con ((C21 p n c f).when (ARes.ret (Value.bool true)))) :: (6, .conN (C24c true p n c (mvs n f) many (natL n P))) :: (9, .con (C25 true p n c f found)) :: (14, .con (C26 p n c n n f P)) :: (0, .val (.bool false)) :: (5, .con (C27 true p n c n n f P true)) :: (4, .con (C28 n n P many)) :: (1, .val (.bool false)) :: (10, .val (I ((↑found : Int) / (2 : Int) ^ n))) :: [(0, .split ([]) ((3, .con (C29 found)) :: [(1, .split ([]) ((6, .loopW T5az (AExit.exit (0 : Nat)) T5az fun x => st5az true p n c f many found P next n) :: (8, .loopW T5bz (AExit.exit (2 : Nat)) T5bz fun x => st5bz true p n c f many found P (2 : Int) n) :: (2, .conN (C13z p n c f g)) :: (4, .con (C27 true p n c n n f g true)) :: (3, .con (C28 n n g kk)) :: [(3, .split ([]) ((4, .loopW T5d (AExit.exit (6 : Nat)) T5d fun x => st5d n many kk P g n) :: (0, .con C12) :: []))]))]))]))])) =
((((decide ((if (↑(0 : Nat) : Int) > (↑n : Int) then (↑(0 : Nat) : Int) else (↑n : Int)) > (40 : Int))) = true → ((ConOK Try.prog 12 (C12)) ∧ (Con.pre (C12) ⟨⟨[], []⟩, []⟩) ∧
R (.ret (.bool true)))) ∧
((decide ((if (↑(0 : Nat) : Int) > (↑n : Int) then (↑(0 : Nat) : Int) else (↑n : Int)) > (40 : Int))) = false → ((ConOK Try.prog 21 ((C21 p n c f).when (ARes.ret (Value.bool true)))) ∧ (Con.pre ((C21 p n c f).when (ARes.ret (Value.bool true))) ⟨⟨[(I p)], [⟨n, c⟩]⟩, [(mvs n f)]⟩) ∧
((ConNOK Try.prog 24 (C24c true p n c (mvs n f) many (natL n P))) ∧ (ConN.pre (C24c true p n c (mvs n f) many (natL n P)) ⟨⟨[(I p), (.bool true)], [⟨n, c⟩]⟩, [(mvs n f)]⟩) ∧
((ConOK Try.prog 25 (C25 true p n c f found)) ∧ (Con.pre (C25 true p n c f found) ⟨⟨[(I p), (.bool true)], [⟨n, c⟩]⟩, [(mvs n f)]⟩) ∧
((ConOK Try.prog 26 (C26 p n c n n f P)) ∧ (Con.pre (C26 p n c n n f P) ⟨⟨[(I p)], [⟨n, c⟩, ⟨n, n⟩]⟩, [(mvs n f), (natL n P)]⟩) ∧
((((some (.bool (!decide ((↑n : Int) = (↑n : Int)))) : Option Value) = some (.bool false))) ∧
((ConOK Try.prog 27 (C27 true p n c n n f P true)) ∧ (Con.pre (C27 true p n c n n f P true) ⟨⟨[(I p), (.bool true)], [⟨n, c⟩, ⟨n, n⟩]⟩, [(mvs n f), (natL n P)]⟩) ∧
((ConOK Try.prog 28 (C28 n n P many)) ∧ (Con.pre (C28 n n P many) ⟨⟨[], [⟨n, n⟩]⟩, [(natL n P)]⟩) ∧
((((some (.bool ((↑many : Int) != (↑many : Int))) : Option Value) = some (.bool false))) ∧
((((((0 : Int) ≤ (↑n : Int))) ∧ (((↑n : Int) ≤ (↑(64 : Nat) : Int)))) ∧ (((I ((↑found : Int) / (2 : Int) ^ n)) : Value) = (I ((↑found : Int) / (2 : Int) ^ n)))) ∧
((((↑found : Int) / (2 : Int) ^ n != (0 : Int)) = true → R (.ret (.bool false))) ∧
(((↑found : Int) / (2 : Int) ^ n != (0 : Int)) = false → ((ConOK Try.prog 29 (C29 found)) ∧ (Con.pre (C29 found) ⟨⟨[(I found)], []⟩, []⟩) ∧
((((↑(popN found) : Int) != (↑many : Int)) = true → R (.ret (.bool false))) ∧
(((↑(popN found) : Int) != (↑many : Int)) = false → ((ClW ⟨⟨[(.bool true), (I many), (I found), (I 0), (I n), (I 0), (I p)], [⟨n, n⟩, ⟨n, n⟩, ⟨n, c⟩]⟩, [(mvs n f), (natL n P)], []⟩) ∧ (LoopOW Try.prog .none p5a (T5az) ⟨⟨[(.bool true), (I many), (I found), (I 0), (I n), (I 0), (I p)], [⟨n, n⟩, ⟨n, n⟩, ⟨n, c⟩]⟩, [(mvs n f), (natL n P)], []⟩ (.exit ((0 : Nat))) (T5az) ⟨⟨[(.bool true), (I many), (I found), (I next), (I n), (I n), (I p)], [⟨n, n⟩, ⟨n, n⟩, ⟨n, c⟩]⟩, [(mvs n f), (natL n P)], []⟩) ∧
((ClW ⟨⟨[(.bool true), (I many), (I found), (I 2), (I n), (I 0), (I p)], [⟨n, n⟩, ⟨n, c⟩]⟩, [(mvs n f), (natL n P)], []⟩) ∧ (LoopOW Try.prog .none p5b (T5bz) ⟨⟨[(.bool true), (I many), (I found), (I 2), (I n), (I 0), (I p)], [⟨n, n⟩, ⟨n, c⟩]⟩, [(mvs n f), (natL n P)], []⟩ (.exit ((2 : Nat))) (T5bz) ⟨⟨[(.bool true), (I many), (I found), (I 2), (I n), (I n), (I p)], [⟨n, n⟩, ⟨n, c⟩]⟩, [(mvs n f), (natL n P)], []⟩) ∧
((ConNOK Try.prog 13 (C13z p n c f g)) ∧ (ConN.pre (C13z p n c f g) ⟨⟨[(I p)], [⟨n, c⟩]⟩, [(mvs n f)]⟩) ∧
((ConOK Try.prog 27 (C27 true p n c n n f g true)) ∧ (Con.pre (C27 true p n c n n f g true) ⟨⟨[(I p), (.bool true)], [⟨n, c⟩, ⟨n, n⟩]⟩, [(mvs n f), (natL n g)]⟩) ∧
((ConOK Try.prog 28 (C28 n n g kk)) ∧ (Con.pre (C28 n n g kk) ⟨⟨[], [⟨n, n⟩]⟩, [(natL n g)]⟩) ∧
(((decide ((↑kk : Int) < (↑many : Int))) = true → R (.ret (.bool false))) ∧
((decide ((↑kk : Int) < (↑many : Int))) = false → ((ClW ⟨⟨[(I many), (I kk), (I n), (I 0)], [⟨n, n⟩, ⟨n, n⟩]⟩, [(natL n P), (natL n g)], []⟩) ∧ (LoopOW Try.prog .none p5d (T5d) ⟨⟨[(I many), (I kk), (I n), (I 0)], [⟨n, n⟩, ⟨n, n⟩]⟩, [(natL n P), (natL n g)], []⟩ (.exit ((6 : Nat))) (T5d) ⟨⟨[(I many), (I kk), (I n), (I n)], [⟨n, n⟩, ⟨n, n⟩]⟩, [(natL n P), (natL n g)], []⟩) ∧
((ConOK Try.prog 12 (C12)) ∧ (Con.pre (C12) ⟨⟨[], []⟩, []⟩) ∧
R (.ret (.bool true)))))))))))))))))))))))))))) := by kernel_rfl
theorem f5zrt (p : Int) (n c many found next kk : Nat) (f : Nat → Mv) (P g : Nat → Nat) (R : ARes → Prop) : (vx.call 5 [hV p n c, .bool true, nilS] (retK R) (m2n (mvs n f)) ([(17, .split ((7, .con C12) :: []) ((4, .con ((C21 p n c f).when (ARes.ret (Value.bool true)))) :: (6, .conN (C24c true p n c (mvs n f) many (natL n P))) :: (9, .con (C25 true p n c f found)) :: (14, .con (C26 p n c n n f P)) :: (0, .val (.bool false)) :: (5, .con (C27 true p n c n n f P true)) :: (4, .con (C28 n n P many)) :: (1, .val (.bool false)) :: (10, .val (I ((↑found : Int) / (2 : Int) ^ n))) :: [(0, .split ([]) ((3, .con (C29 found)) :: [(1, .split ([]) ((6, .loopW T5az (AExit.exit (0 : Nat)) T5az fun x => st5az true p n c f many found P next n) :: (8, .loopW T5bz (AExit.exit (2 : Nat)) T5bz fun x => st5bz true p n c f many found P (2 : Int) n) :: (2, .conN (C13z p n c f g)) :: (4, .con (C27 true p n c n n f g true)) :: (3, .con (C28 n n g kk)) :: [(3, .split ([]) ((4, .loopW T5d AExit.ret R5d fun x => rt5d true) :: []))]))]))]))])) =
((((decide ((if (↑(0 : Nat) : Int) > (↑n : Int) then (↑(0 : Nat) : Int) else (↑n : Int)) > (40 : Int))) = true → ((ConOK Try.prog 12 (C12)) ∧ (Con.pre (C12) ⟨⟨[], []⟩, []⟩) ∧
R (.ret (.bool true)))) ∧
((decide ((if (↑(0 : Nat) : Int) > (↑n : Int) then (↑(0 : Nat) : Int) else (↑n : Int)) > (40 : Int))) = false → ((ConOK Try.prog 21 ((C21 p n c f).when (ARes.ret (Value.bool true)))) ∧ (Con.pre ((C21 p n c f).when (ARes.ret (Value.bool true))) ⟨⟨[(I p)], [⟨n, c⟩]⟩, [(mvs n f)]⟩) ∧
((ConNOK Try.prog 24 (C24c true p n c (mvs n f) many (natL n P))) ∧ (ConN.pre (C24c true p n c (mvs n f) many (natL n P)) ⟨⟨[(I p), (.bool true)], [⟨n, c⟩]⟩, [(mvs n f)]⟩) ∧
((ConOK Try.prog 25 (C25 true p n c f found)) ∧ (Con.pre (C25 true p n c f found) ⟨⟨[(I p), (.bool true)], [⟨n, c⟩]⟩, [(mvs n f)]⟩) ∧
((ConOK Try.prog 26 (C26 p n c n n f P)) ∧ (Con.pre (C26 p n c n n f P) ⟨⟨[(I p)], [⟨n, c⟩, ⟨n, n⟩]⟩, [(mvs n f), (natL n P)]⟩) ∧
((((some (.bool (!decide ((↑n : Int) = (↑n : Int)))) : Option Value) = some (.bool false))) ∧
((ConOK Try.prog 27 (C27 true p n c n n f P true)) ∧ (Con.pre (C27 true p n c n n f P true) ⟨⟨[(I p), (.bool true)], [⟨n, c⟩, ⟨n, n⟩]⟩, [(mvs n f), (natL n P)]⟩) ∧
((ConOK Try.prog 28 (C28 n n P many)) ∧ (Con.pre (C28 n n P many) ⟨⟨[], [⟨n, n⟩]⟩, [(natL n P)]⟩) ∧
((((some (.bool ((↑many : Int) != (↑many : Int))) : Option Value) = some (.bool false))) ∧
((((((0 : Int) ≤ (↑n : Int))) ∧ (((↑n : Int) ≤ (↑(64 : Nat) : Int)))) ∧ (((I ((↑found : Int) / (2 : Int) ^ n)) : Value) = (I ((↑found : Int) / (2 : Int) ^ n)))) ∧
((((↑found : Int) / (2 : Int) ^ n != (0 : Int)) = true → R (.ret (.bool false))) ∧
(((↑found : Int) / (2 : Int) ^ n != (0 : Int)) = false → ((ConOK Try.prog 29 (C29 found)) ∧ (Con.pre (C29 found) ⟨⟨[(I found)], []⟩, []⟩) ∧
((((↑(popN found) : Int) != (↑many : Int)) = true → R (.ret (.bool false))) ∧
(((↑(popN found) : Int) != (↑many : Int)) = false → ((ClW ⟨⟨[(.bool true), (I many), (I found), (I 0), (I n), (I 0), (I p)], [⟨n, n⟩, ⟨n, n⟩, ⟨n, c⟩]⟩, [(mvs n f), (natL n P)], []⟩) ∧ (LoopOW Try.prog .none p5a (T5az) ⟨⟨[(.bool true), (I many), (I found), (I 0), (I n), (I 0), (I p)], [⟨n, n⟩, ⟨n, n⟩, ⟨n, c⟩]⟩, [(mvs n f), (natL n P)], []⟩ (.exit ((0 : Nat))) (T5az) ⟨⟨[(.bool true), (I many), (I found), (I next), (I n), (I n), (I p)], [⟨n, n⟩, ⟨n, n⟩, ⟨n, c⟩]⟩, [(mvs n f), (natL n P)], []⟩) ∧
((ClW ⟨⟨[(.bool true), (I many), (I found), (I 2), (I n), (I 0), (I p)], [⟨n, n⟩, ⟨n, c⟩]⟩, [(mvs n f), (natL n P)], []⟩) ∧ (LoopOW Try.prog .none p5b (T5bz) ⟨⟨[(.bool true), (I many), (I found), (I 2), (I n), (I 0), (I p)], [⟨n, n⟩, ⟨n, c⟩]⟩, [(mvs n f), (natL n P)], []⟩ (.exit ((2 : Nat))) (T5bz) ⟨⟨[(.bool true), (I many), (I found), (I 2), (I n), (I n), (I p)], [⟨n, n⟩, ⟨n, c⟩]⟩, [(mvs n f), (natL n P)], []⟩) ∧
((ConNOK Try.prog 13 (C13z p n c f g)) ∧ (ConN.pre (C13z p n c f g) ⟨⟨[(I p)], [⟨n, c⟩]⟩, [(mvs n f)]⟩) ∧
((ConOK Try.prog 27 (C27 true p n c n n f g true)) ∧ (Con.pre (C27 true p n c n n f g true) ⟨⟨[(I p), (.bool true)], [⟨n, c⟩, ⟨n, n⟩]⟩, [(mvs n f), (natL n g)]⟩) ∧
((ConOK Try.prog 28 (C28 n n g kk)) ∧ (Con.pre (C28 n n g kk) ⟨⟨[], [⟨n, n⟩]⟩, [(natL n g)]⟩) ∧
(((decide ((↑kk : Int) < (↑many : Int))) = true → R (.ret (.bool false))) ∧
((decide ((↑kk : Int) < (↑many : Int))) = false → ((ClW ⟨⟨[(I many), (I kk), (I n), (I 0)], [⟨n, n⟩, ⟨n, n⟩]⟩, [(natL n P), (natL n g)], []⟩) ∧ (LoopOW Try.prog .none p5d (T5d) ⟨⟨[(I many), (I kk), (I n), (I 0)], [⟨n, n⟩, ⟨n, n⟩]⟩, [(natL n P), (natL n g)], []⟩ .ret (R5d) ⟨⟨[(.bool true)], []⟩, [], []⟩) ∧
R (.ret (.bool true))))))))))))))))))))))))))) := by kernel_rfl
theorem law5zt (p : Int) (n c : Nat) (f : Nat → Mv) (h0 : 0 < n) (hok : okH p n f = true) :
    ∃ hs, vx.call 5 [hV p n c, .bool true, nilS] (retK fun r => r = .ret (.bool true)) (m2n (mvs n f)) hs := by
  have hH := okH_iff hok
  have h7 := hH.n7
  have hwhen : ConOK Try.prog 21 ((C21 p n c f).when (.ret (.bool true))) := con_when (C21_ok p n c f (by omega)) _
  have hr : (C21 p n c f).res ⟨⟨[I p], [(n, c)]⟩, [mvs n f]⟩ = .ret (.bool true) := by show ARes.ret (.bool (okH p n f)) = _; rw [hok]
  have h24 : ConNOK Try.prog 24 (C24c true p n c (mvs n f) (fewH true p n f) (natL n (firstP true p n f))) := C24c_ok true hok h7 h0
  have h25 : ConOK Try.prog 25 (C25 true p n c f (proofH true p n f)) := C25_ok true hok h7
  have hlt : ∀ i, i < n → firstP true p n f i < 7 := fun i hi => first_lt hH hi
  have h26 := C26_ok p n c n n f (firstP true p n f) h7 hlt
  have h27 : ConOK Try.prog 27 (C27 true p n c n n f (firstP true p n f) true) := by
    have h := C27_ok true p n c n n f (firstP true p n f) hok (okP_nat hlt) h7 h7
    rw [first_right hH] at h
    exact h
  have h28 : ConOK Try.prog 28 (C28 n n (firstP true p n f) (fewH true p n f)) := by
    have h := C28_ok n n (firstP true p n f) h7
    rw [first_used hH] at h
    exact h
  have h128 := proof_128 (p := p) (f := f) (sure := true) h7
  have h29 := C29_ok h128
  have h13 := C13z_ok p n c f h0 (by omega)
  have hla := loop5az (p := p) (c := c) (f := f) (many := fewH true p n f) (found := proofH true p n f) true h7 hlt (fun i hi => first_next hH hi)
  have hlb := loop5bz (c := c) (many := fewH true p n f) (P := firstP true p n f) hok true 2 h128 (fun i j hi hj a b => proof_pair (sure := true) hH hi hj a b)
  have hca := cl5az (p := p) (n := n) (c := c) (f := f) (many := fewH true p n f) (found := proofH true p n f) (P := firstP true p n f) true 0
  have hcb := cl5bz (p := p) (n := n) (c := c) (f := f) (many := fewH true p n f) (found := proofH true p n f) (P := firstP true p n f) true 2 0
  have holt : ∀ i, i < n → ownP 0 (fun _ => 0) i < 7 := fun i _ => ownP_lt (fun i hi => absurd hi (Nat.not_lt_zero i)) i
  have hd0 : ((proofH true p n f : Nat) : Int) / (2 : Int) ^ n = 0 := by
    have := proof_lt (p := p) (f := f) (sure := true) h7
    have e : ((proofH true p n f : Nat) : Int) / (2 : Int) ^ n = ((proofH true p n f / 2 ^ n : Nat) : Int) := by simp
    rw [e, Nat.div_eq_of_lt this]
    rfl
  have hpop := proof_few (sure := true) hH
  have h27o := C27_ok true p n c n n f (ownP 0 (fun _ => 0)) hok (okP_nat holt) h7 h7
  have h28o := C28_ok n n (ownP 0 (fun _ => 0)) h7
  have hfew := used_few (sure := true) hH holt
  have hleast := fun hr hu i hi hpre => first_least (sure := true) hH (g := ownP 0 (fun _ => 0)) holt hr hu (i := i) hi hpre
  have tA : (some (.bool (!decide ((n : Int) = (n : Int)))) : Option Value) = some (.bool false) := by simp
  have tB : ∀ m : Nat, (some (.bool ((m : Int) != (m : Int))) : Option Value) = some (.bool false) := fun m => by simp
  have key : ∀ R : ARes → Prop, R (.ret (.bool true)) → ∃ hs, vx.call 5 [hV p n c, .bool true, nilS] (retK R) (m2n (mvs n f)) hs := by
    intro R hR
    generalize ownP 0 (fun _ => 0) = own at *
    generalize firstP true p n f = P at *
    generalize proofH true p n f = found at *
    generalize fewH true p n f = many at *
    have no1 : ((found : Nat) : Int) / (2 : Int) ^ n != 0 → False := fun h => by rw [hd0] at h; exact absurd h (by decide)
    have no2 : (((popN found : Nat) : Int) != (many : Nat)) = true → False := fun h => by rw [hpop] at h; simp at h
    cases hro : rightB true p n n f (fun i => (own i : Int)) with
    | false =>
      rw [hro] at h27o
      refine ⟨_, (f5zwt p n c many found (nextF P n) 0 f P own R).mpr ⟨fun _ => ⟨C12_ok, rfl, hR⟩, fun _ => ⟨hwhen, ⟨rfl, hr⟩, h24, rfl, h25, rfl, h26, rfl, tA, h27, rfl, h28, rfl, tB _, ⟨⟨by omega, by omega⟩, rfl⟩, fun h => absurd h no1, fun _ => ⟨h29, rfl, fun h => absurd h no2, fun _ => ⟨hca, hla, hcb, hlb, h13, rfl, h27o, rfl, C12_ok, rfl, hR⟩⟩⟩⟩⟩
    | true =>
      rw [hro] at h27o
      have h9 := hfew hro
      have no3 : decide (((usN own n : Nat) : Int) < (many : Nat)) = true → False := fun h => by have := of_decide_eq_true h; omega
      have hld := fun T1 => loop5d (n := n) (many := many) (kk := usN own n) (P := P) (g := own) (T1 := T1) h7
      rcases run5d (many := many) (kk := usN own n) (P := P) (g := own) (n := n) (.exit 6, 0, st5d n many (usN own n) P own n) (fun i hi e hpre => hleast hro e i hi hpre) n 0 (by omega) (fun _ j hj => absurd hj (Nat.not_lt_zero j)) with hx | hx
      · rw [hx] at hld
        exact ⟨_, (f5zet p n c many found (nextF P n) (usN own n) f P own R).mpr ⟨fun _ => ⟨C12_ok, rfl, hR⟩, fun _ => ⟨hwhen, ⟨rfl, hr⟩, h24, rfl, h25, rfl, h26, rfl, tA, h27, rfl, h28, rfl, tB _, ⟨⟨by omega, by omega⟩, rfl⟩, fun h => absurd h no1, fun _ => ⟨h29, rfl, fun h => absurd h no2, fun _ => ⟨hca, hla, hcb, hlb, h13, rfl, h27o, rfl, h28o, rfl, fun h => absurd h no3, fun _ => ⟨cl5d 0, hld T5d rfl, C12_ok, rfl, hR⟩⟩⟩⟩⟩⟩
      · rw [hx] at hld
        exact ⟨_, (f5zrt p n c many found (nextF P n) (usN own n) f P own R).mpr ⟨fun _ => ⟨C12_ok, rfl, hR⟩, fun _ => ⟨hwhen, ⟨rfl, hr⟩, h24, rfl, h25, rfl, h26, rfl, tA, h27, rfl, h28, rfl, tB _, ⟨⟨by omega, by omega⟩, rfl⟩, fun h => absurd h no1, fun _ => ⟨h29, rfl, fun h => absurd h no2, fun _ => ⟨hca, hla, hcb, hlb, h13, rfl, h27o, rfl, h28o, rfl, fun h => absurd h no3, fun _ => ⟨cl5d 0, hld R5d rfl, hR⟩⟩⟩⟩⟩⟩
  exact key _ rfl
end Go.Ab
/- the law HorseFewest: its runs, where there are moves. -/
set_option maxRecDepth 100000
namespace Go.Ab
open Go Go.RowKit Go.Proofs
theorem f5zwf (p : Int) (n c many found next kk : Nat) (f : Nat → Mv) (P g : Nat → Nat) (R : ARes → Prop) : (vx.call 5 [hV p n c, .bool false, nilS] (retK R) (m2n (mvs n f)) ([(17, .split ((7, .con C12) :: []) ((4, .con ((C21 p n c f).when (ARes.ret (Value.bool true)))) :: (6, .conN (C24c false p n c (mvs n f) many (natL n P))) :: (9, .con (C25 false p n c f found)) :: (14, .con (C26 p n c n n f P)) :: (0, .val (.bool false)) :: (5, .con (C27 false p n c n n f P true)) :: (4, .con (C28 n n P many)) :: (1, .val (.bool false)) :: (10, .val (I ((↑found : Int) / (2 : Int) ^ n))) :: [(0, .split ([]) ((3, .con (C29 found)) :: [(1, .split ([]) ((6, .loopW T5az (AExit.exit (0 : Nat)) T5az fun x => st5az false p n c f many found P next n) :: (7, .loopW T5bz (AExit.exit (2 : Nat)) T5bz fun x => st5bz false p n c f many found P (1 : Int) n) :: (2, .conN (C13z p n c f g)) :: (4, .con (C27 false p n c n n f g false)) :: (2, .con C12) :: []))]))]))])) =
((((decide ((if (↑(0 : Nat) : Int) > (↑n : Int) then (↑(0 : Nat) : Int) else (↑n : Int)) > (40 : Int))) = true → ((ConOK Try.prog 12 (C12)) ∧ (Con.pre (C12) ⟨⟨[], []⟩, []⟩) ∧
R (.ret (.bool true)))) ∧
((decide ((if (↑(0 : Nat) : Int) > (↑n : Int) then (↑(0 : Nat) : Int) else (↑n : Int)) > (40 : Int))) = false → ((ConOK Try.prog 21 ((C21 p n c f).when (ARes.ret (Value.bool true)))) ∧ (Con.pre ((C21 p n c f).when (ARes.ret (Value.bool true))) ⟨⟨[(I p)], [⟨n, c⟩]⟩, [(mvs n f)]⟩) ∧
((ConNOK Try.prog 24 (C24c false p n c (mvs n f) many (natL n P))) ∧ (ConN.pre (C24c false p n c (mvs n f) many (natL n P)) ⟨⟨[(I p), (.bool false)], [⟨n, c⟩]⟩, [(mvs n f)]⟩) ∧
((ConOK Try.prog 25 (C25 false p n c f found)) ∧ (Con.pre (C25 false p n c f found) ⟨⟨[(I p), (.bool false)], [⟨n, c⟩]⟩, [(mvs n f)]⟩) ∧
((ConOK Try.prog 26 (C26 p n c n n f P)) ∧ (Con.pre (C26 p n c n n f P) ⟨⟨[(I p)], [⟨n, c⟩, ⟨n, n⟩]⟩, [(mvs n f), (natL n P)]⟩) ∧
((((some (.bool (!decide ((↑n : Int) = (↑n : Int)))) : Option Value) = some (.bool false))) ∧
((ConOK Try.prog 27 (C27 false p n c n n f P true)) ∧ (Con.pre (C27 false p n c n n f P true) ⟨⟨[(I p), (.bool false)], [⟨n, c⟩, ⟨n, n⟩]⟩, [(mvs n f), (natL n P)]⟩) ∧
((ConOK Try.prog 28 (C28 n n P many)) ∧ (Con.pre (C28 n n P many) ⟨⟨[], [⟨n, n⟩]⟩, [(natL n P)]⟩) ∧
((((some (.bool ((↑many : Int) != (↑many : Int))) : Option Value) = some (.bool false))) ∧
((((((0 : Int) ≤ (↑n : Int))) ∧ (((↑n : Int) ≤ (↑(64 : Nat) : Int)))) ∧ (((I ((↑found : Int) / (2 : Int) ^ n)) : Value) = (I ((↑found : Int) / (2 : Int) ^ n)))) ∧
((((↑found : Int) / (2 : Int) ^ n != (0 : Int)) = true → R (.ret (.bool false))) ∧
(((↑found : Int) / (2 : Int) ^ n != (0 : Int)) = false → ((ConOK Try.prog 29 (C29 found)) ∧ (Con.pre (C29 found) ⟨⟨[(I found)], []⟩, []⟩) ∧
((((↑(popN found) : Int) != (↑many : Int)) = true → R (.ret (.bool false))) ∧
(((↑(popN found) : Int) != (↑many : Int)) = false → ((ClW ⟨⟨[(.bool false), (I many), (I found), (I 0), (I n), (I 0), (I p)], [⟨n, n⟩, ⟨n, n⟩, ⟨n, c⟩]⟩, [(mvs n f), (natL n P)], []⟩) ∧ (LoopOW Try.prog .none p5a (T5az) ⟨⟨[(.bool false), (I many), (I found), (I 0), (I n), (I 0), (I p)], [⟨n, n⟩, ⟨n, n⟩, ⟨n, c⟩]⟩, [(mvs n f), (natL n P)], []⟩ (.exit ((0 : Nat))) (T5az) ⟨⟨[(.bool false), (I many), (I found), (I next), (I n), (I n), (I p)], [⟨n, n⟩, ⟨n, n⟩, ⟨n, c⟩]⟩, [(mvs n f), (natL n P)], []⟩) ∧
((ClW ⟨⟨[(.bool false), (I many), (I found), (I 1), (I n), (I 0), (I p)], [⟨n, n⟩, ⟨n, c⟩]⟩, [(mvs n f), (natL n P)], []⟩) ∧ (LoopOW Try.prog .none p5b (T5bz) ⟨⟨[(.bool false), (I many), (I found), (I 1), (I n), (I 0), (I p)], [⟨n, n⟩, ⟨n, c⟩]⟩, [(mvs n f), (natL n P)], []⟩ (.exit ((2 : Nat))) (T5bz) ⟨⟨[(.bool false), (I many), (I found), (I 1), (I n), (I n), (I p)], [⟨n, n⟩, ⟨n, c⟩]⟩, [(mvs n f), (natL n P)], []⟩) ∧
((ConNOK Try.prog 13 (C13z p n c f g)) ∧ (ConN.pre (C13z p n c f g) ⟨⟨[(I p)], [⟨n, c⟩]⟩, [(mvs n f)]⟩) ∧
((ConOK Try.prog 27 (C27 false p n c n n f g false)) ∧ (Con.pre (C27 false p n c n n f g false) ⟨⟨[(I p), (.bool false)], [⟨n, c⟩, ⟨n, n⟩]⟩, [(mvs n f), (natL n g)]⟩) ∧
((ConOK Try.prog 12 (C12)) ∧ (Con.pre (C12) ⟨⟨[], []⟩, []⟩) ∧
R (.ret (.bool true)))))))))))))))))))))))) := by kernel_rfl
theorem f5zef (p : Int) (n c many found next kk : Nat) (f : Nat → Mv) (P g : Nat → Nat) (R : ARes → Prop) : (vx.call 5 [hV p n c, .bool false, nilS] (retK R) (m2n (mvs n f)) ([(17, .split ((7, .con C12) :: []) ((4, .con ((C21 p n c f).when (ARes.ret (Value.bool true)))) :: (6, .conN (C24c false p n c (mvs n f) many (natL n P))) :: (9, .con (C25 false p n c f found)) :: (14, .con (C26 p n c n n f P)) :: (0, .val (.bool false)) :: (5, .con (C27 false p n c n n f P true)) :: (4, .con (C28 n n P many)) :: (1, .val (.bool false)) :: (10, .val (I ((↑found : Int) / (2 : Int) ^ n))) :: [(0, .split ([]) ((3, .con (C29 found)) :: [(1, .split ([]) ((6, .loopW T5az (AExit.exit (0 : Nat)) T5az fun x => st5az false p n c f many found P next n) :: (7, .loopW T5bz (AExit.exit (2 : Nat)) T5bz fun x => st5bz false p n c f many found P (1 : Int) n) :: (2, .conN (C13z p n c f g)) :: (4, .con (C27 false p n c n n f g true)) :: (3, .con (C28 n n g kk)) :: [(3, .split ([]) ((4, .loopW T5d (AExit.exit (6 : Nat)) T5d fun x => st5d n many kk P g n) :: (0, .con C12) :: []))]))]))]))])) =
((((decide ((if (↑(0 : Nat) : Int) > (↑n : Int) then (↑(0 : Nat) : Int) else (↑n : Int)) > (40 : Int))) = true → ((ConOK Try.prog 12 (C12)) ∧ (Con.pre (C12) ⟨⟨[], []⟩, []⟩) ∧
R (.ret (.bool true)))) ∧
((decide ((if (↑(0 : Nat) : Int) > (↑n : Int) then (↑(0 : Nat) : Int) else (↑n : Int)) > (40 : Int))) = false → ((ConOK Try.prog 21 ((C21 p n c f).when (ARes.ret (Value.bool true)))) ∧ (Con.pre ((C21 p n c f).when (ARes.ret (Value.bool true))) ⟨⟨[(I p)], [⟨n, c⟩]⟩, [(mvs n f)]⟩) ∧
((ConNOK Try.prog 24 (C24c false p n c (mvs n f) many (natL n P))) ∧ (ConN.pre (C24c false p n c (mvs n f) many (natL n P)) ⟨⟨[(I p), (.bool false)], [⟨n, c⟩]⟩, [(mvs n f)]⟩) ∧
((ConOK Try.prog 25 (C25 false p n c f found)) ∧ (Con.pre (C25 false p n c f found) ⟨⟨[(I p), (.bool false)], [⟨n, c⟩]⟩, [(mvs n f)]⟩) ∧
((ConOK Try.prog 26 (C26 p n c n n f P)) ∧ (Con.pre (C26 p n c n n f P) ⟨⟨[(I p)], [⟨n, c⟩, ⟨n, n⟩]⟩, [(mvs n f), (natL n P)]⟩) ∧
((((some (.bool (!decide ((↑n : Int) = (↑n : Int)))) : Option Value) = some (.bool false))) ∧
((ConOK Try.prog 27 (C27 false p n c n n f P true)) ∧ (Con.pre (C27 false p n c n n f P true) ⟨⟨[(I p), (.bool false)], [⟨n, c⟩, ⟨n, n⟩]⟩, [(mvs n f), (natL n P)]⟩) ∧
((ConOK Try.prog 28 (C28 n n P many)) ∧ (Con.pre (C28 n n P many) ⟨⟨[], [⟨n, n⟩]⟩, [(natL n P)]⟩) ∧
((((some (.bool ((↑many : Int) != (↑many : Int))) : Option Value) = some (.bool false))) ∧
((((((0 : Int) ≤ (↑n : Int))) ∧ (((↑n : Int) ≤ (↑(64 : Nat) : Int)))) ∧ (((I ((↑found : Int) / (2 : Int) ^ n)) : Value) = (I ((↑found : Int) / (2 : Int) ^ n)))) ∧
((((↑found : Int) / (2 : Int) ^ n != (0 : Int)) = true → R (.ret (.bool false))) ∧
(((↑found : Int) / (2 : Int) ^ n != (0 : Int)) = false → ((ConOK Try.prog 29 (C29 found)) ∧ (Con.pre (C29 found) ⟨⟨[(I found)], []⟩, []⟩) ∧
((((↑(popN found) : Int) != (↑many : Int)) = true → R (.ret (.bool false))) ∧
(((↑(popN found) : Int) != (↑many : Int)) = false → ((ClW ⟨⟨[(.bool false), (I many), (I found), (I 0), (I n), (I 0), (I p)], [⟨n, n⟩, ⟨n, n⟩, ⟨n, c⟩]⟩, [(mvs n f), (natL n P)], []⟩) ∧ (LoopOW Try.prog .none p5a (T5az) ⟨⟨[(.bool false), (I many), (I found), (I 0), (I n), (I 0), (I p)], [⟨n, n⟩, ⟨n, n⟩, ⟨n, c⟩]⟩, [(mvs n f), (natL n P)], []⟩ (.exit ((0 : Nat))) (T5az) ⟨⟨[(.bool false), (I many), (I found), (I next), (I n), (I n), (I p)], [⟨n, n⟩, ⟨n, n⟩, ⟨n, c⟩]⟩, [(mvs n f), (natL n P)], []⟩) ∧
((ClW ⟨⟨[(.bool false), (I many), (I found), (I 1), (I n), (I 0), (I p)], [⟨n, n⟩, ⟨n, c⟩]⟩, [(mvs n f), (natL n P)], []⟩) ∧ (LoopOW Try.prog .none p5b (T5bz) ⟨⟨[(.bool false), (I many), (I found), (I 1), (I n), (I 0), (I p)], [⟨n, n⟩, ⟨n, c⟩]⟩, [(mvs n f), (natL n P)], []⟩ (.exit ((2 : Nat))) (T5bz) ⟨⟨[(.bool false), (I many), (I found), (I 1), (I n), (I n), (I p)], [⟨n, n⟩, ⟨n, c⟩]⟩, [(mvs n f), (natL n P)], []⟩) ∧
((ConNOK Try.prog 13 (C13z p n c f g)) ∧ (ConN.pre (C13z p n c f g) ⟨⟨[(I p)], [⟨n, c⟩]⟩, [(mvs n f)]⟩) ∧
((ConOK Try.prog 27 (C27 false p n c n n f g true)) ∧ (Con.pre (C27 false p n c n n f g true) ⟨⟨[(I p), (.bool false)], [⟨n, c⟩, ⟨n, n⟩]⟩, [(mvs n f), (natL n g)]⟩) ∧
((ConOK Try.prog 28 (C28 n n g kk)) ∧ (Con.pre (C28 n n g kk) ⟨⟨[], [⟨n, n⟩]⟩, [(natL n g)]⟩) ∧
(((decide ((↑kk : Int) < (↑many : Int))) = true → R (.ret (.bool false))) ∧
((decide ((↑kk : Int) < (↑many : Int))) = false → ((ClW ⟨⟨[(I many), (I kk), (I n), (I 0)], [⟨n, n⟩, ⟨n, n⟩]⟩, [(natL n P), (natL n g)], []⟩) ∧ (LoopOW Try.prog .none p5d (T5d) ⟨⟨[(I many), (I kk), (I n), (I 0)], [⟨n, n⟩, ⟨n, n⟩]⟩, [(natL n P), (natL n g)], []⟩ (.exit ((6 : Nat))) (T5d) ⟨⟨[(I many), (I kk), (I n), (I n)], [⟨n, n⟩, ⟨n, n⟩]⟩, [(natL n P), (natL n g)], []⟩) ∧
((ConOK Try.prog 12 (C12)) ∧ (Con.pre (C12) ⟨⟨[], []⟩, []⟩) ∧
R (.ret (.bool true)))))))))))))))))))))))))))) := by kernel_rfl
theorem f5zrf (p : Int) (n c many found next kk : Nat) (f : Nat → Mv) (P g : Nat → Nat) (R : ARes → Prop) : (vx.call 5 [hV p n c, .bool false, nilS] (retK R) (m2n (mvs n f)) ([(17, .split ((7, .con C12) :: []) ((4, .con ((C21 p n c f).when (ARes.ret (Value.bool true)))) :: (6, .conN (C24c false p n c (mvs n f) many (natL n P))) :: (9, .con (C25 false p n c f found)) :: (14, .con (C26 p n c n n f P)) :: (0, .val (.bool false)) :: (5, .con (C27 false p n c n n f P true)) :: (4, .con (C28 n n P many)) :: (1, .val (.bool false)) :: (10, .val (I ((↑found : Int) / (2 : Int) ^ n))) :: [(0, .split ([]) ((3, .con (C29 found)) :: [(1, .split ([]) ((6, .loopW T5az (AExit.exit (0 : Nat)) T5az fun x => st5az false p n c f many found P next n) :: (7, .loopW T5bz (AExit.exit (2 : Nat)) T5bz fun x => st5bz false p n c f many found P (1 : Int) n) :: (2, .conN (C13z p n c f g)) :: (4, .con (C27 false p n c n n f g true)) :: (3, .con (C28 n n g kk)) :: [(3, .split ([]) ((4, .loopW T5d AExit.ret R5d fun x => rt5d true) :: []))]))]))]))])) =
((((decide ((if (↑(0 : Nat) : Int) > (↑n : Int) then (↑(0 : Nat) : Int) else (↑n : Int)) > (40 : Int))) = true → ((ConOK Try.prog 12 (C12)) ∧ (Con.pre (C12) ⟨⟨[], []⟩, []⟩) ∧
R (.ret (.bool true)))) ∧
((decide ((if (↑(0 : Nat) : Int) > (↑n : Int) then (↑(0 : Nat) : Int) else (↑n : Int)) > (40 : Int))) = false → ((ConOK Try.prog 21 ((C21 p n c f).when (ARes.ret (Value.bool true)))) ∧ (Con.pre ((C21 p n c f).when (ARes.ret (Value.bool true))) ⟨⟨[(I p)], [⟨n, c⟩]⟩, [(mvs n f)]⟩) ∧
((ConNOK Try.prog 24 (C24c false p n c (mvs n f) many (natL n P))) ∧ (ConN.pre (C24c false p n c (mvs n f) many (natL n P)) ⟨⟨[(I p), (.bool false)], [⟨n, c⟩]⟩, [(mvs n f)]⟩) ∧
((ConOK Try.prog 25 (C25 false p n c f found)) ∧ (Con.pre (C25 false p n c f found) ⟨⟨[(I p), (.bool false)], [⟨n, c⟩]⟩, [(mvs n f)]⟩) ∧
((ConOK Try.prog 26 (C26 p n c n n f P)) ∧ (Con.pre (C26 p n c n n f P) ⟨⟨[(I p)], [⟨n, c⟩, ⟨n, n⟩]⟩, [(mvs n f), (natL n P)]⟩) ∧
((((some (.bool (!decide ((↑n : Int) = (↑n : Int)))) : Option Value) = some (.bool false))) ∧
((ConOK Try.prog 27 (C27 false p n c n n f P true)) ∧ (Con.pre (C27 false p n c n n f P true) ⟨⟨[(I p), (.bool false)], [⟨n, c⟩, ⟨n, n⟩]⟩, [(mvs n f), (natL n P)]⟩) ∧
((ConOK Try.prog 28 (C28 n n P many)) ∧ (Con.pre (C28 n n P many) ⟨⟨[], [⟨n, n⟩]⟩, [(natL n P)]⟩) ∧
((((some (.bool ((↑many : Int) != (↑many : Int))) : Option Value) = some (.bool false))) ∧
((((((0 : Int) ≤ (↑n : Int))) ∧ (((↑n : Int) ≤ (↑(64 : Nat) : Int)))) ∧ (((I ((↑found : Int) / (2 : Int) ^ n)) : Value) = (I ((↑found : Int) / (2 : Int) ^ n)))) ∧
((((↑found : Int) / (2 : Int) ^ n != (0 : Int)) = true → R (.ret (.bool false))) ∧
(((↑found : Int) / (2 : Int) ^ n != (0 : Int)) = false → ((ConOK Try.prog 29 (C29 found)) ∧ (Con.pre (C29 found) ⟨⟨[(I found)], []⟩, []⟩) ∧
((((↑(popN found) : Int) != (↑many : Int)) = true → R (.ret (.bool false))) ∧
(((↑(popN found) : Int) != (↑many : Int)) = false → ((ClW ⟨⟨[(.bool false), (I many), (I found), (I 0), (I n), (I 0), (I p)], [⟨n, n⟩, ⟨n, n⟩, ⟨n, c⟩]⟩, [(mvs n f), (natL n P)], []⟩) ∧ (LoopOW Try.prog .none p5a (T5az) ⟨⟨[(.bool false), (I many), (I found), (I 0), (I n), (I 0), (I p)], [⟨n, n⟩, ⟨n, n⟩, ⟨n, c⟩]⟩, [(mvs n f), (natL n P)], []⟩ (.exit ((0 : Nat))) (T5az) ⟨⟨[(.bool false), (I many), (I found), (I next), (I n), (I n), (I p)], [⟨n, n⟩, ⟨n, n⟩, ⟨n, c⟩]⟩, [(mvs n f), (natL n P)], []⟩) ∧
((ClW ⟨⟨[(.bool false), (I many), (I found), (I 1), (I n), (I 0), (I p)], [⟨n, n⟩, ⟨n, c⟩]⟩, [(mvs n f), (natL n P)], []⟩) ∧ (LoopOW Try.prog .none p5b (T5bz) ⟨⟨[(.bool false), (I many), (I found), (I 1), (I n), (I 0), (I p)], [⟨n, n⟩, ⟨n, c⟩]⟩, [(mvs n f), (natL n P)], []⟩ (.exit ((2 : Nat))) (T5bz) ⟨⟨[(.bool false), (I many), (I found), (I 1), (I n), (I n), (I p)], [⟨n, n⟩, ⟨n, c⟩]⟩, [(mvs n f), (natL n P)], []⟩) ∧
((ConNOK Try.prog 13 (C13z p n c f g)) ∧ (ConN.pre (C13z p n c f g) ⟨⟨[(I p)], [⟨n, c⟩]⟩, [(mvs n f)]⟩) ∧
((ConOK Try.prog 27 (C27 false p n c n n f g true)) ∧ (Con.pre (C27 false p n c n n f g true) ⟨⟨[(I p), (.bool false)], [⟨n, c⟩, ⟨n, n⟩]⟩, [(mvs n f), (natL n g)]⟩) ∧
((ConOK Try.prog 28 (C28 n n g kk)) ∧ (Con.pre (C28 n n g kk) ⟨⟨[], [⟨n, n⟩]⟩, [(natL n g)]⟩) ∧
(((decide ((↑kk : Int) < (↑many : Int))) = true → R (.ret (.bool false))) ∧
((decide ((↑kk : Int) < (↑many : Int))) = false → ((ClW ⟨⟨[(I many), (I kk), (I n), (I 0)], [⟨n, n⟩, ⟨n, n⟩]⟩, [(natL n P), (natL n g)], []⟩) ∧ (LoopOW Try.prog .none p5d (T5d) ⟨⟨[(I many), (I kk), (I n), (I 0)], [⟨n, n⟩, ⟨n, n⟩]⟩, [(natL n P), (natL n g)], []⟩ .ret (R5d) ⟨⟨[(.bool true)], []⟩, [], []⟩) ∧
R (.ret (.bool true))))))))))))))))))))))))))) := by kernel_rfl
theorem law5zf (p : Int) (n c : Nat) (f : Nat → Mv) (h0 : 0 < n) (hok : okH p n f = true) :
    ∃ hs, vx.call 5 [hV p n c, .bool false, nilS] (retK fun r => r = .ret (.bool true)) (m2n (mvs n f)) hs := by
  have hH := okH_iff hok
  have h7 := hH.n7
  have hwhen : ConOK Try.prog 21 ((C21 p n c f).when (.ret (.bool true))) := con_when (C21_ok p n c f (by omega)) _
  have hr : (C21 p n c f).res ⟨⟨[I p], [(n, c)]⟩, [mvs n f]⟩ = .ret (.bool true) := by show ARes.ret (.bool (okH p n f)) = _; rw [hok]
  have h24 : ConNOK Try.prog 24 (C24c false p n c (mvs n f) (fewH false p n f) (natL n (firstP false p n f))) := C24c_ok false hok h7 h0
  have h25 : ConOK Try.prog 25 (C25 false p n c f (proofH false p n f)) := C25_ok false hok h7
  have hlt : ∀ i, i < n → firstP false p n f i < 7 := fun i hi => first_lt hH hi
  have h26 := C26_ok p n c n n f (firstP false p n f) h7 hlt
  have h27 : ConOK Try.prog 27 (C27 false p n c n n f (firstP false p n f) true) := by
    have h := C27_ok false p n c n n f (firstP false p n f) hok (okP_nat hlt) h7 h7
    rw [first_right hH] at h
    exact h
  have h28 : ConOK Try.prog 28 (C28 n n (firstP false p n f) (fewH false p n f)) := by
    have h := C28_ok n n (firstP false p n f) h7
    rw [first_used hH] at h
    exact h
  have h128 := proof_128 (p := p) (f := f) (sure := false) h7
  have h29 := C29_ok h128
  have h13 := C13z_ok p n c f h0 (by omega)
  have hla := loop5az (p := p) (c := c) (f := f) (many := fewH false p n f) (found := proofH false p n f) false h7 hlt (fun i hi => first_next hH hi)
  have hlb := loop5bz (c := c) (many := fewH false p n f) (P := firstP false p n f) hok false 1 h128 (fun i j hi hj a b => proof_pair (sure := false) hH hi hj a b)
  have hca := cl5az (p := p) (n := n) (c := c) (f := f) (many := fewH false p n f) (found := proofH false p n f) (P := firstP false p n f) false 0
  have hcb := cl5bz (p := p) (n := n) (c := c) (f := f) (many := fewH false p n f) (found := proofH false p n f) (P := firstP false p n f) false 1 0
  have holt : ∀ i, i < n → ownP 0 (fun _ => 0) i < 7 := fun i _ => ownP_lt (fun i hi => absurd hi (Nat.not_lt_zero i)) i
  have hd0 : ((proofH false p n f : Nat) : Int) / (2 : Int) ^ n = 0 := by
    have := proof_lt (p := p) (f := f) (sure := false) h7
    have e : ((proofH false p n f : Nat) : Int) / (2 : Int) ^ n = ((proofH false p n f / 2 ^ n : Nat) : Int) := by simp
    rw [e, Nat.div_eq_of_lt this]
    rfl
  have hpop := proof_few (sure := false) hH
  have h27o := C27_ok false p n c n n f (ownP 0 (fun _ => 0)) hok (okP_nat holt) h7 h7
  have h28o := C28_ok n n (ownP 0 (fun _ => 0)) h7
  have hfew := used_few (sure := false) hH holt
  have hleast := fun hr hu i hi hpre => first_least (sure := false) hH (g := ownP 0 (fun _ => 0)) holt hr hu (i := i) hi hpre
  have tA : (some (.bool (!decide ((n : Int) = (n : Int)))) : Option Value) = some (.bool false) := by simp
  have tB : ∀ m : Nat, (some (.bool ((m : Int) != (m : Int))) : Option Value) = some (.bool false) := fun m => by simp
  have key : ∀ R : ARes → Prop, R (.ret (.bool true)) → ∃ hs, vx.call 5 [hV p n c, .bool false, nilS] (retK R) (m2n (mvs n f)) hs := by
    intro R hR
    generalize ownP 0 (fun _ => 0) = own at *
    generalize firstP false p n f = P at *
    generalize proofH false p n f = found at *
    generalize fewH false p n f = many at *
    have no1 : ((found : Nat) : Int) / (2 : Int) ^ n != 0 → False := fun h => by rw [hd0] at h; exact absurd h (by decide)
    have no2 : (((popN found : Nat) : Int) != (many : Nat)) = true → False := fun h => by rw [hpop] at h; simp at h
    cases hro : rightB false p n n f (fun i => (own i : Int)) with
    | false =>
      rw [hro] at h27o
      refine ⟨_, (f5zwf p n c many found (nextF P n) 0 f P own R).mpr ⟨fun _ => ⟨C12_ok, rfl, hR⟩, fun _ => ⟨hwhen, ⟨rfl, hr⟩, h24, rfl, h25, rfl, h26, rfl, tA, h27, rfl, h28, rfl, tB _, ⟨⟨by omega, by omega⟩, rfl⟩, fun h => absurd h no1, fun _ => ⟨h29, rfl, fun h => absurd h no2, fun _ => ⟨hca, hla, hcb, hlb, h13, rfl, h27o, rfl, C12_ok, rfl, hR⟩⟩⟩⟩⟩
    | true =>
      rw [hro] at h27o
      have h9 := hfew hro
      have no3 : decide (((usN own n : Nat) : Int) < (many : Nat)) = true → False := fun h => by have := of_decide_eq_true h; omega
      have hld := fun T1 => loop5d (n := n) (many := many) (kk := usN own n) (P := P) (g := own) (T1 := T1) h7
      rcases run5d (many := many) (kk := usN own n) (P := P) (g := own) (n := n) (.exit 6, 0, st5d n many (usN own n) P own n) (fun i hi e hpre => hleast hro e i hi hpre) n 0 (by omega) (fun _ j hj => absurd hj (Nat.not_lt_zero j)) with hx | hx
      · rw [hx] at hld
        exact ⟨_, (f5zef p n c many found (nextF P n) (usN own n) f P own R).mpr ⟨fun _ => ⟨C12_ok, rfl, hR⟩, fun _ => ⟨hwhen, ⟨rfl, hr⟩, h24, rfl, h25, rfl, h26, rfl, tA, h27, rfl, h28, rfl, tB _, ⟨⟨by omega, by omega⟩, rfl⟩, fun h => absurd h no1, fun _ => ⟨h29, rfl, fun h => absurd h no2, fun _ => ⟨hca, hla, hcb, hlb, h13, rfl, h27o, rfl, h28o, rfl, fun h => absurd h no3, fun _ => ⟨cl5d 0, hld T5d rfl, C12_ok, rfl, hR⟩⟩⟩⟩⟩⟩
      · rw [hx] at hld
        exact ⟨_, (f5zrf p n c many found (nextF P n) (usN own n) f P own R).mpr ⟨fun _ => ⟨C12_ok, rfl, hR⟩, fun _ => ⟨hwhen, ⟨rfl, hr⟩, h24, rfl, h25, rfl, h26, rfl, tA, h27, rfl, h28, rfl, tB _, ⟨⟨by omega, by omega⟩, rfl⟩, fun h => absurd h no1, fun _ => ⟨h29, rfl, fun h => absurd h no2, fun _ => ⟨hca, hla, hcb, hlb, h13, rfl, h27o, rfl, h28o, rfl, fun h => absurd h no3, fun _ => ⟨cl5d 0, hld R5d rfl, hR⟩⟩⟩⟩⟩⟩
  exact key _ rfl
end Go.Ab
