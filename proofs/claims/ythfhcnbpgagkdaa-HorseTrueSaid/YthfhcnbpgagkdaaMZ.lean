/- the law HorseTrue: some moves, no numbers of the plan. -/
import Derived.Test.YthfhcnbpgagkdaaMX
set_option maxRecDepth 100000
namespace Go.Ab
open Go Go.RowKit Go.Proofs
theorem f3nsA (p : Int) (n c t e : Nat) (m8 : Int) (f : Nat → Mv) (ts : Nat → Int) (R : ARes → Prop) : (vx.call 3 [hV p n c, nilS, slV 2 t e, U8 m8] (retK R) ⟨fillX [.cells (mvs n f) 1 .ro, .dead, .cells (u8s t ts) 2 .ro] 0 .nil, 3⟩ ((17, .val (.bool false)) :: (4, Hint.con ((C21 p n c f).when (ARes.ret (Value.bool true)))) :: (6, Hint.conN (C13n p n c f)) :: (6, Hint.loopW T3a (AExit.exit (0 : Nat)) T3b fun x => { hs := { vs := [U8 m8, I (↑n : Int), I (↑n : Int), I p], ns := [(t, e), (n, n), (n, n), (n, c), (n, c)] }, ls := [mvs n f, u8s t ts, ints n (planG (0 : Nat) fun _ => (0 : Int)), ints n (longF t ts f)], es := [] }) :: (3, Hint.conN (C14 p n c n n f (planG (0 : Nat) fun _ => (0 : Int)) (longF t ts f))) :: (3, Hint.conN (C15 p n c n f (planG (0 : Nat) fun _ => (0 : Int)))) :: (7, Hint.con ((C16 true p n c n n f (planG (0 : Nat) fun _ => (0 : Int))).when (ARes.ret (Value.tuple { toList := [I (0 : Int), I (0 : Int), I (4 : Int)] })))) :: (9, Hint.con ((C16 false p n c n n f (planG (0 : Nat) fun _ => (0 : Int))).when (ARes.ret (Value.tuple { toList := [I (0 : Int), I (0 : Int), I (4 : Int)] })))) :: (14, .val (.bool false)) :: (36, Hint.loopW T3c (AExit.exit (2 : Nat)) T3c fun x => { hs := { vs := [I (4 : Int), I (4 : Int), Value.bool (allQ p n f (planG (0 : Nat) fun _ => (0 : Int)) (longF t ts f) n), I ((IntKind.i64.wrap m8).tmod (221 : Int)), I (↑(cntN (undB ((IntKind.i64.wrap m8).tmod (221 : Int)) f (longF t ts f)) n) : Int), I (↑n : Int), I (↑n : Int), I p], ns := [(n, n), (n, n), (n, n), (n, n), (n, c), (n, c)] }, ls := [mvs n f, ints n (planG (0 : Nat) fun _ => (0 : Int)), ints n (longF t ts f), ints n (begS p n f (planG (0 : Nat) fun _ => (0 : Int)) (longF t ts f)), spansC n (latS false p n f (planG (0 : Nat) fun _ => (0 : Int))) (latS true p n f (planG (0 : Nat) fun _ => (0 : Int)))], es := [] }) :: (2, Hint.con (C19 p ((IntKind.i64.wrap m8).tmod (221 : Int)) n c f (busyV ((IntKind.i64.wrap m8).tmod (221 : Int)) n f))) :: [(6, .split ([(6, .split ([(11, .split ([(5, .split ((2, Hint.con C12) :: []) ([]))]) ([]))]) ([]))]) ([(4, .split ([(11, .split ([(5, .split ((2, Hint.con C12) :: []) ([]))]) ([]))]) ([]))]))])) =
(((((some (.bool (decide ((if (↑(0 : Nat) : Int) > (↑n : Int) then (↑(0 : Nat) : Int) else (↑n : Int)) > (40 : Int)))) : Option Value) = some (.bool false))) ∧
((ConOK Try.prog ((21 : Nat)) ((C21 p n c f).when (ARes.ret (Value.bool true)))) ∧ (Con.pre ((C21 p n c f).when (ARes.ret (Value.bool true))) ⟨⟨[(.int .i64 (p))], [⟨(n), (c)⟩]⟩, [(mvs n f)]⟩) ∧ 
((ConNOK Try.prog ((13 : Nat)) (C13n p n c f)) ∧ (ConN.pre (C13n p n c f) ⟨⟨[(.int .i64 (p))], [⟨(n), (c)⟩]⟩, [(mvs n f)]⟩) ∧ 
((ClW ⟨⟨[(.int .u8 (m8)), (.int .i64 ((↑n : Int))), (.int .i64 ((0 : Int))), (.int .i64 (p))], [⟨(t), (e)⟩, ⟨(n), (n)⟩, ⟨(n), (c)⟩, ⟨(n), (c)⟩]⟩, [(mvs n f), (u8s t ts), (ints n (planG (0 : Nat) fun _ => (0 : Int)))], []⟩) ∧ (LoopOW Try.prog .none p3a (T3a) ⟨⟨[(.int .u8 (m8)), (.int .i64 ((↑n : Int))), (.int .i64 ((0 : Int))), (.int .i64 (p))], [⟨(t), (e)⟩, ⟨(n), (n)⟩, ⟨(n), (c)⟩, ⟨(n), (c)⟩]⟩, [(mvs n f), (u8s t ts), (ints n (planG (0 : Nat) fun _ => (0 : Int)))], []⟩ (.exit ((0 : Nat))) (T3b) ⟨⟨[(.int .u8 (m8)), (.int .i64 ((↑n : Int))), (.int .i64 ((↑n : Int))), (.int .i64 (p))], [⟨(t), (e)⟩, ⟨(n), (n)⟩, ⟨(n), (n)⟩, ⟨(n), (c)⟩, ⟨(n), (c)⟩]⟩, [(mvs n f), (u8s t ts), (ints n (planG (0 : Nat) fun _ => (0 : Int))), (ints n (longF t ts f))], []⟩) ∧ 
((ConNOK Try.prog ((14 : Nat)) (C14 p n c n n f (planG (0 : Nat) fun _ => (0 : Int)) (longF t ts f))) ∧ (ConN.pre (C14 p n c n n f (planG (0 : Nat) fun _ => (0 : Int)) (longF t ts f)) ⟨⟨[(.int .i64 (p))], [⟨(n), (c)⟩, ⟨(n), (n)⟩, ⟨(n), (n)⟩]⟩, [(mvs n f), (ints n (planG (0 : Nat) fun _ => (0 : Int))), (ints n (longF t ts f))]⟩) ∧ 
((ConNOK Try.prog ((15 : Nat)) (C15 p n c n f (planG (0 : Nat) fun _ => (0 : Int)))) ∧ (ConN.pre (C15 p n c n f (planG (0 : Nat) fun _ => (0 : Int))) ⟨⟨[(.int .i64 (p))], [⟨(n), (c)⟩, ⟨(n), (n)⟩]⟩, [(mvs n f), (ints n (planG (0 : Nat) fun _ => (0 : Int)))]⟩) ∧ 
((ConOK Try.prog ((16 : Nat)) ((C16 true p n c n n f (planG (0 : Nat) fun _ => (0 : Int))).when (ARes.ret (Value.tuple { toList := [I (0 : Int), I (0 : Int), I (4 : Int)] })))) ∧ (Con.pre ((C16 true p n c n n f (planG (0 : Nat) fun _ => (0 : Int))).when (ARes.ret (Value.tuple { toList := [I (0 : Int), I (0 : Int), I (4 : Int)] }))) ⟨⟨[(.int .i64 (p)), (.bool true)], [⟨(n), (c)⟩, ⟨(n), (n)⟩]⟩, [(mvs n f), (ints n (planG (0 : Nat) fun _ => (0 : Int)))]⟩) ∧ 
((ConOK Try.prog ((16 : Nat)) ((C16 false p n c n n f (planG (0 : Nat) fun _ => (0 : Int))).when (ARes.ret (Value.tuple { toList := [I (0 : Int), I (0 : Int), I (4 : Int)] })))) ∧ (Con.pre ((C16 false p n c n n f (planG (0 : Nat) fun _ => (0 : Int))).when (ARes.ret (Value.tuple { toList := [I (0 : Int), I (0 : Int), I (4 : Int)] }))) ⟨⟨[(.int .i64 (p)), (.bool false)], [⟨(n), (c)⟩, ⟨(n), (n)⟩]⟩, [(mvs n f), (ints n (planG (0 : Nat) fun _ => (0 : Int)))]⟩) ∧ 
((((some (.bool ((↑n : Int) != (↑n : Int))) : Option Value) = some (.bool false))) ∧
((ClW ⟨⟨[(.int .i64 ((4 : Int))), (.int .i64 ((4 : Int))), (.bool true), (.int .i64 ((IntKind.i64.wrap m8).tmod (221 : Int))), (.int .i64 ((0 : Int))), (.int .i64 ((↑n : Int))), (.int .i64 ((0 : Int))), (.int .i64 (p))], [⟨(n), (n)⟩, ⟨(n), (n)⟩, ⟨(n), (n)⟩, ⟨(n), (n)⟩, ⟨(n), (c)⟩, ⟨(n), (c)⟩]⟩, [(mvs n f), (ints n (planG (0 : Nat) fun _ => (0 : Int))), (ints n (longF t ts f)), (ints n (begS p n f (planG (0 : Nat) fun _ => (0 : Int)) (longF t ts f))), (spansC n (latS false p n f (planG (0 : Nat) fun _ => (0 : Int))) (latS true p n f (planG (0 : Nat) fun _ => (0 : Int))))], []⟩) ∧ (LoopOW Try.prog .none p3c (T3c) ⟨⟨[(.int .i64 ((4 : Int))), (.int .i64 ((4 : Int))), (.bool true), (.int .i64 ((IntKind.i64.wrap m8).tmod (221 : Int))), (.int .i64 ((0 : Int))), (.int .i64 ((↑n : Int))), (.int .i64 ((0 : Int))), (.int .i64 (p))], [⟨(n), (n)⟩, ⟨(n), (n)⟩, ⟨(n), (n)⟩, ⟨(n), (n)⟩, ⟨(n), (c)⟩, ⟨(n), (c)⟩]⟩, [(mvs n f), (ints n (planG (0 : Nat) fun _ => (0 : Int))), (ints n (longF t ts f)), (ints n (begS p n f (planG (0 : Nat) fun _ => (0 : Int)) (longF t ts f))), (spansC n (latS false p n f (planG (0 : Nat) fun _ => (0 : Int))) (latS true p n f (planG (0 : Nat) fun _ => (0 : Int))))], []⟩ (.exit ((2 : Nat))) (T3c) ⟨⟨[(.int .i64 ((4 : Int))), (.int .i64 ((4 : Int))), (.bool (allQ p n f (planG (0 : Nat) fun _ => (0 : Int)) (longF t ts f) n)), (.int .i64 ((IntKind.i64.wrap m8).tmod (OfNat.ofNat (221 : Nat)))), (.int .i64 ((↑(cntN (undB ((IntKind.i64.wrap m8).tmod (OfNat.ofNat (221 : Nat))) f (longF t ts f)) n) : Int))), (.int .i64 ((↑n : Int))), (.int .i64 ((↑n : Int))), (.int .i64 (p))], [⟨(n), (n)⟩, ⟨(n), (n)⟩, ⟨(n), (n)⟩, ⟨(n), (n)⟩, ⟨(n), (c)⟩, ⟨(n), (c)⟩]⟩, [(mvs n f), (ints n (planG (0 : Nat) fun _ => (0 : Int))), (ints n (longF t ts f)), (ints n (begS p n f (planG (0 : Nat) fun _ => (0 : Int)) (longF t ts f))), (spansC n (latS false p n f (planG (0 : Nat) fun _ => (0 : Int))) (latS true p n f (planG (0 : Nat) fun _ => (0 : Int))))], []⟩) ∧ 
((ConOK Try.prog ((19 : Nat)) (C19 p ((IntKind.i64.wrap m8).tmod (OfNat.ofNat (221 : Nat))) n c f (busyV ((IntKind.i64.wrap m8).tmod (OfNat.ofNat (221 : Nat))) n f))) ∧ (Con.pre (C19 p ((IntKind.i64.wrap m8).tmod (OfNat.ofNat (221 : Nat))) n c f (busyV ((IntKind.i64.wrap m8).tmod (OfNat.ofNat (221 : Nat))) n f)) ⟨⟨[(.int .i64 (p)), (.int .i64 ((IntKind.i64.wrap m8).tmod (OfNat.ofNat (221 : Nat))))], [⟨(n), (c)⟩]⟩, [(mvs n f)]⟩) ∧ 
(((allQ p n f (planG (0 : Nat) fun _ => (0 : Int)) (longF t ts f) n) = true → (((allQ p n f (planG (0 : Nat) fun _ => (0 : Int)) (longF t ts f) n) = true → (((decide ((↑(cntN (undB ((IntKind.i64.wrap m8).tmod (OfNat.ofNat (221 : Nat))) f (lgS false f)) n) : Int) ≤ (↑(cntN (undB ((IntKind.i64.wrap m8).tmod (OfNat.ofNat (221 : Nat))) f (longF t ts f)) n) : Int))) = true → (((decide ((↑(cntN (undB ((IntKind.i64.wrap m8).tmod (OfNat.ofNat (221 : Nat))) f (longF t ts f)) n) : Int) ≤ (↑(cntN (undB ((IntKind.i64.wrap m8).tmod (OfNat.ofNat (221 : Nat))) f (lgS true f)) n) : Int))) = true → ((ConOK Try.prog ((12 : Nat)) (C12)) ∧ (Con.pre (C12) ⟨⟨[], []⟩, []⟩) ∧ 
R (.ret (.bool true)))) ∧
((decide ((↑(cntN (undB ((IntKind.i64.wrap m8).tmod (OfNat.ofNat (221 : Nat))) f (longF t ts f)) n) : Int) ≤ (↑(cntN (undB ((IntKind.i64.wrap m8).tmod (OfNat.ofNat (221 : Nat))) f (lgS true f)) n) : Int))) = false → R (.ret (.bool false))))) ∧
((decide ((↑(cntN (undB ((IntKind.i64.wrap m8).tmod (OfNat.ofNat (221 : Nat))) f (lgS false f)) n) : Int) ≤ (↑(cntN (undB ((IntKind.i64.wrap m8).tmod (OfNat.ofNat (221 : Nat))) f (longF t ts f)) n) : Int))) = false → R (.ret (.bool false))))) ∧
((allQ p n f (planG (0 : Nat) fun _ => (0 : Int)) (longF t ts f) n) = false → R (.ret (.bool false))))) ∧
((allQ p n f (planG (0 : Nat) fun _ => (0 : Int)) (longF t ts f) n) = false → (((allQ p n f (planG (0 : Nat) fun _ => (0 : Int)) (longF t ts f) n) = true → (((decide ((↑(cntN (undB ((IntKind.i64.wrap m8).tmod (OfNat.ofNat (221 : Nat))) f (lgS false f)) n) : Int) ≤ (↑(cntN (undB ((IntKind.i64.wrap m8).tmod (OfNat.ofNat (221 : Nat))) f (longF t ts f)) n) : Int))) = true → (((decide ((↑(cntN (undB ((IntKind.i64.wrap m8).tmod (OfNat.ofNat (221 : Nat))) f (longF t ts f)) n) : Int) ≤ (↑(cntN (undB ((IntKind.i64.wrap m8).tmod (OfNat.ofNat (221 : Nat))) f (lgS true f)) n) : Int))) = true → ((ConOK Try.prog ((12 : Nat)) (C12)) ∧ (Con.pre (C12) ⟨⟨[], []⟩, []⟩) ∧ 
R (.ret (.bool true)))) ∧
((decide ((↑(cntN (undB ((IntKind.i64.wrap m8).tmod (OfNat.ofNat (221 : Nat))) f (longF t ts f)) n) : Int) ≤ (↑(cntN (undB ((IntKind.i64.wrap m8).tmod (OfNat.ofNat (221 : Nat))) f (lgS true f)) n) : Int))) = false → R (.ret (.bool false))))) ∧
((decide ((↑(cntN (undB ((IntKind.i64.wrap m8).tmod (OfNat.ofNat (221 : Nat))) f (lgS false f)) n) : Int) ≤ (↑(cntN (undB ((IntKind.i64.wrap m8).tmod (OfNat.ofNat (221 : Nat))) f (longF t ts f)) n) : Int))) = false → R (.ret (.bool false))))) ∧
((allQ p n f (planG (0 : Nat) fun _ => (0 : Int)) (longF t ts f) n) = false → R (.ret (.bool false)))))))))))))))))) := by kernel_rfl

theorem f3nsB (p : Int) (n c t e : Nat) (m8 : Int) (f : Nat → Mv) (ts : Nat → Int) (a1 b1 : Int) (R : ARes → Prop) : (vx.call 3 [hV p n c, nilS, slV 2 t e, U8 m8] (retK R) ⟨fillX [.cells (mvs n f) 1 .ro, .dead, .cells (u8s t ts) 2 .ro] 0 .nil, 3⟩ ((17, .val (.bool false)) :: (4, Hint.con ((C21 p n c f).when (ARes.ret (Value.bool true)))) :: (6, Hint.conN (C13n p n c f)) :: (6, Hint.loopW T3a (AExit.exit (0 : Nat)) T3b fun x => { hs := { vs := [U8 m8, I (↑n : Int), I (↑n : Int), I p], ns := [(t, e), (n, n), (n, n), (n, c), (n, c)] }, ls := [mvs n f, u8s t ts, ints n (planG (0 : Nat) fun _ => (0 : Int)), ints n (longF t ts f)], es := [] }) :: (3, Hint.conN (C14 p n c n n f (planG (0 : Nat) fun _ => (0 : Int)) (longF t ts f))) :: (3, Hint.conN (C15 p n c n f (planG (0 : Nat) fun _ => (0 : Int)))) :: (7, Hint.con ((C16 true p n c n n f (planG (0 : Nat) fun _ => (0 : Int))).when (ARes.ret (Value.tuple { toList := [I a1, I b1, I (0 : Int)] })))) :: (9, Hint.con ((C16 false p n c n n f (planG (0 : Nat) fun _ => (0 : Int))).when (ARes.ret (Value.tuple { toList := [I (0 : Int), I (0 : Int), I (4 : Int)] })))) :: (14, .val (.bool false)) :: (32, Hint.loopW T3c (AExit.exit (2 : Nat)) T3c fun x => { hs := { vs := [I (0 : Int), I (4 : Int), Value.bool (allQ p n f (planG (0 : Nat) fun _ => (0 : Int)) (longF t ts f) n), I ((IntKind.i64.wrap m8).tmod (221 : Int)), I (↑(cntN (undB ((IntKind.i64.wrap m8).tmod (221 : Int)) f (longF t ts f)) n) : Int), I (↑n : Int), I (↑n : Int), I p], ns := [(n, n), (n, n), (n, n), (n, n), (n, c), (n, c)] }, ls := [mvs n f, ints n (planG (0 : Nat) fun _ => (0 : Int)), ints n (longF t ts f), ints n (begS p n f (planG (0 : Nat) fun _ => (0 : Int)) (longF t ts f)), spansC n (latS false p n f (planG (0 : Nat) fun _ => (0 : Int))) (latS true p n f (planG (0 : Nat) fun _ => (0 : Int)))], es := [] }) :: (2, Hint.con (C19 p ((IntKind.i64.wrap m8).tmod (221 : Int)) n c f (busyV ((IntKind.i64.wrap m8).tmod (221 : Int)) n f))) :: [(6, .split ([(6, .split ([(11, .split ([(5, .split ((2, Hint.con C12) :: []) ([]))]) ([]))]) ([(13, .split ([(5, .split ((2, Hint.con C12) :: []) ([]))]) ([]))]))]) ([(4, .split ([(11, .split ([(5, .split ((2, Hint.con C12) :: []) ([]))]) ([]))]) ([(13, .split ([(5, .split ((2, Hint.con C12) :: []) ([]))]) ([]))]))]))])) =
(((((some (.bool (decide ((if (↑(0 : Nat) : Int) > (↑n : Int) then (↑(0 : Nat) : Int) else (↑n : Int)) > (40 : Int)))) : Option Value) = some (.bool false))) ∧
((ConOK Try.prog ((21 : Nat)) ((C21 p n c f).when (ARes.ret (Value.bool true)))) ∧ (Con.pre ((C21 p n c f).when (ARes.ret (Value.bool true))) ⟨⟨[(.int .i64 (p))], [⟨(n), (c)⟩]⟩, [(mvs n f)]⟩) ∧ 
((ConNOK Try.prog ((13 : Nat)) (C13n p n c f)) ∧ (ConN.pre (C13n p n c f) ⟨⟨[(.int .i64 (p))], [⟨(n), (c)⟩]⟩, [(mvs n f)]⟩) ∧ 
((ClW ⟨⟨[(.int .u8 (m8)), (.int .i64 ((↑n : Int))), (.int .i64 ((0 : Int))), (.int .i64 (p))], [⟨(t), (e)⟩, ⟨(n), (n)⟩, ⟨(n), (c)⟩, ⟨(n), (c)⟩]⟩, [(mvs n f), (u8s t ts), (ints n (planG (0 : Nat) fun _ => (0 : Int)))], []⟩) ∧ (LoopOW Try.prog .none p3a (T3a) ⟨⟨[(.int .u8 (m8)), (.int .i64 ((↑n : Int))), (.int .i64 ((0 : Int))), (.int .i64 (p))], [⟨(t), (e)⟩, ⟨(n), (n)⟩, ⟨(n), (c)⟩, ⟨(n), (c)⟩]⟩, [(mvs n f), (u8s t ts), (ints n (planG (0 : Nat) fun _ => (0 : Int)))], []⟩ (.exit ((0 : Nat))) (T3b) ⟨⟨[(.int .u8 (m8)), (.int .i64 ((↑n : Int))), (.int .i64 ((↑n : Int))), (.int .i64 (p))], [⟨(t), (e)⟩, ⟨(n), (n)⟩, ⟨(n), (n)⟩, ⟨(n), (c)⟩, ⟨(n), (c)⟩]⟩, [(mvs n f), (u8s t ts), (ints n (planG (0 : Nat) fun _ => (0 : Int))), (ints n (longF t ts f))], []⟩) ∧ 
((ConNOK Try.prog ((14 : Nat)) (C14 p n c n n f (planG (0 : Nat) fun _ => (0 : Int)) (longF t ts f))) ∧ (ConN.pre (C14 p n c n n f (planG (0 : Nat) fun _ => (0 : Int)) (longF t ts f)) ⟨⟨[(.int .i64 (p))], [⟨(n), (c)⟩, ⟨(n), (n)⟩, ⟨(n), (n)⟩]⟩, [(mvs n f), (ints n (planG (0 : Nat) fun _ => (0 : Int))), (ints n (longF t ts f))]⟩) ∧ 
((ConNOK Try.prog ((15 : Nat)) (C15 p n c n f (planG (0 : Nat) fun _ => (0 : Int)))) ∧ (ConN.pre (C15 p n c n f (planG (0 : Nat) fun _ => (0 : Int))) ⟨⟨[(.int .i64 (p))], [⟨(n), (c)⟩, ⟨(n), (n)⟩]⟩, [(mvs n f), (ints n (planG (0 : Nat) fun _ => (0 : Int)))]⟩) ∧ 
((ConOK Try.prog ((16 : Nat)) ((C16 true p n c n n f (planG (0 : Nat) fun _ => (0 : Int))).when (ARes.ret (Value.tuple { toList := [I a1, I b1, I (0 : Int)] })))) ∧ (Con.pre ((C16 true p n c n n f (planG (0 : Nat) fun _ => (0 : Int))).when (ARes.ret (Value.tuple { toList := [I a1, I b1, I (0 : Int)] }))) ⟨⟨[(.int .i64 (p)), (.bool true)], [⟨(n), (c)⟩, ⟨(n), (n)⟩]⟩, [(mvs n f), (ints n (planG (0 : Nat) fun _ => (0 : Int)))]⟩) ∧ 
((ConOK Try.prog ((16 : Nat)) ((C16 false p n c n n f (planG (0 : Nat) fun _ => (0 : Int))).when (ARes.ret (Value.tuple { toList := [I (0 : Int), I (0 : Int), I (4 : Int)] })))) ∧ (Con.pre ((C16 false p n c n n f (planG (0 : Nat) fun _ => (0 : Int))).when (ARes.ret (Value.tuple { toList := [I (0 : Int), I (0 : Int), I (4 : Int)] }))) ⟨⟨[(.int .i64 (p)), (.bool false)], [⟨(n), (c)⟩, ⟨(n), (n)⟩]⟩, [(mvs n f), (ints n (planG (0 : Nat) fun _ => (0 : Int)))]⟩) ∧ 
((((some (.bool ((↑n : Int) != (↑n : Int))) : Option Value) = some (.bool false))) ∧
((ClW ⟨⟨[(.int .i64 ((0 : Int))), (.int .i64 ((4 : Int))), (.bool true), (.int .i64 ((IntKind.i64.wrap m8).tmod (221 : Int))), (.int .i64 ((0 : Int))), (.int .i64 ((↑n : Int))), (.int .i64 ((0 : Int))), (.int .i64 (p))], [⟨(n), (n)⟩, ⟨(n), (n)⟩, ⟨(n), (n)⟩, ⟨(n), (n)⟩, ⟨(n), (c)⟩, ⟨(n), (c)⟩]⟩, [(mvs n f), (ints n (planG (0 : Nat) fun _ => (0 : Int))), (ints n (longF t ts f)), (ints n (begS p n f (planG (0 : Nat) fun _ => (0 : Int)) (longF t ts f))), (spansC n (latS false p n f (planG (0 : Nat) fun _ => (0 : Int))) (latS true p n f (planG (0 : Nat) fun _ => (0 : Int))))], []⟩) ∧ (LoopOW Try.prog .none p3c (T3c) ⟨⟨[(.int .i64 ((0 : Int))), (.int .i64 ((4 : Int))), (.bool true), (.int .i64 ((IntKind.i64.wrap m8).tmod (221 : Int))), (.int .i64 ((0 : Int))), (.int .i64 ((↑n : Int))), (.int .i64 ((0 : Int))), (.int .i64 (p))], [⟨(n), (n)⟩, ⟨(n), (n)⟩, ⟨(n), (n)⟩, ⟨(n), (n)⟩, ⟨(n), (c)⟩, ⟨(n), (c)⟩]⟩, [(mvs n f), (ints n (planG (0 : Nat) fun _ => (0 : Int))), (ints n (longF t ts f)), (ints n (begS p n f (planG (0 : Nat) fun _ => (0 : Int)) (longF t ts f))), (spansC n (latS false p n f (planG (0 : Nat) fun _ => (0 : Int))) (latS true p n f (planG (0 : Nat) fun _ => (0 : Int))))], []⟩ (.exit ((2 : Nat))) (T3c) ⟨⟨[(.int .i64 ((0 : Int))), (.int .i64 ((4 : Int))), (.bool (allQ p n f (planG (0 : Nat) fun _ => (0 : Int)) (longF t ts f) n)), (.int .i64 ((IntKind.i64.wrap m8).tmod (OfNat.ofNat (221 : Nat)))), (.int .i64 ((↑(cntN (undB ((IntKind.i64.wrap m8).tmod (OfNat.ofNat (221 : Nat))) f (longF t ts f)) n) : Int))), (.int .i64 ((↑n : Int))), (.int .i64 ((↑n : Int))), (.int .i64 (p))], [⟨(n), (n)⟩, ⟨(n), (n)⟩, ⟨(n), (n)⟩, ⟨(n), (n)⟩, ⟨(n), (c)⟩, ⟨(n), (c)⟩]⟩, [(mvs n f), (ints n (planG (0 : Nat) fun _ => (0 : Int))), (ints n (longF t ts f)), (ints n (begS p n f (planG (0 : Nat) fun _ => (0 : Int)) (longF t ts f))), (spansC n (latS false p n f (planG (0 : Nat) fun _ => (0 : Int))) (latS true p n f (planG (0 : Nat) fun _ => (0 : Int))))], []⟩) ∧ 
((ConOK Try.prog ((19 : Nat)) (C19 p ((IntKind.i64.wrap m8).tmod (OfNat.ofNat (221 : Nat))) n c f (busyV ((IntKind.i64.wrap m8).tmod (OfNat.ofNat (221 : Nat))) n f))) ∧ (Con.pre (C19 p ((IntKind.i64.wrap m8).tmod (OfNat.ofNat (221 : Nat))) n c f (busyV ((IntKind.i64.wrap m8).tmod (OfNat.ofNat (221 : Nat))) n f)) ⟨⟨[(.int .i64 (p)), (.int .i64 ((IntKind.i64.wrap m8).tmod (OfNat.ofNat (221 : Nat))))], [⟨(n), (c)⟩]⟩, [(mvs n f)]⟩) ∧ 
(((allQ p n f (planG (0 : Nat) fun _ => (0 : Int)) (longF t ts f) n) = true → (((allQ p n f (planG (0 : Nat) fun _ => (0 : Int)) (longF t ts f) n) = true → (((decide ((↑(cntN (undB ((IntKind.i64.wrap m8).tmod (OfNat.ofNat (221 : Nat))) f (lgS false f)) n) : Int) ≤ (↑(cntN (undB ((IntKind.i64.wrap m8).tmod (OfNat.ofNat (221 : Nat))) f (longF t ts f)) n) : Int))) = true → (((decide ((↑(cntN (undB ((IntKind.i64.wrap m8).tmod (OfNat.ofNat (221 : Nat))) f (longF t ts f)) n) : Int) ≤ (↑(cntN (undB ((IntKind.i64.wrap m8).tmod (OfNat.ofNat (221 : Nat))) f (lgS true f)) n) : Int))) = true → ((ConOK Try.prog ((12 : Nat)) (C12)) ∧ (Con.pre (C12) ⟨⟨[], []⟩, []⟩) ∧ 
R (.ret (.bool true)))) ∧
((decide ((↑(cntN (undB ((IntKind.i64.wrap m8).tmod (OfNat.ofNat (221 : Nat))) f (longF t ts f)) n) : Int) ≤ (↑(cntN (undB ((IntKind.i64.wrap m8).tmod (OfNat.ofNat (221 : Nat))) f (lgS true f)) n) : Int))) = false → R (.ret (.bool false))))) ∧
((decide ((↑(cntN (undB ((IntKind.i64.wrap m8).tmod (OfNat.ofNat (221 : Nat))) f (lgS false f)) n) : Int) ≤ (↑(cntN (undB ((IntKind.i64.wrap m8).tmod (OfNat.ofNat (221 : Nat))) f (longF t ts f)) n) : Int))) = false → R (.ret (.bool false))))) ∧
((allQ p n f (planG (0 : Nat) fun _ => (0 : Int)) (longF t ts f) n) = false → (((decide ((↑(cntN (undB ((IntKind.i64.wrap m8).tmod (OfNat.ofNat (221 : Nat))) f (lgS false f)) n) : Int) ≤ (↑(cntN (undB ((IntKind.i64.wrap m8).tmod (OfNat.ofNat (221 : Nat))) f (longF t ts f)) n) : Int))) = true → (((decide ((↑(cntN (undB ((IntKind.i64.wrap m8).tmod (OfNat.ofNat (221 : Nat))) f (longF t ts f)) n) : Int) ≤ (↑(cntN (undB ((IntKind.i64.wrap m8).tmod (OfNat.ofNat (221 : Nat))) f (lgS true f)) n) : Int))) = true → ((ConOK Try.prog ((12 : Nat)) (C12)) ∧ (Con.pre (C12) ⟨⟨[], []⟩, []⟩) ∧ 
R (.ret (.bool true)))) ∧
((decide ((↑(cntN (undB ((IntKind.i64.wrap m8).tmod (OfNat.ofNat (221 : Nat))) f (longF t ts f)) n) : Int) ≤ (↑(cntN (undB ((IntKind.i64.wrap m8).tmod (OfNat.ofNat (221 : Nat))) f (lgS true f)) n) : Int))) = false → R (.ret (.bool false))))) ∧
((decide ((↑(cntN (undB ((IntKind.i64.wrap m8).tmod (OfNat.ofNat (221 : Nat))) f (lgS false f)) n) : Int) ≤ (↑(cntN (undB ((IntKind.i64.wrap m8).tmod (OfNat.ofNat (221 : Nat))) f (longF t ts f)) n) : Int))) = false → R (.ret (.bool false))))))) ∧
((allQ p n f (planG (0 : Nat) fun _ => (0 : Int)) (longF t ts f) n) = false → (((allQ p n f (planG (0 : Nat) fun _ => (0 : Int)) (longF t ts f) n) = true → (((decide ((↑(cntN (undB ((IntKind.i64.wrap m8).tmod (OfNat.ofNat (221 : Nat))) f (lgS false f)) n) : Int) ≤ (↑(cntN (undB ((IntKind.i64.wrap m8).tmod (OfNat.ofNat (221 : Nat))) f (longF t ts f)) n) : Int))) = true → (((decide ((↑(cntN (undB ((IntKind.i64.wrap m8).tmod (OfNat.ofNat (221 : Nat))) f (longF t ts f)) n) : Int) ≤ (↑(cntN (undB ((IntKind.i64.wrap m8).tmod (OfNat.ofNat (221 : Nat))) f (lgS true f)) n) : Int))) = true → ((ConOK Try.prog ((12 : Nat)) (C12)) ∧ (Con.pre (C12) ⟨⟨[], []⟩, []⟩) ∧ 
R (.ret (.bool true)))) ∧
((decide ((↑(cntN (undB ((IntKind.i64.wrap m8).tmod (OfNat.ofNat (221 : Nat))) f (longF t ts f)) n) : Int) ≤ (↑(cntN (undB ((IntKind.i64.wrap m8).tmod (OfNat.ofNat (221 : Nat))) f (lgS true f)) n) : Int))) = false → R (.ret (.bool false))))) ∧
((decide ((↑(cntN (undB ((IntKind.i64.wrap m8).tmod (OfNat.ofNat (221 : Nat))) f (lgS false f)) n) : Int) ≤ (↑(cntN (undB ((IntKind.i64.wrap m8).tmod (OfNat.ofNat (221 : Nat))) f (longF t ts f)) n) : Int))) = false → R (.ret (.bool false))))) ∧
((allQ p n f (planG (0 : Nat) fun _ => (0 : Int)) (longF t ts f) n) = false → (((decide ((↑(cntN (undB ((IntKind.i64.wrap m8).tmod (OfNat.ofNat (221 : Nat))) f (lgS false f)) n) : Int) ≤ (↑(cntN (undB ((IntKind.i64.wrap m8).tmod (OfNat.ofNat (221 : Nat))) f (longF t ts f)) n) : Int))) = true → (((decide ((↑(cntN (undB ((IntKind.i64.wrap m8).tmod (OfNat.ofNat (221 : Nat))) f (longF t ts f)) n) : Int) ≤ (↑(cntN (undB ((IntKind.i64.wrap m8).tmod (OfNat.ofNat (221 : Nat))) f (lgS true f)) n) : Int))) = true → ((ConOK Try.prog ((12 : Nat)) (C12)) ∧ (Con.pre (C12) ⟨⟨[], []⟩, []⟩) ∧ 
R (.ret (.bool true)))) ∧
((decide ((↑(cntN (undB ((IntKind.i64.wrap m8).tmod (OfNat.ofNat (221 : Nat))) f (longF t ts f)) n) : Int) ≤ (↑(cntN (undB ((IntKind.i64.wrap m8).tmod (OfNat.ofNat (221 : Nat))) f (lgS true f)) n) : Int))) = false → R (.ret (.bool false))))) ∧
((decide ((↑(cntN (undB ((IntKind.i64.wrap m8).tmod (OfNat.ofNat (221 : Nat))) f (lgS false f)) n) : Int) ≤ (↑(cntN (undB ((IntKind.i64.wrap m8).tmod (OfNat.ofNat (221 : Nat))) f (longF t ts f)) n) : Int))) = false → R (.ret (.bool false)))))))))))))))))))) := by kernel_rfl

theorem f3nsC (p : Int) (n c t e : Nat) (m8 : Int) (f : Nat → Mv) (ts : Nat → Int) (a1 b1 : Int) (a2 b2 : Int) (R : ARes → Prop) : (vx.call 3 [hV p n c, nilS, slV 2 t e, U8 m8] (retK R) ⟨fillX [.cells (mvs n f) 1 .ro, .dead, .cells (u8s t ts) 2 .ro] 0 .nil, 3⟩ ((17, .val (.bool false)) :: (4, Hint.con ((C21 p n c f).when (ARes.ret (Value.bool true)))) :: (6, Hint.conN (C13n p n c f)) :: (6, Hint.loopW T3a (AExit.exit (0 : Nat)) T3b fun x => { hs := { vs := [U8 m8, I (↑n : Int), I (↑n : Int), I p], ns := [(t, e), (n, n), (n, n), (n, c), (n, c)] }, ls := [mvs n f, u8s t ts, ints n (planG (0 : Nat) fun _ => (0 : Int)), ints n (longF t ts f)], es := [] }) :: (3, Hint.conN (C14 p n c n n f (planG (0 : Nat) fun _ => (0 : Int)) (longF t ts f))) :: (3, Hint.conN (C15 p n c n f (planG (0 : Nat) fun _ => (0 : Int)))) :: (7, Hint.con ((C16 true p n c n n f (planG (0 : Nat) fun _ => (0 : Int))).when (ARes.ret (Value.tuple { toList := [I a1, I b1, I (0 : Int)] })))) :: (9, Hint.con ((C16 false p n c n n f (planG (0 : Nat) fun _ => (0 : Int))).when (ARes.ret (Value.tuple { toList := [I a2, I b2, I (0 : Int)] })))) :: (14, .val (.bool false)) :: (30, Hint.loopW T3c (AExit.exit (2 : Nat)) T3c fun x => { hs := { vs := [I (0 : Int), I (0 : Int), Value.bool (allQ p n f (planG (0 : Nat) fun _ => (0 : Int)) (longF t ts f) n), I ((IntKind.i64.wrap m8).tmod (221 : Int)), I (↑(cntN (undB ((IntKind.i64.wrap m8).tmod (221 : Int)) f (longF t ts f)) n) : Int), I (↑n : Int), I (↑n : Int), I p], ns := [(n, n), (n, n), (n, n), (n, n), (n, c), (n, c)] }, ls := [mvs n f, ints n (planG (0 : Nat) fun _ => (0 : Int)), ints n (longF t ts f), ints n (begS p n f (planG (0 : Nat) fun _ => (0 : Int)) (longF t ts f)), spansC n (latS false p n f (planG (0 : Nat) fun _ => (0 : Int))) (latS true p n f (planG (0 : Nat) fun _ => (0 : Int)))], es := [] }) :: (2, Hint.con (C19 p ((IntKind.i64.wrap m8).tmod (221 : Int)) n c f (busyV ((IntKind.i64.wrap m8).tmod (221 : Int)) n f))) :: [(6, .split ([]) ([(4, .split ([(11, .split ([(5, .split ((2, Hint.con C12) :: []) ([]))]) ([]))]) ([(13, .split ([(5, .split ((2, Hint.con C12) :: []) ([]))]) ([]))]))]))])) =
(((((some (.bool (decide ((if (↑(0 : Nat) : Int) > (↑n : Int) then (↑(0 : Nat) : Int) else (↑n : Int)) > (40 : Int)))) : Option Value) = some (.bool false))) ∧
((ConOK Try.prog ((21 : Nat)) ((C21 p n c f).when (ARes.ret (Value.bool true)))) ∧ (Con.pre ((C21 p n c f).when (ARes.ret (Value.bool true))) ⟨⟨[(.int .i64 (p))], [⟨(n), (c)⟩]⟩, [(mvs n f)]⟩) ∧ 
((ConNOK Try.prog ((13 : Nat)) (C13n p n c f)) ∧ (ConN.pre (C13n p n c f) ⟨⟨[(.int .i64 (p))], [⟨(n), (c)⟩]⟩, [(mvs n f)]⟩) ∧ 
((ClW ⟨⟨[(.int .u8 (m8)), (.int .i64 ((↑n : Int))), (.int .i64 ((0 : Int))), (.int .i64 (p))], [⟨(t), (e)⟩, ⟨(n), (n)⟩, ⟨(n), (c)⟩, ⟨(n), (c)⟩]⟩, [(mvs n f), (u8s t ts), (ints n (planG (0 : Nat) fun _ => (0 : Int)))], []⟩) ∧ (LoopOW Try.prog .none p3a (T3a) ⟨⟨[(.int .u8 (m8)), (.int .i64 ((↑n : Int))), (.int .i64 ((0 : Int))), (.int .i64 (p))], [⟨(t), (e)⟩, ⟨(n), (n)⟩, ⟨(n), (c)⟩, ⟨(n), (c)⟩]⟩, [(mvs n f), (u8s t ts), (ints n (planG (0 : Nat) fun _ => (0 : Int)))], []⟩ (.exit ((0 : Nat))) (T3b) ⟨⟨[(.int .u8 (m8)), (.int .i64 ((↑n : Int))), (.int .i64 ((↑n : Int))), (.int .i64 (p))], [⟨(t), (e)⟩, ⟨(n), (n)⟩, ⟨(n), (n)⟩, ⟨(n), (c)⟩, ⟨(n), (c)⟩]⟩, [(mvs n f), (u8s t ts), (ints n (planG (0 : Nat) fun _ => (0 : Int))), (ints n (longF t ts f))], []⟩) ∧ 
((ConNOK Try.prog ((14 : Nat)) (C14 p n c n n f (planG (0 : Nat) fun _ => (0 : Int)) (longF t ts f))) ∧ (ConN.pre (C14 p n c n n f (planG (0 : Nat) fun _ => (0 : Int)) (longF t ts f)) ⟨⟨[(.int .i64 (p))], [⟨(n), (c)⟩, ⟨(n), (n)⟩, ⟨(n), (n)⟩]⟩, [(mvs n f), (ints n (planG (0 : Nat) fun _ => (0 : Int))), (ints n (longF t ts f))]⟩) ∧ 
((ConNOK Try.prog ((15 : Nat)) (C15 p n c n f (planG (0 : Nat) fun _ => (0 : Int)))) ∧ (ConN.pre (C15 p n c n f (planG (0 : Nat) fun _ => (0 : Int))) ⟨⟨[(.int .i64 (p))], [⟨(n), (c)⟩, ⟨(n), (n)⟩]⟩, [(mvs n f), (ints n (planG (0 : Nat) fun _ => (0 : Int)))]⟩) ∧ 
((ConOK Try.prog ((16 : Nat)) ((C16 true p n c n n f (planG (0 : Nat) fun _ => (0 : Int))).when (ARes.ret (Value.tuple { toList := [I a1, I b1, I (0 : Int)] })))) ∧ (Con.pre ((C16 true p n c n n f (planG (0 : Nat) fun _ => (0 : Int))).when (ARes.ret (Value.tuple { toList := [I a1, I b1, I (0 : Int)] }))) ⟨⟨[(.int .i64 (p)), (.bool true)], [⟨(n), (c)⟩, ⟨(n), (n)⟩]⟩, [(mvs n f), (ints n (planG (0 : Nat) fun _ => (0 : Int)))]⟩) ∧ 
((ConOK Try.prog ((16 : Nat)) ((C16 false p n c n n f (planG (0 : Nat) fun _ => (0 : Int))).when (ARes.ret (Value.tuple { toList := [I a2, I b2, I (0 : Int)] })))) ∧ (Con.pre ((C16 false p n c n n f (planG (0 : Nat) fun _ => (0 : Int))).when (ARes.ret (Value.tuple { toList := [I a2, I b2, I (0 : Int)] }))) ⟨⟨[(.int .i64 (p)), (.bool false)], [⟨(n), (c)⟩, ⟨(n), (n)⟩]⟩, [(mvs n f), (ints n (planG (0 : Nat) fun _ => (0 : Int)))]⟩) ∧ 
((((some (.bool ((↑n : Int) != (↑n : Int))) : Option Value) = some (.bool false))) ∧
((ClW ⟨⟨[(.int .i64 ((0 : Int))), (.int .i64 ((0 : Int))), (.bool true), (.int .i64 ((IntKind.i64.wrap m8).tmod (221 : Int))), (.int .i64 ((0 : Int))), (.int .i64 ((↑n : Int))), (.int .i64 ((0 : Int))), (.int .i64 (p))], [⟨(n), (n)⟩, ⟨(n), (n)⟩, ⟨(n), (n)⟩, ⟨(n), (n)⟩, ⟨(n), (c)⟩, ⟨(n), (c)⟩]⟩, [(mvs n f), (ints n (planG (0 : Nat) fun _ => (0 : Int))), (ints n (longF t ts f)), (ints n (begS p n f (planG (0 : Nat) fun _ => (0 : Int)) (longF t ts f))), (spansC n (latS false p n f (planG (0 : Nat) fun _ => (0 : Int))) (latS true p n f (planG (0 : Nat) fun _ => (0 : Int))))], []⟩) ∧ (LoopOW Try.prog .none p3c (T3c) ⟨⟨[(.int .i64 ((0 : Int))), (.int .i64 ((0 : Int))), (.bool true), (.int .i64 ((IntKind.i64.wrap m8).tmod (221 : Int))), (.int .i64 ((0 : Int))), (.int .i64 ((↑n : Int))), (.int .i64 ((0 : Int))), (.int .i64 (p))], [⟨(n), (n)⟩, ⟨(n), (n)⟩, ⟨(n), (n)⟩, ⟨(n), (n)⟩, ⟨(n), (c)⟩, ⟨(n), (c)⟩]⟩, [(mvs n f), (ints n (planG (0 : Nat) fun _ => (0 : Int))), (ints n (longF t ts f)), (ints n (begS p n f (planG (0 : Nat) fun _ => (0 : Int)) (longF t ts f))), (spansC n (latS false p n f (planG (0 : Nat) fun _ => (0 : Int))) (latS true p n f (planG (0 : Nat) fun _ => (0 : Int))))], []⟩ (.exit ((2 : Nat))) (T3c) ⟨⟨[(.int .i64 ((0 : Int))), (.int .i64 ((0 : Int))), (.bool (allQ p n f (planG (0 : Nat) fun _ => (0 : Int)) (longF t ts f) n)), (.int .i64 ((IntKind.i64.wrap m8).tmod (OfNat.ofNat (221 : Nat)))), (.int .i64 ((↑(cntN (undB ((IntKind.i64.wrap m8).tmod (OfNat.ofNat (221 : Nat))) f (longF t ts f)) n) : Int))), (.int .i64 ((↑n : Int))), (.int .i64 ((↑n : Int))), (.int .i64 (p))], [⟨(n), (n)⟩, ⟨(n), (n)⟩, ⟨(n), (n)⟩, ⟨(n), (n)⟩, ⟨(n), (c)⟩, ⟨(n), (c)⟩]⟩, [(mvs n f), (ints n (planG (0 : Nat) fun _ => (0 : Int))), (ints n (longF t ts f)), (ints n (begS p n f (planG (0 : Nat) fun _ => (0 : Int)) (longF t ts f))), (spansC n (latS false p n f (planG (0 : Nat) fun _ => (0 : Int))) (latS true p n f (planG (0 : Nat) fun _ => (0 : Int))))], []⟩) ∧ 
((ConOK Try.prog ((19 : Nat)) (C19 p ((IntKind.i64.wrap m8).tmod (OfNat.ofNat (221 : Nat))) n c f (busyV ((IntKind.i64.wrap m8).tmod (OfNat.ofNat (221 : Nat))) n f))) ∧ (Con.pre (C19 p ((IntKind.i64.wrap m8).tmod (OfNat.ofNat (221 : Nat))) n c f (busyV ((IntKind.i64.wrap m8).tmod (OfNat.ofNat (221 : Nat))) n f)) ⟨⟨[(.int .i64 (p)), (.int .i64 ((IntKind.i64.wrap m8).tmod (OfNat.ofNat (221 : Nat))))], [⟨(n), (c)⟩]⟩, [(mvs n f)]⟩) ∧ 
(((allQ p n f (planG (0 : Nat) fun _ => (0 : Int)) (longF t ts f) n) = true → R (.ret (.bool false))) ∧
((allQ p n f (planG (0 : Nat) fun _ => (0 : Int)) (longF t ts f) n) = false → (((allQ p n f (planG (0 : Nat) fun _ => (0 : Int)) (longF t ts f) n) = true → (((decide ((↑(cntN (undB ((IntKind.i64.wrap m8).tmod (OfNat.ofNat (221 : Nat))) f (lgS false f)) n) : Int) ≤ (↑(cntN (undB ((IntKind.i64.wrap m8).tmod (OfNat.ofNat (221 : Nat))) f (longF t ts f)) n) : Int))) = true → (((decide ((↑(cntN (undB ((IntKind.i64.wrap m8).tmod (OfNat.ofNat (221 : Nat))) f (longF t ts f)) n) : Int) ≤ (↑(cntN (undB ((IntKind.i64.wrap m8).tmod (OfNat.ofNat (221 : Nat))) f (lgS true f)) n) : Int))) = true → ((ConOK Try.prog ((12 : Nat)) (C12)) ∧ (Con.pre (C12) ⟨⟨[], []⟩, []⟩) ∧ 
R (.ret (.bool true)))) ∧
((decide ((↑(cntN (undB ((IntKind.i64.wrap m8).tmod (OfNat.ofNat (221 : Nat))) f (longF t ts f)) n) : Int) ≤ (↑(cntN (undB ((IntKind.i64.wrap m8).tmod (OfNat.ofNat (221 : Nat))) f (lgS true f)) n) : Int))) = false → R (.ret (.bool false))))) ∧
((decide ((↑(cntN (undB ((IntKind.i64.wrap m8).tmod (OfNat.ofNat (221 : Nat))) f (lgS false f)) n) : Int) ≤ (↑(cntN (undB ((IntKind.i64.wrap m8).tmod (OfNat.ofNat (221 : Nat))) f (longF t ts f)) n) : Int))) = false → R (.ret (.bool false))))) ∧
((allQ p n f (planG (0 : Nat) fun _ => (0 : Int)) (longF t ts f) n) = false → (((decide ((↑(cntN (undB ((IntKind.i64.wrap m8).tmod (OfNat.ofNat (221 : Nat))) f (lgS false f)) n) : Int) ≤ (↑(cntN (undB ((IntKind.i64.wrap m8).tmod (OfNat.ofNat (221 : Nat))) f (longF t ts f)) n) : Int))) = true → (((decide ((↑(cntN (undB ((IntKind.i64.wrap m8).tmod (OfNat.ofNat (221 : Nat))) f (longF t ts f)) n) : Int) ≤ (↑(cntN (undB ((IntKind.i64.wrap m8).tmod (OfNat.ofNat (221 : Nat))) f (lgS true f)) n) : Int))) = true → ((ConOK Try.prog ((12 : Nat)) (C12)) ∧ (Con.pre (C12) ⟨⟨[], []⟩, []⟩) ∧ 
R (.ret (.bool true)))) ∧
((decide ((↑(cntN (undB ((IntKind.i64.wrap m8).tmod (OfNat.ofNat (221 : Nat))) f (longF t ts f)) n) : Int) ≤ (↑(cntN (undB ((IntKind.i64.wrap m8).tmod (OfNat.ofNat (221 : Nat))) f (lgS true f)) n) : Int))) = false → R (.ret (.bool false))))) ∧
((decide ((↑(cntN (undB ((IntKind.i64.wrap m8).tmod (OfNat.ofNat (221 : Nat))) f (lgS false f)) n) : Int) ≤ (↑(cntN (undB ((IntKind.i64.wrap m8).tmod (OfNat.ofNat (221 : Nat))) f (longF t ts f)) n) : Int))) = false → R (.ret (.bool false)))))))))))))))))))) := by kernel_rfl

theorem f3xns (p : Int) (n c t e : Nat) (m8 : Int) (f : Nat → Mv) (ts : Nat → Int) (R : ARes → Prop) : (vx.call 3 [hV p n c, nilS, slV 2 t e, U8 m8] (retK R) ⟨fillX [.cells (mvs n f) 1 .ro, .dead, .cells (u8s t ts) 2 .ro] 0 .nil, 3⟩ ([(17, .split ((7, Hint.con C12) :: []) ((4, Hint.con ((C21 p n c f).when (ARes.ret (Value.bool false)))) :: (4, Hint.con C12) :: []))])) =
((((decide ((if (↑(0 : Nat) : Int) > (↑n : Int) then (↑(0 : Nat) : Int) else (↑n : Int)) > (40 : Int))) = true → ((ConOK Try.prog ((12 : Nat)) (C12)) ∧ (Con.pre (C12) ⟨⟨[], []⟩, []⟩) ∧ 
R (.ret (.bool true)))) ∧
((decide ((if (↑(0 : Nat) : Int) > (↑n : Int) then (↑(0 : Nat) : Int) else (↑n : Int)) > (40 : Int))) = false → ((ConOK Try.prog ((21 : Nat)) ((C21 p n c f).when (ARes.ret (Value.bool false)))) ∧ (Con.pre ((C21 p n c f).when (ARes.ret (Value.bool false))) ⟨⟨[(.int .i64 (p))], [⟨(n), (c)⟩]⟩, [(mvs n f)]⟩) ∧ 
((ConOK Try.prog ((12 : Nat)) (C12)) ∧ (Con.pre (C12) ⟨⟨[], []⟩, []⟩) ∧ 
R (.ret (.bool true))))))) := by kernel_rfl

set_option maxHeartbeats 4000000 in
theorem law3ns (p : Int) (n c t e : Nat) (m8 : Int) (f : Nat → Mv) (ts : Nat → Int) (h0 : 0 < n) (hn : n ≤ 1000000) (ht : ∀ i, i < t → 0 ≤ ts i ∧ ts i < 256) (hm8 : 0 ≤ m8 ∧ m8 < 256) :
    ∃ hs, vx.call 3 [hV p n c, nilS, slV 2 t e, U8 m8] (retK fun r => r = .ret (.bool true)) ⟨fillX [.cells (mvs n f) 1 .ro, .dead, .cells (u8s t ts) 2 .ro] 0 .nil, 3⟩ hs := by
  have hwhen : ∀ r, ConOK Try.prog 21 ((C21 p n c f).when r) := fun r => con_when (C21_ok p n c f hn) r
  have key : ∀ R : ARes → Prop, R (.ret (.bool true)) → ∃ hs, vx.call 3 [hV p n c, nilS, slV 2 t e, U8 m8] (retK R) ⟨fillX [.cells (mvs n f) 1 .ro, .dead, .cells (u8s t ts) 2 .ro] 0 .nil, 3⟩ hs := by
    intro R hR
    cases hok : okH p n f with
    | false =>
      have hr : (C21 p n c f).res ⟨⟨[I p], [(n, c)]⟩, [mvs n f]⟩ = .ret (.bool false) := by show ARes.ret (.bool (okH p n f)) = _; rw [hok]
      exact ⟨_, (f3xns p n c t e m8 f ts R).mpr ⟨fun _ => ⟨C12_ok, rfl, hR⟩, fun _ => ⟨hwhen _, ⟨rfl, hr⟩, C12_ok, rfl, hR⟩⟩⟩
    | true =>
      have hr : (C21 p n c f).res ⟨⟨[I p], [(n, c)]⟩, [mvs n f]⟩ = .ret (.bool true) := by show ARes.ret (.bool (okH p n f)) = _; rw [hok]
      have h7 := (okH_iff hok).n7
      have hpl : okP n n (planG 0 fun _ => 0) = true := plan_ok (n := n) (k := 0) (b := fun _ => 0) (fun i hi => absurd hi (Nat.not_lt_zero i))
      obtain ⟨ma, mb⟩ := min_mod3 hm8
      have hlg : ∀ i, i < n → (f i).lo ≤ (longF t ts f) i ∧ (longF t ts f) i ≤ (f i).hi := fun i hi => longF_le hok ht hi
      have hl20 := longF_20 hok ht
      have hl3a := loop3a (p := p) (m := m8) (c := c) (d := e) (g := (planG 0 fun _ => 0)) h0 hok ht
      have hc3a := st3a_cl p m8 n c t e f ts (planG 0 fun _ => 0) 0
      simp only [st3a, if_neg (show ¬ n = 0 by omega), if_true] at hl3a hc3a
      have hl3c := fun (e1 e2 : Int) (hz : (e1 == (4 : Int)) = true → RightT p n f (planG 0 fun _ => 0) (lgS true f)) => loop3c (e1 := e1) (e2 := e2) (a := (IntKind.i64.wrap m8).tmod 221) (c := c) (g := (planG 0 fun _ => 0)) hok hlg hz
      have hc3c := fun e1 e2 : Int => h3c_cl (p := p) (n := n) (f := f) (e1 := e1) (e2 := e2) (a := (IntKind.i64.wrap m8).tmod 221) (c := c) (i := 0) (g := (planG 0 fun _ => 0)) (lg := (longF t ts f))
      have e0 : allQ p n f (planG 0 fun _ => 0) (longF t ts f) 0 = true := rfl
      have h16 : ∀ sure r, ConOK Try.prog 16 ((C16 sure p n c n n f (planG 0 fun _ => 0)).when r) := fun sure r => con_when (C16_ok sure p n c n n f _ hok hpl h7 h7) r
      have u1 := und_le (n := n) (f := f) (a := (IntKind.i64.wrap m8).tmod 221) (lg := lgS false f) (lg' := (longF t ts f)) (fun i hi => (hlg i hi).1)
      have u2 := und_le (n := n) (f := f) (a := (IntKind.i64.wrap m8).tmod 221) (lg := (longF t ts f)) (lg' := lgS true f) (fun i hi => (hlg i hi).2)
      have q1 : RightT p n f (planG 0 fun _ => 0) (lgS true f) → RightT p n f (planG 0 fun _ => 0) (longF t ts f) := right_mono fun i hi => (hlg i hi).2
      have q2 : RightT p n f (planG 0 fun _ => 0) (longF t ts f) → RightT p n f (planG 0 fun _ => 0) (lgS false f) := right_mono fun i hi => (hlg i hi).1
      cases hsT : pairS (planG 0 fun _ => 0) (ordF true p n f n) n n 0 with
      | none =>
        have rT := (right_of hok true).mp hsT
        have hsF := (right_of hok false).mpr (q2 (q1 rT))
        have hq := allQ_right.mpr (q1 rT)
        have v1 : (C16 true p n c n n f (planG 0 fun _ => 0)).res ⟨⟨[I p, .bool true], [(n, c), (n, n)]⟩, [mvs n f, ints n (planG 0 fun _ => 0)]⟩ = .ret (.tuple ⟨[I 0, I 0, I 4]⟩) := by show ARes.ret (checkV true p n n f _) = _; simp only [checkV, hsT]
        have v2 : (C16 false p n c n n f (planG 0 fun _ => 0)).res ⟨⟨[I p, .bool false], [(n, c), (n, n)]⟩, [mvs n f, ints n (planG 0 fun _ => 0)]⟩ = .ret (.tuple ⟨[I 0, I 0, I 4]⟩) := by show ARes.ret (checkV false p n n f _) = _; simp only [checkV, hsF]
        have hl3c := hl3c 4 4 (fun _ => rT)
        have hc3c := hc3c 4 4
        simp only [h3c, e0] at hl3c hc3c
        refine ⟨_, (f3nsA p n c t e m8 f ts R).mpr ?_⟩
        repeat' (first | with_reducible apply And.intro | with_reducible intro)
        all_goals first
          | (rw [far_no3 h7]; done)
          | exact hwhen _
          | exact ⟨rfl, hr⟩
          | exact C13n_ok p n c f h0 hn
          | exact hc3a
          | exact hl3a
          | exact C14_ok p n c n n f _ _ hok hl20
          | exact C15_ok p n c n f _ h0 hok hpl
          | exact h16 _ _
          | exact ⟨rfl, v1⟩
          | exact ⟨rfl, v2⟩
          | exact C19_ok p _ n c f hok ma mb
          | exact hc3c
          | exact hl3c
          | exact C12_ok
          | trivial
          | exact hR
          | omega
          | rfl
          | (rw [bne_self_eq_false]; done)
          | (change (_ : Hx) = _; kernel_rfl)
          | (exfalso; rw [u1] at *; simp_all; done)
          | (exfalso; simp_all; done)
      | some mT =>
        have v1 : (C16 true p n c n n f (planG 0 fun _ => 0)).res ⟨⟨[I p, .bool true], [(n, c), (n, n)]⟩, [mvs n f, ints n (planG 0 fun _ => 0)]⟩ = .ret (.tuple ⟨[I mT.1, I mT.2, I 0]⟩) := by show ARes.ret (checkV true p n n f _) = _; simp only [checkV, hsT]
        cases hsF : pairS (planG 0 fun _ => 0) (ordF false p n f n) n n 0 with
        | none =>
          have v2 : (C16 false p n c n n f (planG 0 fun _ => 0)).res ⟨⟨[I p, .bool false], [(n, c), (n, n)]⟩, [mvs n f, ints n (planG 0 fun _ => 0)]⟩ = .ret (.tuple ⟨[I 0, I 0, I 4]⟩) := by show ARes.ret (checkV false p n n f _) = _; simp only [checkV, hsF]
          have hl3c := hl3c 0 4 (fun h => by cases h)
          have hc3c := hc3c 0 4
          simp only [h3c, e0] at hl3c hc3c
          refine ⟨_, (f3nsB p n c t e m8 f ts mT.1 mT.2 R).mpr ?_⟩
          repeat' (first | with_reducible apply And.intro | with_reducible intro)
          all_goals first
            | (rw [far_no3 h7]; done)
            | exact hwhen _
            | exact ⟨rfl, hr⟩
            | exact C13n_ok p n c f h0 hn
            | exact hc3a
            | exact hl3a
            | exact C14_ok p n c n n f _ _ hok hl20
            | exact C15_ok p n c n f _ h0 hok hpl
            | exact h16 _ _
            | exact ⟨rfl, v1⟩
            | exact ⟨rfl, v2⟩
            | exact C19_ok p _ n c f hok ma mb
            | exact hc3c
            | exact hl3c
            | exact C12_ok
            | trivial
            | exact hR
            | omega
            | rfl
            | (rw [bne_self_eq_false]; done)
            | (change (_ : Hx) = _; kernel_rfl)
            | (exfalso; rw [u1] at *; simp_all; done)
            | (exfalso; simp_all; done)
        | some mF =>
          have v2 : (C16 false p n c n n f (planG 0 fun _ => 0)).res ⟨⟨[I p, .bool false], [(n, c), (n, n)]⟩, [mvs n f, ints n (planG 0 fun _ => 0)]⟩ = .ret (.tuple ⟨[I mF.1, I mF.2, I 0]⟩) := by show ARes.ret (checkV false p n n f _) = _; simp only [checkV, hsF]
          have hq : allQ p n f (planG 0 fun _ => 0) (longF t ts f) n = false := by
            cases hq : allQ p n f (planG 0 fun _ => 0) (longF t ts f) n with
            | false => rfl
            | true =>
              have := (right_of hok false).mpr (q2 (allQ_right.mp hq))
              rw [hsF] at this
              cases this
          have hl3c := hl3c 0 0 (fun h => by cases h)
          have hc3c := hc3c 0 0
          simp only [h3c, e0] at hl3c hc3c
          refine ⟨_, (f3nsC p n c t e m8 f ts mT.1 mT.2 mF.1 mF.2 R).mpr ?_⟩
          repeat' (first | with_reducible apply And.intro | with_reducible intro)
          all_goals first
            | (rw [far_no3 h7]; done)
            | exact hwhen _
            | exact ⟨rfl, hr⟩
            | exact C13n_ok p n c f h0 hn
            | exact hc3a
            | exact hl3a
            | exact C14_ok p n c n n f _ _ hok hl20
            | exact C15_ok p n c n f _ h0 hok hpl
            | exact h16 _ _
            | exact ⟨rfl, v1⟩
            | exact ⟨rfl, v2⟩
            | exact C19_ok p _ n c f hok ma mb
            | exact hc3c
            | exact hl3c
            | exact C12_ok
            | trivial
            | exact hR
            | omega
            | rfl
            | (rw [bne_self_eq_false]; done)
            | (change (_ : Hx) = _; kernel_rfl)
            | (exfalso; rw [u1] at *; simp_all; done)
            | (exfalso; simp_all; done)
  exact key _ rfl
end Go.Ab

