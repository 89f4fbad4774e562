/- the law HorseEnds: some moves, no numbers. -/
import Derived.Test.YthfhcnbpgagkdaaMX
set_option maxRecDepth 100000
namespace Go.Ab
open Go Go.RowKit Go.Proofs
theorem f4n (p : Int) (n c : Nat) (m8 : Int) (f : Nat → Mv) (R : ARes → Prop)  : (vx.call 4 [hV p n c, nilS, U8 m8] (retK R) (m2n (mvs n f)) ((13, .val (.bool false)) :: (3, Hint.con ((C21 p n c f).when (ARes.ret (Value.bool true)))) :: (4, Hint.conN (C13n p n c f)) :: (14, Hint.loopW T4a (AExit.exit (0 : Nat)) T4b fun x =>   {     hs :=       {         vs :=           [I ((IntKind.i64.wrap m8).tmod (221 : Int)), I (↑n : Int), I (↑n : Int), I p,             I (↑(cntN (undB ((IntKind.i64.wrap m8).tmod (221 : Int)) f (lgS false f)) n) : Int),             I (↑(cntN (undB ((IntKind.i64.wrap m8).tmod (221 : Int)) f (lgS true f)) n) : Int)],         ns := [(n, n), (n, n), (n, n), (n, c), (n, c)] },     ls := [mvs n f, ints n (planG (0 : Nat) fun _ => (0 : Int)), ints n (lgS false f), ints n (lgS true f)], es := [] }) :: (6, Hint.conN (C14 p n c n n f (planG (0 : Nat) fun _ => (0 : Int)) (lgS false f))) :: (0, Hint.again) :: (0, Hint.conN (C14 p n c n n f (planG (0 : Nat) fun _ => (0 : Int)) (lgS true f))) :: (4, Hint.conN (C15 p n c n f (planG (0 : Nat) fun _ => (0 : Int)))) :: (7, Hint.con (C19 p ((IntKind.i64.wrap m8).tmod (221 : Int)) n c f (busyV ((IntKind.i64.wrap m8).tmod (221 : Int)) n f))) :: (13, .val (.bool false)) :: [(8, .split ([]) ((6, Hint.loopW T4c (AExit.exit (2 : Nat)) T4c fun x =>   { hs := { vs := [I (↑n : Int), I (↑n : Int), I p], ns := [(n, n), (n, n), (n, n), (n, n), (n, c), (n, c)] },     ls :=       [mvs n f, ints n (planG (0 : Nat) fun _ => (0 : Int)),         ints n (begS p n f (planG (0 : Nat) fun _ => (0 : Int)) (lgS false f)),         ints n (begS p n f (planG (0 : Nat) fun _ => (0 : Int)) (lgS true f)),         spansC n (latS false p n f (planG (0 : Nat) fun _ => (0 : Int)))           (latS true p n f (planG (0 : Nat) fun _ => (0 : Int)))],     es := [] }) :: (5, .val (.slice (.some ⟨((4 : Nat)), ((0 : Nat) + (if (↑n : Int) < (1 : Int) then (↑n : Int) else (1 : Int)).toNat * (1 : Nat)), .none⟩) (n - (if (↑n : Int) < (1 : Int) then (↑n : Int) else (1 : Int)).toNat) (n - (if (↑n : Int) < (1 : Int) then (↑n : Int) else (1 : Int)).toNat))) :: (4, .val (.slice (.some ⟨((4 : Nat)), ((0 : Nat) + (if (↑n : Int) < (1 : Int) then (↑n : Int) else (1 : Int)).toNat * (1 : Nat)), .none⟩) (n - (if (↑n : Int) < (1 : Int) then (↑n : Int) else (1 : Int)).toNat) (n - (if (↑n : Int) < (1 : Int) then (↑n : Int) else (1 : Int)).toNat))) :: (1, Hint.growN) :: (0, Hint.again) :: (0, Hint.growN) :: (0, Hint.again) :: (0, Hint.growN) :: (9, Hint.con   (C15e p n c ((1 : Nat) + n) ((1 : Nat) + n) f (consF (0 : Int) (planG (0 : Nat) fun _ => (0 : Int)))     (bad0 n (planG (0 : Nat) fun _ => (0 : Int))))) :: (17, Hint.con   (C15e p n c ((1 : Nat) + (n - mn n)) ((1 : Nat) + (n - mn n)) f     (consF (-1 : Int) fun i => planG (0 : Nat) (fun _ => (0 : Int)) (i + (1 : Nat)))     (bad1 (-1 : Int) n (planG (0 : Nat) fun _ => (0 : Int))))) :: (17, Hint.con   (C15e p n c ((1 : Nat) + (n - mn n)) ((1 : Nat) + (n - mn n)) f     (consF (7 : Int) fun i => planG (0 : Nat) (fun _ => (0 : Int)) (i + (1 : Nat)))     (bad1 (7 : Int) n (planG (0 : Nat) fun _ => (0 : Int))))) :: (16, Hint.con (C18e p n c f)) :: (6, Hint.con   (C19 p (221 : Int) n c f     (Value.tuple { toList := [Value.agg { toList := [I (0 : Int), I (0 : Int)] }, I (2 : Int)] }))) :: (7, Hint.con (C23e p n c f)) :: (16, Hint.con C12) :: []))])) =
(((((some (.bool (decide ((if (↑(0 : Nat) : Int) > (↑n : Int) then (↑(0 : Nat) : Int) else (↑n : Int)) > (40 : Int)))) : Option Value) = some (.bool false))) ∧
((ConOK Try.prog ((21 : Nat)) ((C21 p n c f).when (ARes.ret (Value.bool true)))) ∧ (Con.pre ((C21 p n c f).when (ARes.ret (Value.bool true))) ⟨⟨[(.int IntKind.i64 (p))], [⟨(n), (c)⟩]⟩, [(mvs n f)]⟩) ∧ 
((ConNOK Try.prog ((13 : Nat)) (C13n p n c f)) ∧ (ConN.pre (C13n p n c f) ⟨⟨[(.int IntKind.i64 (p))], [⟨(n), (c)⟩]⟩, [(mvs n f)]⟩) ∧ 
((ClW ⟨⟨[(.int IntKind.i64 ((IntKind.i64.wrap m8).tmod (221 : Int))), (.int IntKind.i64 ((↑n : Int))), (.int IntKind.i64 ((0 : Int))), (.int IntKind.i64 (p)), (.int IntKind.i64 ((0 : Int))), (.int IntKind.i64 ((0 : Int)))], [⟨(n), (n)⟩, ⟨(n), (c)⟩, ⟨(n), (c)⟩]⟩, [(mvs n f), (ints n (planG (0 : Nat) fun _ => (0 : Int)))], []⟩) ∧ (LoopOW Try.prog .none p4a (T4a) ⟨⟨[(.int IntKind.i64 ((IntKind.i64.wrap m8).tmod (221 : Int))), (.int IntKind.i64 ((↑n : Int))), (.int IntKind.i64 ((0 : Int))), (.int IntKind.i64 (p)), (.int IntKind.i64 ((0 : Int))), (.int IntKind.i64 ((0 : Int)))], [⟨(n), (n)⟩, ⟨(n), (c)⟩, ⟨(n), (c)⟩]⟩, [(mvs n f), (ints n (planG (0 : Nat) fun _ => (0 : Int)))], []⟩ (.exit ((0 : Nat))) (T4b) ⟨⟨[(.int IntKind.i64 ((IntKind.i64.wrap m8).tmod (OfNat.ofNat (221 : Nat)))), (.int IntKind.i64 ((↑n : Int))), (.int IntKind.i64 ((↑n : Int))), (.int IntKind.i64 (p)), (.int IntKind.i64 ((↑(cntN (undB ((IntKind.i64.wrap m8).tmod (OfNat.ofNat (221 : Nat))) f (lgS false f)) n) : Int))), (.int IntKind.i64 ((↑(cntN (undB ((IntKind.i64.wrap m8).tmod (OfNat.ofNat (221 : Nat))) f (lgS true f)) n) : Int)))], [⟨(n), (n)⟩, ⟨(n), (n)⟩, ⟨(n), (n)⟩, ⟨(n), (c)⟩, ⟨(n), (c)⟩]⟩, [(mvs n f), (ints n (planG (0 : Nat) fun _ => (0 : Int))), (ints n (lgS false f)), (ints n (lgS true f))], []⟩) ∧ 
((ConNOK Try.prog ((14 : Nat)) (C14 p n c n n f (planG (0 : Nat) fun _ => (0 : Int)) (lgS false f))) ∧ (ConN.pre (C14 p n c n n f (planG (0 : Nat) fun _ => (0 : Int)) (lgS false f)) ⟨⟨[(.int IntKind.i64 (p))], [⟨(n), (c)⟩, ⟨(n), (n)⟩, ⟨(n), (n)⟩]⟩, [(mvs n f), (ints n (planG (0 : Nat) fun _ => (0 : Int))), (ints n (lgS false f))]⟩) ∧ 
((((((2 : Nat) ≤ (2 : Nat))) ∧ (((.agg ⟨[(.int IntKind.i64 (p)), (.slice (.some ⟨((0 : Nat)), ((0 : Nat)), .none⟩) (n) (c))]⟩) : Value) = (.agg ⟨[(.int IntKind.i64 (p)), (.slice (.some ⟨((0 : Nat)), ((0 : Nat)), .none⟩) (n) (c))]⟩))) ∧ (True)) ∧ 
((ConNOK Try.prog ((14 : Nat)) (C14 p n c n n f (planG (0 : Nat) fun _ => (0 : Int)) (lgS true f))) ∧ (ConN.pre (C14 p n c n n f (planG (0 : Nat) fun _ => (0 : Int)) (lgS true f)) ⟨⟨[(.int IntKind.i64 (p))], [⟨(n), (c)⟩, ⟨(n), (n)⟩, ⟨(n), (n)⟩]⟩, [(mvs n f), (ints n (planG (0 : Nat) fun _ => (0 : Int))), (ints n (lgS true f))]⟩) ∧ 
((ConNOK Try.prog ((15 : Nat)) (C15 p n c n f (planG (0 : Nat) fun _ => (0 : Int)))) ∧ (ConN.pre (C15 p n c n f (planG (0 : Nat) fun _ => (0 : Int))) ⟨⟨[(.int IntKind.i64 (p))], [⟨(n), (c)⟩, ⟨(n), (n)⟩]⟩, [(mvs n f), (ints n (planG (0 : Nat) fun _ => (0 : Int)))]⟩) ∧ 
((ConOK Try.prog ((19 : Nat)) (C19 p ((IntKind.i64.wrap m8).tmod (OfNat.ofNat (221 : Nat))) n c f   (busyV ((IntKind.i64.wrap m8).tmod (OfNat.ofNat (221 : Nat))) n f))) ∧ (Con.pre (C19 p ((IntKind.i64.wrap m8).tmod (OfNat.ofNat (221 : Nat))) n c f   (busyV ((IntKind.i64.wrap m8).tmod (OfNat.ofNat (221 : Nat))) n f)) ⟨⟨[(.int IntKind.i64 (p)), (.int IntKind.i64 ((IntKind.i64.wrap m8).tmod (OfNat.ofNat (221 : Nat))))], [⟨(n), (c)⟩]⟩, [(mvs n f)]⟩) ∧ 
((((some (.bool ((↑n : Int) != (↑n : Int))) : Option Value) = some (.bool false))) ∧
(((!((↑(cntN (undB ((IntKind.i64.wrap m8).tmod (OfNat.ofNat (221 : Nat))) f (lgS false f)) n) : Int) ==       (↑(cntN (undB ((IntKind.i64.wrap m8).tmod (OfNat.ofNat (221 : Nat))) f (lgS false f)) n) : Int) &&     (fun c =>         (↑(cntN (undB ((IntKind.i64.wrap m8).tmod (OfNat.ofNat (221 : Nat))) f (lgS true f)) n) : Int) ==             (↑(cntN (undB ((IntKind.i64.wrap m8).tmod (OfNat.ofNat (221 : Nat))) f (lgS true f)) n) : Int) &&           c)       true)) = true → R (.ret (.bool false))) ∧
((!((↑(cntN (undB ((IntKind.i64.wrap m8).tmod (OfNat.ofNat (221 : Nat))) f (lgS false f)) n) : Int) ==       (↑(cntN (undB ((IntKind.i64.wrap m8).tmod (OfNat.ofNat (221 : Nat))) f (lgS false f)) n) : Int) &&     (fun c =>         (↑(cntN (undB ((IntKind.i64.wrap m8).tmod (OfNat.ofNat (221 : Nat))) f (lgS true f)) n) : Int) ==             (↑(cntN (undB ((IntKind.i64.wrap m8).tmod (OfNat.ofNat (221 : Nat))) f (lgS true f)) n) : Int) &&           c)       true)) = false → ((ClW ⟨⟨[(.int IntKind.i64 ((↑n : Int))), (.int IntKind.i64 ((0 : Int))), (.int IntKind.i64 (p))], [⟨(n), (n)⟩, ⟨(n), (n)⟩, ⟨(n), (n)⟩, ⟨(n), (n)⟩, ⟨(n), (c)⟩, ⟨(n), (c)⟩]⟩, [(mvs n f), (ints n (planG (0 : Nat) fun _ => (0 : Int))), (ints n (begS p n f (planG (0 : Nat) fun _ => (0 : Int)) (lgS false f))), (ints n (begS p n f (planG (0 : Nat) fun _ => (0 : Int)) (lgS true f))), (spansC n (latS false p n f (planG (0 : Nat) fun _ => (0 : Int))) (latS true p n f (planG (0 : Nat) fun _ => (0 : Int))))], []⟩) ∧ (LoopOW Try.prog .none p4c (T4c) ⟨⟨[(.int IntKind.i64 ((↑n : Int))), (.int IntKind.i64 ((0 : Int))), (.int IntKind.i64 (p))], [⟨(n), (n)⟩, ⟨(n), (n)⟩, ⟨(n), (n)⟩, ⟨(n), (n)⟩, ⟨(n), (c)⟩, ⟨(n), (c)⟩]⟩, [(mvs n f), (ints n (planG (0 : Nat) fun _ => (0 : Int))), (ints n (begS p n f (planG (0 : Nat) fun _ => (0 : Int)) (lgS false f))), (ints n (begS p n f (planG (0 : Nat) fun _ => (0 : Int)) (lgS true f))), (spansC n (latS false p n f (planG (0 : Nat) fun _ => (0 : Int))) (latS true p n f (planG (0 : Nat) fun _ => (0 : Int))))], []⟩ (.exit ((2 : Nat))) (T4c) ⟨⟨[(.int IntKind.i64 ((↑n : Int))), (.int IntKind.i64 ((↑n : Int))), (.int IntKind.i64 (p))], [⟨(n), (n)⟩, ⟨(n), (n)⟩, ⟨(n), (n)⟩, ⟨(n), (n)⟩, ⟨(n), (c)⟩, ⟨(n), (c)⟩]⟩, [(mvs n f), (ints n (planG (0 : Nat) fun _ => (0 : Int))), (ints n (begS p n f (planG (0 : Nat) fun _ => (0 : Int)) (lgS false f))), (ints n (begS p n f (planG (0 : Nat) fun _ => (0 : Int)) (lgS true f))), (spansC n (latS false p n f (planG (0 : Nat) fun _ => (0 : Int))) (latS true p n f (planG (0 : Nat) fun _ => (0 : Int))))], []⟩) ∧ 
((((((0 : Int) ≤ if (↑n : Int) < (1 : Int) then (↑n : Int) else (1 : Int))) ∧ ((((if (↑n : Int) < (1 : Int) then (↑n : Int) else (1 : Int)) ≤ (↑n : Int))) ∧ (((↑n : Int) ≤ (↑n : Int))))) ∧ (((.slice (.some ⟨((4 : Nat)), ((0 : Nat) + (if (↑n : Int) < (1 : Int) then (↑n : Int) else (1 : Int)).toNat * (1 : Nat)), .none⟩) (n - (if (↑n : Int) < (1 : Int) then (↑n : Int) else (1 : Int)).toNat) (n - (if (↑n : Int) < (1 : Int) then (↑n : Int) else (1 : Int)).toNat)) : Value) = (.slice (.some ⟨((4 : Nat)), ((0 : Nat) + (if (↑n : Int) < (1 : Int) then (↑n : Int) else (1 : Int)).toNat * (1 : Nat)), .none⟩) (n - (if (↑n : Int) < (1 : Int) then (↑n : Int) else (1 : Int)).toNat) (n - (if (↑n : Int) < (1 : Int) then (↑n : Int) else (1 : Int)).toNat)))) ∧
((((((0 : Int) ≤ if (↑n : Int) < (1 : Int) then (↑n : Int) else (1 : Int))) ∧ ((((if (↑n : Int) < (1 : Int) then (↑n : Int) else (1 : Int)) ≤ (↑n : Int))) ∧ (((↑n : Int) ≤ (↑n : Int))))) ∧ (((.slice (.some ⟨((4 : Nat)), ((0 : Nat) + (if (↑n : Int) < (1 : Int) then (↑n : Int) else (1 : Int)).toNat * (1 : Nat)), .none⟩) (n - (if (↑n : Int) < (1 : Int) then (↑n : Int) else (1 : Int)).toNat) (n - (if (↑n : Int) < (1 : Int) then (↑n : Int) else (1 : Int)).toNat)) : Value) = (.slice (.some ⟨((4 : Nat)), ((0 : Nat) + (if (↑n : Int) < (1 : Int) then (↑n : Int) else (1 : Int)).toNat * (1 : Nat)), .none⟩) (n - (if (↑n : Int) < (1 : Int) then (↑n : Int) else (1 : Int)).toNat) (n - (if (↑n : Int) < (1 : Int) then (↑n : Int) else (1 : Int)).toNat)))) ∧
(((((((0 : Nat) < n)) ∧ (((0 : Nat) + n * (1 : Nat) ≤ (ints n (planG (0 : Nat) fun _ => (0 : Int))).length))) ∧ (((List.take (n * (1 : Nat)) (List.drop (0 : Nat) (ints n (planG (0 : Nat) fun _ => (0 : Int))))).all one = true))) ∧ (((¬(1 : Nat) + n ≤ (1 : Nat))) ∧ ((((1 : Nat) = (1 : Nat))) ∧ (((((1 : Nat) + n) * (8 : Nat) ≤ (140737488355328 : Nat))) ∧ (((1 : Nat) + n ≤ (4611686018427387904 : Nat))))))) ∧ 
((((((.slice (.some ⟨((14 : Nat)), ((0 : Nat)), .none⟩) ((1 : Nat)) ((1 : Nat))) : Value) = (.slice (.some ⟨((14 : Nat)), ((0 : Nat)), .none⟩) ((1 : Nat)) ((1 : Nat)))) ∧ (((some (.cells [(.int IntKind.i64 ((7 : Int)))] ((3 : Nat)) .row) : Option ABlk) = some (.cells [(.int IntKind.i64 ((7 : Int)))] ((3 : Nat)) .row)))) ∧ (((((.slice (.some ⟨((13 : Nat)), ((0 : Nat)), .none⟩) ((1 : Nat)) ((1 : Nat))) : Value) = (.slice (.some ⟨((13 : Nat)), ((0 : Nat)), .none⟩) ((1 : Nat)) ((1 : Nat)))) ∧ (((some (.cells [(.int IntKind.i64 ((-1 : Int)))] ((3 : Nat)) .row) : Option ABlk) = some (.cells [(.int IntKind.i64 ((-1 : Int)))] ((3 : Nat)) .row)))) ∧ ((((((0 : Int) ≤ if (↑n : Int) < (1 : Int) then (↑n : Int) else (1 : Int))) ∧ ((((if (↑n : Int) < (1 : Int) then (↑n : Int) else (1 : Int)) ≤ (↑n : Int))) ∧ (((↑n : Int) ≤ (↑n : Int))))) ∧ (((.slice (.some ⟨((4 : Nat)), ((0 : Nat) + (if (↑n : Int) < (1 : Int) then (↑n : Int) else (1 : Int)).toNat * (1 : Nat)), .none⟩) (n - (if (↑n : Int) < (1 : Int) then (↑n : Int) else (1 : Int)).toNat) (n - (if (↑n : Int) < (1 : Int) then (↑n : Int) else (1 : Int)).toNat)) : Value) = (.slice (.some ⟨((4 : Nat)), ((0 : Nat) + (if (↑n : Int) < (1 : Int) then (↑n : Int) else (1 : Int)).toNat * (1 : Nat)), .none⟩) (n - (if (↑n : Int) < (1 : Int) then (↑n : Int) else (1 : Int)).toNat) (n - (if (↑n : Int) < (1 : Int) then (↑n : Int) else (1 : Int)).toNat)))) ∧ ((((some (.int IntKind.i64 (if (↑n : Int) < (1 : Int) then (↑n : Int) else (1 : Int))) : Option Value) = some (.int IntKind.i64 (if (↑n : Int) < (1 : Int) then (↑n : Int) else (1 : Int))))) ∧ ((((some (.int IntKind.i64 ((↑n : Int))) : Option Value) = some (.int IntKind.i64 ((↑n : Int))))) ∧ ((((((0 : Int) ≤ if (↑n : Int) < (1 : Int) then (↑n : Int) else (1 : Int))) ∧ ((((if (↑n : Int) < (1 : Int) then (↑n : Int) else (1 : Int)) ≤ (↑n : Int))) ∧ (((↑n : Int) ≤ (↑n : Int))))) ∧ (((.slice (.some ⟨((4 : Nat)), ((0 : Nat) + (if (↑n : Int) < (1 : Int) then (↑n : Int) else (1 : Int)).toNat * (1 : Nat)), .none⟩) (n - (if (↑n : Int) < (1 : Int) then (↑n : Int) else (1 : Int)).toNat) (n - (if (↑n : Int) < (1 : Int) then (↑n : Int) else (1 : Int)).toNat)) : Value) = (.slice (.some ⟨((4 : Nat)), ((0 : Nat) + (if (↑n : Int) < (1 : Int) then (↑n : Int) else (1 : Int)).toNat * (1 : Nat)), .none⟩) (n - (if (↑n : Int) < (1 : Int) then (↑n : Int) else (1 : Int)).toNat) (n - (if (↑n : Int) < (1 : Int) then (↑n : Int) else (1 : Int)).toNat)))) ∧ ((((some (.int IntKind.i64 (if (↑n : Int) < (1 : Int) then (↑n : Int) else (1 : Int))) : Option Value) = some (.int IntKind.i64 (if (↑n : Int) < (1 : Int) then (↑n : Int) else (1 : Int))))) ∧ ((((some (.int IntKind.i64 ((↑n : Int))) : Option Value) = some (.int IntKind.i64 ((↑n : Int))))) ∧ (True))))))))) ∧ 
(((((((0 : Nat) < n - (if (↑n : Int) < (1 : Int) then (↑n : Int) else (1 : Int)).toNat)) ∧ (((0 : Nat) + (if (↑n : Int) < (1 : Int) then (↑n : Int) else (1 : Int)).toNat * (1 : Nat) +     (n - (if (↑n : Int) < (1 : Int) then (↑n : Int) else (1 : Int)).toNat) * (1 : Nat) ≤   (ints n (planG (0 : Nat) fun _ => (0 : Int))).length))) ∧ (((List.take ((n - (if (↑n : Int) < (1 : Int) then (↑n : Int) else (1 : Int)).toNat) * (1 : Nat))         (List.drop ((0 : Nat) + (if (↑n : Int) < (1 : Int) then (↑n : Int) else (1 : Int)).toNat * (1 : Nat))           (ints n (planG (0 : Nat) fun _ => (0 : Int))))).all     one =   true))) ∧ (((¬(1 : Nat) + (n - (if (↑n : Int) < (1 : Int) then (↑n : Int) else (1 : Int)).toNat) ≤ (1 : Nat))) ∧ ((((1 : Nat) = (1 : Nat))) ∧ (((((1 : Nat) + (n - (if (↑n : Int) < (1 : Int) then (↑n : Int) else (1 : Int)).toNat)) * (8 : Nat) ≤   (140737488355328 : Nat))) ∧ (((1 : Nat) + (n - (if (↑n : Int) < (1 : Int) then (↑n : Int) else (1 : Int)).toNat) ≤ (4611686018427387904 : Nat))))))) ∧ 
((((((.slice (.some ⟨((14 : Nat)), ((0 : Nat)), .none⟩) ((1 : Nat)) ((1 : Nat))) : Value) = (.slice (.some ⟨((14 : Nat)), ((0 : Nat)), .none⟩) ((1 : Nat)) ((1 : Nat)))) ∧ (((some (.cells [(.int IntKind.i64 ((7 : Int)))] ((3 : Nat)) .row) : Option ABlk) = some (.cells [(.int IntKind.i64 ((7 : Int)))] ((3 : Nat)) .row)))) ∧ ((((((0 : Int) ≤ if (↑n : Int) < (1 : Int) then (↑n : Int) else (1 : Int))) ∧ ((((if (↑n : Int) < (1 : Int) then (↑n : Int) else (1 : Int)) ≤ (↑n : Int))) ∧ (((↑n : Int) ≤ (↑n : Int))))) ∧ (((.slice (.some ⟨((4 : Nat)), ((0 : Nat) + (if (↑n : Int) < (1 : Int) then (↑n : Int) else (1 : Int)).toNat * (1 : Nat)), .none⟩) (n - (if (↑n : Int) < (1 : Int) then (↑n : Int) else (1 : Int)).toNat) (n - (if (↑n : Int) < (1 : Int) then (↑n : Int) else (1 : Int)).toNat)) : Value) = (.slice (.some ⟨((4 : Nat)), ((0 : Nat) + (if (↑n : Int) < (1 : Int) then (↑n : Int) else (1 : Int)).toNat * (1 : Nat)), .none⟩) (n - (if (↑n : Int) < (1 : Int) then (↑n : Int) else (1 : Int)).toNat) (n - (if (↑n : Int) < (1 : Int) then (↑n : Int) else (1 : Int)).toNat)))) ∧ ((((some (.int IntKind.i64 (if (↑n : Int) < (1 : Int) then (↑n : Int) else (1 : Int))) : Option Value) = some (.int IntKind.i64 (if (↑n : Int) < (1 : Int) then (↑n : Int) else (1 : Int))))) ∧ ((((some (.int IntKind.i64 ((↑n : Int))) : Option Value) = some (.int IntKind.i64 ((↑n : Int))))) ∧ (True))))) ∧ 
(((((((0 : Nat) < n - (if (↑n : Int) < (1 : Int) then (↑n : Int) else (1 : Int)).toNat)) ∧ (((0 : Nat) + (if (↑n : Int) < (1 : Int) then (↑n : Int) else (1 : Int)).toNat * (1 : Nat) +     (n - (if (↑n : Int) < (1 : Int) then (↑n : Int) else (1 : Int)).toNat) * (1 : Nat) ≤   (ints n (planG (0 : Nat) fun _ => (0 : Int))).length))) ∧ (((List.take ((n - (if (↑n : Int) < (1 : Int) then (↑n : Int) else (1 : Int)).toNat) * (1 : Nat))         (List.drop ((0 : Nat) + (if (↑n : Int) < (1 : Int) then (↑n : Int) else (1 : Int)).toNat * (1 : Nat))           (ints n (planG (0 : Nat) fun _ => (0 : Int))))).all     one =   true))) ∧ (((¬(1 : Nat) + (n - (if (↑n : Int) < (1 : Int) then (↑n : Int) else (1 : Int)).toNat) ≤ (1 : Nat))) ∧ ((((1 : Nat) = (1 : Nat))) ∧ (((((1 : Nat) + (n - (if (↑n : Int) < (1 : Int) then (↑n : Int) else (1 : Int)).toNat)) * (8 : Nat) ≤   (140737488355328 : Nat))) ∧ (((1 : Nat) + (n - (if (↑n : Int) < (1 : Int) then (↑n : Int) else (1 : Int)).toNat) ≤ (4611686018427387904 : Nat))))))) ∧ 
((ConOK Try.prog ((15 : Nat)) (C15e p n c ((1 : Nat) + n) ((1 : Nat) + n) f (consF (0 : Int) (planG (0 : Nat) fun _ => (0 : Int)))   (bad0 n (planG (0 : Nat) fun _ => (0 : Int))))) ∧ (Con.pre (C15e p n c ((1 : Nat) + n) ((1 : Nat) + n) f (consF (0 : Int) (planG (0 : Nat) fun _ => (0 : Int)))   (bad0 n (planG (0 : Nat) fun _ => (0 : Int)))) ⟨⟨[(.int IntKind.i64 (p))], [⟨(n), (c)⟩, ⟨((1 : Nat) + n), ((1 : Nat) + n)⟩]⟩, [(mvs n f), ((.int IntKind.i64 ((0 : Int))) :: ((Nat.brecOn.go (motive := fun _ => List Value → List Value)       (((4 : Nat), (0 : Nat), n, n).snd.snd.fst * (fun x => x.size) Try.prog.types[(3 : Nat)]) List.take._f).1   (List.drop ((4 : Nat), (0 : Nat), n, n).snd.fst     (ints n (planG (0 : Nat) fun _ => (0 : Int)), OfNat.ofNat (3 : Nat), BKind.row).fst)))]⟩) ∧ 
((ConOK Try.prog ((15 : Nat)) (C15e p n c ((1 : Nat) + (n - mn n)) ((1 : Nat) + (n - mn n)) f   (consF (-1 : Int) fun i => planG (0 : Nat) (fun _ => (0 : Int)) (i + (1 : Nat)))   (bad1 (-1 : Int) n (planG (0 : Nat) fun _ => (0 : Int))))) ∧ (Con.pre (C15e p n c ((1 : Nat) + (n - mn n)) ((1 : Nat) + (n - mn n)) f   (consF (-1 : Int) fun i => planG (0 : Nat) (fun _ => (0 : Int)) (i + (1 : Nat)))   (bad1 (-1 : Int) n (planG (0 : Nat) fun _ => (0 : Int)))) ⟨⟨[(.int IntKind.i64 (p))], [⟨(n), (c)⟩, ⟨((1 : Nat) + (n - (if (↑n : Int) < (1 : Int) then (↑n : Int) else (1 : Int)).toNat)), ((1 : Nat) + (n - (if (↑n : Int) < (1 : Int) then (↑n : Int) else (1 : Int)).toNat))⟩]⟩, [(mvs n f), ((.int IntKind.i64 ((-1 : Int))) :: ((Nat.brecOn.go (motive := fun _ => List Value → List Value)       (((4 : Nat), (0 : Nat) + (if (↑n : Int) < (1 : Int) then (↑n : Int) else (1 : Int)).toNat * (1 : Nat),                 n - (if (↑n : Int) < (1 : Int) then (↑n : Int) else (1 : Int)).toNat,                 n - (if (↑n : Int) < (1 : Int) then (↑n : Int) else (1 : Int)).toNat).snd.snd.fst *         (fun x => x.size) Try.prog.types[(3 : Nat)])       List.take._f).1   (List.drop     ((4 : Nat), (0 : Nat) + (if (↑n : Int) < (1 : Int) then (↑n : Int) else (1 : Int)).toNat * (1 : Nat),           n - (if (↑n : Int) < (1 : Int) then (↑n : Int) else (1 : Int)).toNat,           n - (if (↑n : Int) < (1 : Int) then (↑n : Int) else (1 : Int)).toNat).snd.fst     (ints n (planG (0 : Nat) fun _ => (0 : Int)), OfNat.ofNat (3 : Nat), BKind.row).fst)))]⟩) ∧ 
((ConOK Try.prog ((15 : Nat)) (C15e p n c ((1 : Nat) + (n - mn n)) ((1 : Nat) + (n - mn n)) f   (consF (7 : Int) fun i => planG (0 : Nat) (fun _ => (0 : Int)) (i + (1 : Nat)))   (bad1 (7 : Int) n (planG (0 : Nat) fun _ => (0 : Int))))) ∧ (Con.pre (C15e p n c ((1 : Nat) + (n - mn n)) ((1 : Nat) + (n - mn n)) f   (consF (7 : Int) fun i => planG (0 : Nat) (fun _ => (0 : Int)) (i + (1 : Nat)))   (bad1 (7 : Int) n (planG (0 : Nat) fun _ => (0 : Int)))) ⟨⟨[(.int IntKind.i64 (p))], [⟨(n), (c)⟩, ⟨((1 : Nat) + (n - (if (↑n : Int) < (1 : Int) then (↑n : Int) else (1 : Int)).toNat)), ((1 : Nat) + (n - (if (↑n : Int) < (1 : Int) then (↑n : Int) else (1 : Int)).toNat))⟩]⟩, [(mvs n f), ((.int IntKind.i64 ((7 : Int))) :: ((Nat.brecOn.go (motive := fun _ => List Value → List Value)       (((4 : Nat), (0 : Nat) + (if (↑n : Int) < (1 : Int) then (↑n : Int) else (1 : Int)).toNat * (1 : Nat),                 n - (if (↑n : Int) < (1 : Int) then (↑n : Int) else (1 : Int)).toNat,                 n - (if (↑n : Int) < (1 : Int) then (↑n : Int) else (1 : Int)).toNat).snd.snd.fst *         (fun x => x.size) Try.prog.types[(3 : Nat)])       List.take._f).1   (List.drop     ((4 : Nat), (0 : Nat) + (if (↑n : Int) < (1 : Int) then (↑n : Int) else (1 : Int)).toNat * (1 : Nat),           n - (if (↑n : Int) < (1 : Int) then (↑n : Int) else (1 : Int)).toNat,           n - (if (↑n : Int) < (1 : Int) then (↑n : Int) else (1 : Int)).toNat).snd.fst     (ints n (planG (0 : Nat) fun _ => (0 : Int)), OfNat.ofNat (3 : Nat), BKind.row).fst)))]⟩) ∧ 
((ConOK Try.prog ((18 : Nat)) (C18e p n c f)) ∧ (Con.pre (C18e p n c f) ⟨⟨[(.int IntKind.i64 (p)), (.int IntKind.i64 ((↑n : Int)))], [⟨(n), (c)⟩]⟩, [(mvs n f)]⟩) ∧ 
((ConOK Try.prog ((19 : Nat)) (C19 p (221 : Int) n c f (Value.tuple { toList := [Value.agg { toList := [I (0 : Int), I (0 : Int)] }, I (2 : Int)] }))) ∧ (Con.pre (C19 p (221 : Int) n c f (Value.tuple { toList := [Value.agg { toList := [I (0 : Int), I (0 : Int)] }, I (2 : Int)] })) ⟨⟨[(.int IntKind.i64 (p)), (.int IntKind.i64 ((221 : Int)))], [⟨(n), (c)⟩]⟩, [(mvs n f)]⟩) ∧ 
((ConOK Try.prog ((23 : Nat)) (C23e p n c f)) ∧ (Con.pre (C23e p n c f) ⟨⟨[(.int IntKind.i64 (p))], [⟨(n), (c)⟩]⟩, [(mvs n f)]⟩) ∧ 
((ConOK Try.prog ((12 : Nat)) (C12)) ∧ (Con.pre (C12) ⟨⟨[], []⟩, []⟩) ∧ 
R (.ret (.bool true)))))))))))))))))))))))))))))) := by kernel_rfl

theorem f4n1 (p : Int) (c : Nat) (m8 : Int) (f : Nat → Mv) (R : ARes → Prop)  : (vx.call 4 [hV p 1 c, nilS, U8 m8] (retK R) (m2n (mvs 1 f)) ((17, Hint.con ((C21 p (1 : Nat) c f).when (ARes.ret (Value.bool true)))) :: (4, Hint.conN (C13n p (1 : Nat) c f)) :: (14, Hint.loopW T4a (AExit.exit (0 : Nat)) T4b fun _ =>   {     hs :=       {         vs :=           [I ((IntKind.i64.wrap m8).tmod (221 : Int)), I (↑(1 : Nat) : Int), I (↑(1 : Nat) : Int), I p,             I (↑(cntN (undB ((IntKind.i64.wrap m8).tmod (221 : Int)) f (lgS false f)) (1 : Nat)) : Int),             I (↑(cntN (undB ((IntKind.i64.wrap m8).tmod (221 : Int)) f (lgS true f)) (1 : Nat)) : Int)],         ns :=           [((1 : Nat), (1 : Nat)), ((1 : Nat), (1 : Nat)), ((1 : Nat), (1 : Nat)), ((1 : Nat), c), ((1 : Nat), c)] },     ls :=       [mvs (1 : Nat) f, ints (1 : Nat) (planG (0 : Nat) fun _ => (0 : Int)), ints (1 : Nat) (lgS false f),         ints (1 : Nat) (lgS true f)],     es := [] }) :: (6, Hint.conN (C14 p (1 : Nat) c (1 : Nat) (1 : Nat) f (planG (0 : Nat) fun _ => (0 : Int)) (lgS false f))) :: (0, Hint.again) :: (0, Hint.conN (C14 p (1 : Nat) c (1 : Nat) (1 : Nat) f (planG (0 : Nat) fun _ => (0 : Int)) (lgS true f))) :: (4, Hint.conN (C15 p (1 : Nat) c (1 : Nat) f (planG (0 : Nat) fun _ => (0 : Int)))) :: (7, Hint.con   (C19 p ((IntKind.i64.wrap m8).tmod (221 : Int)) (1 : Nat) c f     (busyV ((IntKind.i64.wrap m8).tmod (221 : Int)) (1 : Nat) f))) :: [(22, .split ([]) ((6, Hint.loopW T4c (AExit.exit (2 : Nat)) T4c fun _ =>   {     hs :=       { vs := [I (↑(1 : Nat) : Int), I (↑(1 : Nat) : Int), I p],         ns :=           [((1 : Nat), (1 : Nat)), ((1 : Nat), (1 : Nat)), ((1 : Nat), (1 : Nat)), ((1 : Nat), (1 : Nat)),             ((1 : Nat), c), ((1 : Nat), c)] },     ls :=       [mvs (1 : Nat) f, ints (1 : Nat) (planG (0 : Nat) fun _ => (0 : Int)),         ints (1 : Nat) (begS p (1 : Nat) f (planG (0 : Nat) fun _ => (0 : Int)) (lgS false f)),         ints (1 : Nat) (begS p (1 : Nat) f (planG (0 : Nat) fun _ => (0 : Int)) (lgS true f)),         spansC (1 : Nat) (latS false p (1 : Nat) f (planG (0 : Nat) fun _ => (0 : Int)))           (latS true p (1 : Nat) f (planG (0 : Nat) fun _ => (0 : Int)))],     es := [] }) :: (26, Hint.con   (C15e p (1 : Nat) c ((1 : Nat) + (1 : Nat)) ((1 : Nat) + (1 : Nat)) f     (consF (0 : Int) (planG (0 : Nat) fun _ => (0 : Int))) (bad0 (1 : Nat) (planG (0 : Nat) fun _ => (0 : Int))))) :: (17, Hint.con   (C15e p (1 : Nat) c (1 : Nat) (1 : Nat) f     (consF (-1 : Int) fun i => planG (0 : Nat) (fun _ => (0 : Int)) (i + (1 : Nat))) [I (-1 : Int)])) :: (17, Hint.con   (C15e p (1 : Nat) c (1 : Nat) (1 : Nat) f     (consF (7 : Int) fun i => planG (0 : Nat) (fun _ => (0 : Int)) (i + (1 : Nat))) [I (7 : Int)])) :: (16, Hint.con (C18e p (1 : Nat) c f)) :: (6, Hint.con   (C19 p (221 : Int) (1 : Nat) c f     (Value.tuple { toList := [Value.agg { toList := [I (0 : Int), I (0 : Int)] }, I (2 : Int)] }))) :: (7, Hint.con (C23e p (1 : Nat) c f)) :: (16, Hint.con C12) :: []))])) =
(((ConOK Try.prog ((21 : Nat)) ((C21 p (1 : Nat) c f).when (ARes.ret (Value.bool true)))) ∧ (Con.pre ((C21 p (1 : Nat) c f).when (ARes.ret (Value.bool true))) ⟨⟨[(.int IntKind.i64 (p))], [⟨((1 : Nat)), (c)⟩]⟩, [[(.int IntKind.i64 ((f (0 : Nat)).at_)), (.int IntKind.i64 ((f (0 : Nat)).place)), (.int IntKind.i64 ((f (0 : Nat)).lo)), (.int IntKind.i64 ((f (0 : Nat)).hi))]]⟩) ∧ 
((ConNOK Try.prog ((13 : Nat)) (C13n p (1 : Nat) c f)) ∧ (ConN.pre (C13n p (1 : Nat) c f) ⟨⟨[(.int IntKind.i64 (p))], [⟨((1 : Nat)), (c)⟩]⟩, [[(.int IntKind.i64 ((f (0 : Nat)).at_)), (.int IntKind.i64 ((f (0 : Nat)).place)), (.int IntKind.i64 ((f (0 : Nat)).lo)), (.int IntKind.i64 ((f (0 : Nat)).hi))]]⟩) ∧ 
((ClW ⟨⟨[(.int IntKind.i64 ((IntKind.i64.wrap m8).tmod (221 : Int))), (.int IntKind.i64 ((↑(1 : Nat) : Int))), (.int IntKind.i64 ((0 : Int))), (.int IntKind.i64 (p)), (.int IntKind.i64 ((0 : Int))), (.int IntKind.i64 ((0 : Int)))], [⟨((1 : Nat)), ((1 : Nat))⟩, ⟨((1 : Nat)), (c)⟩, ⟨((1 : Nat)), (c)⟩]⟩, [[(.int IntKind.i64 ((f (0 : Nat)).at_)), (.int IntKind.i64 ((f (0 : Nat)).place)), (.int IntKind.i64 ((f (0 : Nat)).lo)), (.int IntKind.i64 ((f (0 : Nat)).hi))], [(.int IntKind.i64 (planG (0 : Nat) (fun _ => (0 : Int)) (0 : Nat)))]], []⟩) ∧ (LoopOW Try.prog .none p4a (T4a) ⟨⟨[(.int IntKind.i64 ((IntKind.i64.wrap m8).tmod (221 : Int))), (.int IntKind.i64 ((↑(1 : Nat) : Int))), (.int IntKind.i64 ((0 : Int))), (.int IntKind.i64 (p)), (.int IntKind.i64 ((0 : Int))), (.int IntKind.i64 ((0 : Int)))], [⟨((1 : Nat)), ((1 : Nat))⟩, ⟨((1 : Nat)), (c)⟩, ⟨((1 : Nat)), (c)⟩]⟩, [[(.int IntKind.i64 ((f (0 : Nat)).at_)), (.int IntKind.i64 ((f (0 : Nat)).place)), (.int IntKind.i64 ((f (0 : Nat)).lo)), (.int IntKind.i64 ((f (0 : Nat)).hi))], [(.int IntKind.i64 (planG (0 : Nat) (fun _ => (0 : Int)) (0 : Nat)))]], []⟩ (.exit ((0 : Nat))) (T4b) ⟨⟨[(.int IntKind.i64 ((IntKind.i64.wrap m8).tmod (OfNat.ofNat (221 : Nat)))), (.int IntKind.i64 ((↑(1 : Nat) : Int))), (.int IntKind.i64 ((↑(1 : Nat) : Int))), (.int IntKind.i64 (p)), (.int IntKind.i64 ((↑(cntN (undB ((IntKind.i64.wrap m8).tmod (OfNat.ofNat (221 : Nat))) f (lgS false f)) (1 : Nat)) : Int))), (.int IntKind.i64 ((↑(cntN (undB ((IntKind.i64.wrap m8).tmod (OfNat.ofNat (221 : Nat))) f (lgS true f)) (1 : Nat)) : Int)))], [⟨((1 : Nat)), ((1 : Nat))⟩, ⟨((1 : Nat)), ((1 : Nat))⟩, ⟨((1 : Nat)), ((1 : Nat))⟩, ⟨((1 : Nat)), (c)⟩, ⟨((1 : Nat)), (c)⟩]⟩, [[(.int IntKind.i64 ((f (0 : Nat)).at_)), (.int IntKind.i64 ((f (0 : Nat)).place)), (.int IntKind.i64 ((f (0 : Nat)).lo)), (.int IntKind.i64 ((f (0 : Nat)).hi))], [(.int IntKind.i64 (planG (0 : Nat) (fun _ => (0 : Int)) (0 : Nat)))], [(.int IntKind.i64 (lgS false f (0 : Nat)))], [(.int IntKind.i64 (lgS true f (0 : Nat)))]], []⟩) ∧ 
((ConNOK Try.prog ((14 : Nat)) (C14 p (1 : Nat) c (1 : Nat) (1 : Nat) f (planG (0 : Nat) fun _ => (0 : Int)) (lgS false f))) ∧ (ConN.pre (C14 p (1 : Nat) c (1 : Nat) (1 : Nat) f (planG (0 : Nat) fun _ => (0 : Int)) (lgS false f)) ⟨⟨[(.int IntKind.i64 (p))], [⟨((1 : Nat)), (c)⟩, ⟨((1 : Nat)), ((1 : Nat))⟩, ⟨((1 : Nat)), ((1 : Nat))⟩]⟩, [[(.int IntKind.i64 ((f (0 : Nat)).at_)), (.int IntKind.i64 ((f (0 : Nat)).place)), (.int IntKind.i64 ((f (0 : Nat)).lo)), (.int IntKind.i64 ((f (0 : Nat)).hi))], [(.int IntKind.i64 (planG (0 : Nat) (fun _ => (0 : Int)) (0 : Nat)))], [(.int IntKind.i64 (lgS false f (0 : Nat)))]]⟩) ∧ 
((((((2 : Nat) ≤ (2 : Nat))) ∧ (((.agg ⟨[(.int IntKind.i64 (p)), (.slice (.some ⟨((0 : Nat)), ((0 : Nat)), .none⟩) ((1 : Nat)) (c))]⟩) : Value) = (.agg ⟨[(.int IntKind.i64 (p)), (.slice (.some ⟨((0 : Nat)), ((0 : Nat)), .none⟩) ((1 : Nat)) (c))]⟩))) ∧ (True)) ∧ 
((ConNOK Try.prog ((14 : Nat)) (C14 p (1 : Nat) c (1 : Nat) (1 : Nat) f (planG (0 : Nat) fun _ => (0 : Int)) (lgS true f))) ∧ (ConN.pre (C14 p (1 : Nat) c (1 : Nat) (1 : Nat) f (planG (0 : Nat) fun _ => (0 : Int)) (lgS true f)) ⟨⟨[(.int IntKind.i64 (p))], [⟨((1 : Nat)), (c)⟩, ⟨((1 : Nat)), ((1 : Nat))⟩, ⟨((1 : Nat)), ((1 : Nat))⟩]⟩, [[(.int IntKind.i64 ((f (0 : Nat)).at_)), (.int IntKind.i64 ((f (0 : Nat)).place)), (.int IntKind.i64 ((f (0 : Nat)).lo)), (.int IntKind.i64 ((f (0 : Nat)).hi))], [(.int IntKind.i64 (planG (0 : Nat) (fun _ => (0 : Int)) (0 : Nat)))], [(.int IntKind.i64 (lgS true f (0 : Nat)))]]⟩) ∧ 
((ConNOK Try.prog ((15 : Nat)) (C15 p (1 : Nat) c (1 : Nat) f (planG (0 : Nat) fun _ => (0 : Int)))) ∧ (ConN.pre (C15 p (1 : Nat) c (1 : Nat) f (planG (0 : Nat) fun _ => (0 : Int))) ⟨⟨[(.int IntKind.i64 (p))], [⟨((1 : Nat)), (c)⟩, ⟨((1 : Nat)), ((1 : Nat))⟩]⟩, [[(.int IntKind.i64 ((f (0 : Nat)).at_)), (.int IntKind.i64 ((f (0 : Nat)).place)), (.int IntKind.i64 ((f (0 : Nat)).lo)), (.int IntKind.i64 ((f (0 : Nat)).hi))], [(.int IntKind.i64 (planG (0 : Nat) (fun _ => (0 : Int)) (0 : Nat)))]]⟩) ∧ 
((ConOK Try.prog ((19 : Nat)) (C19 p ((IntKind.i64.wrap m8).tmod (OfNat.ofNat (221 : Nat))) (1 : Nat) c f   (busyV ((IntKind.i64.wrap m8).tmod (OfNat.ofNat (221 : Nat))) (1 : Nat) f))) ∧ (Con.pre (C19 p ((IntKind.i64.wrap m8).tmod (OfNat.ofNat (221 : Nat))) (1 : Nat) c f   (busyV ((IntKind.i64.wrap m8).tmod (OfNat.ofNat (221 : Nat))) (1 : Nat) f)) ⟨⟨[(.int IntKind.i64 (p)), (.int IntKind.i64 ((IntKind.i64.wrap m8).tmod (OfNat.ofNat (221 : Nat))))], [⟨((1 : Nat)), (c)⟩]⟩, [[(.int IntKind.i64 ((f (0 : Nat)).at_)), (.int IntKind.i64 ((f (0 : Nat)).place)), (.int IntKind.i64 ((f (0 : Nat)).lo)), (.int IntKind.i64 ((f (0 : Nat)).hi))]]⟩) ∧ 
(((!((↑(cntN (undB ((IntKind.i64.wrap m8).tmod (OfNat.ofNat (221 : Nat))) f (lgS false f)) (1 : Nat)) : Int) ==       (↑(cntN (undB ((IntKind.i64.wrap m8).tmod (OfNat.ofNat (221 : Nat))) f (lgS false f)) (1 : Nat)) : Int) &&     (fun c =>         (↑(cntN (undB ((IntKind.i64.wrap m8).tmod (OfNat.ofNat (221 : Nat))) f (lgS true f)) (1 : Nat)) : Int) ==             (↑(cntN (undB ((IntKind.i64.wrap m8).tmod (OfNat.ofNat (221 : Nat))) f (lgS true f)) (1 : Nat)) : Int) &&           c)       true)) = true → R (.ret (.bool false))) ∧
((!((↑(cntN (undB ((IntKind.i64.wrap m8).tmod (OfNat.ofNat (221 : Nat))) f (lgS false f)) (1 : Nat)) : Int) ==       (↑(cntN (undB ((IntKind.i64.wrap m8).tmod (OfNat.ofNat (221 : Nat))) f (lgS false f)) (1 : Nat)) : Int) &&     (fun c =>         (↑(cntN (undB ((IntKind.i64.wrap m8).tmod (OfNat.ofNat (221 : Nat))) f (lgS true f)) (1 : Nat)) : Int) ==             (↑(cntN (undB ((IntKind.i64.wrap m8).tmod (OfNat.ofNat (221 : Nat))) f (lgS true f)) (1 : Nat)) : Int) &&           c)       true)) = false → ((ClW ⟨⟨[(.int IntKind.i64 ((↑(1 : Nat) : Int))), (.int IntKind.i64 ((0 : Int))), (.int IntKind.i64 (p))], [⟨((1 : Nat)), ((1 : Nat))⟩, ⟨((1 : Nat)), ((1 : Nat))⟩, ⟨((1 : Nat)), ((1 : Nat))⟩, ⟨((1 : Nat)), ((1 : Nat))⟩, ⟨((1 : Nat)), (c)⟩, ⟨((1 : Nat)), (c)⟩]⟩, [[(.int IntKind.i64 ((f (0 : Nat)).at_)), (.int IntKind.i64 ((f (0 : Nat)).place)), (.int IntKind.i64 ((f (0 : Nat)).lo)), (.int IntKind.i64 ((f (0 : Nat)).hi))], [(.int IntKind.i64 (planG (0 : Nat) (fun _ => (0 : Int)) (0 : Nat)))], [(.int IntKind.i64 (begS p (1 : Nat) f (planG (0 : Nat) fun _ => (0 : Int)) (lgS false f) (0 : Nat)))], [(.int IntKind.i64 (begS p (1 : Nat) f (planG (0 : Nat) fun _ => (0 : Int)) (lgS true f) (0 : Nat)))], [(.int IntKind.i64 (latS false p (1 : Nat) f (planG (0 : Nat) fun _ => (0 : Int)) (0 : Nat))), (.int IntKind.i64 (latS true p (1 : Nat) f (planG (0 : Nat) fun _ => (0 : Int)) (0 : Nat)))]], []⟩) ∧ (LoopOW Try.prog .none p4c (T4c) ⟨⟨[(.int IntKind.i64 ((↑(1 : Nat) : Int))), (.int IntKind.i64 ((0 : Int))), (.int IntKind.i64 (p))], [⟨((1 : Nat)), ((1 : Nat))⟩, ⟨((1 : Nat)), ((1 : Nat))⟩, ⟨((1 : Nat)), ((1 : Nat))⟩, ⟨((1 : Nat)), ((1 : Nat))⟩, ⟨((1 : Nat)), (c)⟩, ⟨((1 : Nat)), (c)⟩]⟩, [[(.int IntKind.i64 ((f (0 : Nat)).at_)), (.int IntKind.i64 ((f (0 : Nat)).place)), (.int IntKind.i64 ((f (0 : Nat)).lo)), (.int IntKind.i64 ((f (0 : Nat)).hi))], [(.int IntKind.i64 (planG (0 : Nat) (fun _ => (0 : Int)) (0 : Nat)))], [(.int IntKind.i64 (begS p (1 : Nat) f (planG (0 : Nat) fun _ => (0 : Int)) (lgS false f) (0 : Nat)))], [(.int IntKind.i64 (begS p (1 : Nat) f (planG (0 : Nat) fun _ => (0 : Int)) (lgS true f) (0 : Nat)))], [(.int IntKind.i64 (latS false p (1 : Nat) f (planG (0 : Nat) fun _ => (0 : Int)) (0 : Nat))), (.int IntKind.i64 (latS true p (1 : Nat) f (planG (0 : Nat) fun _ => (0 : Int)) (0 : Nat)))]], []⟩ (.exit ((2 : Nat))) (T4c) ⟨⟨[(.int IntKind.i64 ((↑(1 : Nat) : Int))), (.int IntKind.i64 ((↑(1 : Nat) : Int))), (.int IntKind.i64 (p))], [⟨((1 : Nat)), ((1 : Nat))⟩, ⟨((1 : Nat)), ((1 : Nat))⟩, ⟨((1 : Nat)), ((1 : Nat))⟩, ⟨((1 : Nat)), ((1 : Nat))⟩, ⟨((1 : Nat)), (c)⟩, ⟨((1 : Nat)), (c)⟩]⟩, [[(.int IntKind.i64 ((f (0 : Nat)).at_)), (.int IntKind.i64 ((f (0 : Nat)).place)), (.int IntKind.i64 ((f (0 : Nat)).lo)), (.int IntKind.i64 ((f (0 : Nat)).hi))], [(.int IntKind.i64 (planG (0 : Nat) (fun _ => (0 : Int)) (0 : Nat)))], [(.int IntKind.i64 (begS p (1 : Nat) f (planG (0 : Nat) fun _ => (0 : Int)) (lgS false f) (0 : Nat)))], [(.int IntKind.i64 (begS p (1 : Nat) f (planG (0 : Nat) fun _ => (0 : Int)) (lgS true f) (0 : Nat)))], [(.int IntKind.i64 (latS false p (1 : Nat) f (planG (0 : Nat) fun _ => (0 : Int)) (0 : Nat))), (.int IntKind.i64 (latS true p (1 : Nat) f (planG (0 : Nat) fun _ => (0 : Int)) (0 : Nat)))]], []⟩) ∧ 
((ConOK Try.prog ((15 : Nat)) (C15e p (1 : Nat) c (2 : Nat) (2 : Nat) f (consF (0 : Int) (planG (0 : Nat) fun _ => (0 : Int)))   [Value.int IntKind.i64 (0 : Int), Value.int IntKind.i64 (planG (0 : Nat) (fun _ => (0 : Int)) (0 : Nat))])) ∧ (Con.pre (C15e p (1 : Nat) c (2 : Nat) (2 : Nat) f (consF (0 : Int) (planG (0 : Nat) fun _ => (0 : Int)))   [Value.int IntKind.i64 (0 : Int), Value.int IntKind.i64 (planG (0 : Nat) (fun _ => (0 : Int)) (0 : Nat))]) ⟨⟨[(.int IntKind.i64 (p))], [⟨((1 : Nat)), (c)⟩, ⟨((2 : Nat)), ((2 : Nat))⟩]⟩, [[(.int IntKind.i64 ((f (0 : Nat)).at_)), (.int IntKind.i64 ((f (0 : Nat)).place)), (.int IntKind.i64 ((f (0 : Nat)).lo)), (.int IntKind.i64 ((f (0 : Nat)).hi))], [(.int IntKind.i64 ((0 : Int))), (.int IntKind.i64 (planG (0 : Nat) (fun _ => (0 : Int)) (0 : Nat)))]]⟩) ∧ 
((ConOK Try.prog ((15 : Nat)) (C15e p (1 : Nat) c (1 : Nat) (1 : Nat) f   (consF (-1 : Int) fun i => planG (0 : Nat) (fun _ => (0 : Int)) (i + (1 : Nat))) [Value.int IntKind.i64 (-1 : Int)])) ∧ (Con.pre (C15e p (1 : Nat) c (1 : Nat) (1 : Nat) f   (consF (-1 : Int) fun i => planG (0 : Nat) (fun _ => (0 : Int)) (i + (1 : Nat))) [Value.int IntKind.i64 (-1 : Int)]) ⟨⟨[(.int IntKind.i64 (p))], [⟨((1 : Nat)), (c)⟩, ⟨((1 : Nat)), ((1 : Nat))⟩]⟩, [[(.int IntKind.i64 ((f (0 : Nat)).at_)), (.int IntKind.i64 ((f (0 : Nat)).place)), (.int IntKind.i64 ((f (0 : Nat)).lo)), (.int IntKind.i64 ((f (0 : Nat)).hi))], [(.int IntKind.i64 ((-1 : Int)))]]⟩) ∧ 
((ConOK Try.prog ((15 : Nat)) (C15e p (1 : Nat) c (1 : Nat) (1 : Nat) f (consF (7 : Int) fun i => planG (0 : Nat) (fun _ => (0 : Int)) (i + (1 : Nat)))   [Value.int IntKind.i64 (7 : Int)])) ∧ (Con.pre (C15e p (1 : Nat) c (1 : Nat) (1 : Nat) f (consF (7 : Int) fun i => planG (0 : Nat) (fun _ => (0 : Int)) (i + (1 : Nat)))   [Value.int IntKind.i64 (7 : Int)]) ⟨⟨[(.int IntKind.i64 (p))], [⟨((1 : Nat)), (c)⟩, ⟨((1 : Nat)), ((1 : Nat))⟩]⟩, [[(.int IntKind.i64 ((f (0 : Nat)).at_)), (.int IntKind.i64 ((f (0 : Nat)).place)), (.int IntKind.i64 ((f (0 : Nat)).lo)), (.int IntKind.i64 ((f (0 : Nat)).hi))], [(.int IntKind.i64 ((7 : Int)))]]⟩) ∧ 
((ConOK Try.prog ((18 : Nat)) (C18e p (1 : Nat) c f)) ∧ (Con.pre (C18e p (1 : Nat) c f) ⟨⟨[(.int IntKind.i64 (p)), (.int IntKind.i64 ((↑(1 : Nat) : Int)))], [⟨((1 : Nat)), (c)⟩]⟩, [[(.int IntKind.i64 ((f (0 : Nat)).at_)), (.int IntKind.i64 ((f (0 : Nat)).place)), (.int IntKind.i64 ((f (0 : Nat)).lo)), (.int IntKind.i64 ((f (0 : Nat)).hi))]]⟩) ∧ 
((ConOK Try.prog ((19 : Nat)) (C19 p (221 : Int) (1 : Nat) c f   (Value.tuple { toList := [Value.agg { toList := [I (0 : Int), I (0 : Int)] }, I (2 : Int)] }))) ∧ (Con.pre (C19 p (221 : Int) (1 : Nat) c f   (Value.tuple { toList := [Value.agg { toList := [I (0 : Int), I (0 : Int)] }, I (2 : Int)] })) ⟨⟨[(.int IntKind.i64 (p)), (.int IntKind.i64 ((221 : Int)))], [⟨((1 : Nat)), (c)⟩]⟩, [[(.int IntKind.i64 ((f (0 : Nat)).at_)), (.int IntKind.i64 ((f (0 : Nat)).place)), (.int IntKind.i64 ((f (0 : Nat)).lo)), (.int IntKind.i64 ((f (0 : Nat)).hi))]]⟩) ∧ 
((ConOK Try.prog ((23 : Nat)) (C23e p (1 : Nat) c f)) ∧ (Con.pre (C23e p (1 : Nat) c f) ⟨⟨[(.int IntKind.i64 (p))], [⟨((1 : Nat)), (c)⟩]⟩, [[(.int IntKind.i64 ((f (0 : Nat)).at_)), (.int IntKind.i64 ((f (0 : Nat)).place)), (.int IntKind.i64 ((f (0 : Nat)).lo)), (.int IntKind.i64 ((f (0 : Nat)).hi))]]⟩) ∧ 
((ConOK Try.prog ((12 : Nat)) (C12)) ∧ (Con.pre (C12) ⟨⟨[], []⟩, []⟩) ∧ 
R (.ret (.bool true))))))))))))))))))))) := by kernel_rfl

theorem g4x (p : Int) (n c : Nat) (m8 : Int) (f : Nat → Mv) (R : ARes → Prop)  : (vx.call 4 [hV p n c, nilS, U8 m8] (retK R) (m2n (mvs n f)) ([(13, .split ((2, Hint.con C12) :: []) ((3, Hint.con ((C21 p n c f).when (ARes.ret (Value.bool false)))) :: (3, Hint.con (C15a p n c f)) :: (6, Hint.con   (C19 p (-1 : Int) n c f (Value.tuple { toList := [Value.agg { toList := [I (0 : Int), I (0 : Int)] }, I (1 : Int)] }))) :: (19, Hint.con C12) :: []))])) =
((((decide ((if (↑(0 : Nat) : Int) > (↑n : Int) then (↑(0 : Nat) : Int) else (↑n : Int)) > (40 : Int))) = true → ((ConOK Try.prog ((12 : Nat)) (C12)) ∧ (Con.pre (C12) ⟨⟨[], []⟩, []⟩) ∧ 
R (.ret (.bool true)))) ∧
((decide ((if (↑(0 : Nat) : Int) > (↑n : Int) then (↑(0 : Nat) : Int) else (↑n : Int)) > (40 : Int))) = false → ((ConOK Try.prog ((21 : Nat)) ((C21 p n c f).when (ARes.ret (Value.bool false)))) ∧ (Con.pre ((C21 p n c f).when (ARes.ret (Value.bool false))) ⟨⟨[(.int IntKind.i64 (p))], [⟨(n), (c)⟩]⟩, [(mvs n f)]⟩) ∧ 
((ConOK Try.prog ((15 : Nat)) (C15a p n c f)) ∧ (Con.pre (C15a p n c f) ⟨⟨[(.int IntKind.i64 (p))], [⟨(n), (c)⟩]⟩, [(mvs n f)]⟩) ∧ 
((ConOK Try.prog ((19 : Nat)) (C19 p (-1 : Int) n c f (Value.tuple { toList := [Value.agg { toList := [I (0 : Int), I (0 : Int)] }, I (1 : Int)] }))) ∧ (Con.pre (C19 p (-1 : Int) n c f (Value.tuple { toList := [Value.agg { toList := [I (0 : Int), I (0 : Int)] }, I (1 : Int)] })) ⟨⟨[(.int IntKind.i64 (p)), (.int IntKind.i64 ((-1 : Int)))], [⟨(n), (c)⟩]⟩, [(mvs n f)]⟩) ∧ 
((ConOK Try.prog ((12 : Nat)) (C12)) ∧ (Con.pre (C12) ⟨⟨[], []⟩, []⟩) ∧ 
R (.ret (.bool true))))))))) := by kernel_rfl

set_option maxHeartbeats 4000000 in
theorem law4n (p : Int) (n c : Nat) (m8 : Int) (f : Nat → Mv) (h0 : 0 < n) (hn : n ≤ 1000000) (hm8 : 0 ≤ m8 ∧ m8 < 256) :
    ∃ hs, vx.call 4 [hV p n c, nilS, U8 m8] (retK fun r => r = .ret (.bool true)) (m2n (mvs n f)) hs := by
  have hwhen : ∀ r, ConOK Try.prog 21 ((C21 p n c f).when r) := fun r => con_when (C21_ok p n c f hn) r
  have key : ∀ R : ARes → Prop, R (.ret (.bool true)) → ∃ hs, vx.call 4 [hV p n c, nilS, U8 m8] (retK R) (m2n (mvs n f)) hs := by
    intro R hR
    cases hok : okH p n f with
    | false =>
      have hr : (C21 p n c f).res ⟨⟨[I p], [(n, c)]⟩, [mvs n f]⟩ = .ret (.bool false) := by show ARes.ret (.bool (okH p n f)) = _; rw [hok]
      refine ⟨_, (g4x p n c m8 f R).mpr ?_⟩
      repeat' (first | with_reducible apply And.intro | with_reducible intro)
      all_goals first
        | exact C12_ok
        | exact hwhen _
        | exact C15a_ok p n c f hn hok
        | exact C19a_ok p _ n c f hn hok
        | trivial
        | exact hR
        | rfl
        | exact ⟨rfl, hr⟩
        | (exfalso; simp_all; done)
    | true =>
      have hr : (C21 p n c f).res ⟨⟨[I p], [(n, c)]⟩, [mvs n f]⟩ = .ret (.bool true) := by show ARes.ret (.bool (okH p n f)) = _; rw [hok]
      have h7 := (okH_iff hok).n7
      have hpl := plan_ok (n := n) (k := 0) (b := fun _ => 0) (fun i hi => by omega)
      obtain ⟨ma, mb⟩ := min_mod hm8
      have hl4a := loop4a (a := (IntKind.i64.wrap m8).tmod 221) (c := c) (ps := ints n (planG 0 fun _ => 0)) h0 hok (ints_atom n _)
      have hc4a := st4a_cl p ((IntKind.i64.wrap m8).tmod 221) n c f (ints_atom n (planG 0 fun _ => 0)) 0
      have hl4c := loop4c (c := c) (g := planG 0 fun _ => 0) hok
      have hc4c := h4c_cl (p := p) (n := n) (f := f) (c := c) (i := 0) (g := planG 0 fun _ => 0)
      by_cases h1 : n = 1
      · subst h1
        refine ⟨_, (f4n1 p c m8 f R).mpr ?_⟩
        repeat' (first | with_reducible apply And.intro | with_reducible intro)
        all_goals first
          | exact hwhen _
          | exact ⟨rfl, hr⟩
          | exact C13n_ok p 1 c f h0 hn
          | exact hc4a
          | exact hl4a
          | exact C14_ok p 1 c 1 1 f _ _ hok (lgS_le hok _)
          | exact C15_ok p 1 c 1 f _ h0 hok hpl
          | exact C19_ok p _ 1 c f hok ma mb
          | exact hc4c
          | exact hl4c
          | exact C15e_ok p 1 c 2 2 f (consF 0 (planG 0 fun _ => 0)) _ rfl (by omega) hok (okP_bad0 1 _)
          | exact C15e_ok p 1 c 1 1 f (consF (-1) _) _ rfl (by omega) hok (okP_first (k := 0) _ rfl)
          | exact C15e_ok p 1 c 1 1 f (consF 7 _) _ rfl (by omega) hok (okP_first (k := 0) _ rfl)
          | exact C18e_ok p 1 c f hok
          | exact C19e_ok p 221 1 c f hok (by omega)
          | exact C23e_ok p 1 c f hok
          | exact C12_ok
          | trivial
          | exact hR
          | omega
          | rfl
          | (exfalso; exact spans_same _ _ ‹_›)
      · have hmn : (if (n : Int) < (1 : Int) then (n : Int) else (1 : Int)) = 1 := by rw [if_neg (by omega)]
        simp only [st4a, if_neg (show ¬ n = 0 by omega), if_true] at hl4a hc4a
        refine ⟨_, (f4n p n c m8 f R).mpr ?_⟩
        repeat' (first | with_reducible apply And.intro | with_reducible intro)
        all_goals first
          | (rw [far_no h7]; done)
          | exact hwhen _
          | exact ⟨rfl, hr⟩
          | exact C13n_ok p n c f h0 hn
          | exact hc4a
          | exact hl4a
          | exact C14_ok p n c n n f _ _ hok (lgS_le hok _)
          | exact C15_ok p n c n f _ h0 hok hpl
          | exact C19_ok p _ n c f hok ma mb
          | exact hc4c
          | exact hl4c
          | exact C15b0_ok p n c _ f _ hok
          | exact C15b1_ok _ p n c _ f _ h0 rfl hok
          | exact C18e_ok p n c f hok
          | exact C19e_ok p 221 n c f hok (by omega)
          | exact C23e_ok p n c f hok
          | exact C12_ok
          | trivial
          | exact hR
          | omega
          | rfl
          | exact ints_one n _ _ _
          | (rw [hmn]; omega)
          | (rw [ints_len]; omega)
          | (rw [ints_len, hmn]; omega)
          | (rw [bne_self_eq_false]; done)
          | (change (_ : Hx) = _; kernel_rfl)
          | (exfalso; exact spans_same _ _ ‹_›)
  exact key _ rfl
end Go.Ab

/- no moves: what is told, and what is refused. -/
set_option maxRecDepth 100000
namespace Go.Ab
open Go Go.RowKit Go.Proofs
noncomputable def md1 : Mem := ⟨fillX [.dead] 0 .nil, 1⟩
noncomputable def md0 : Mem := ⟨.nil, 0⟩
noncomputable def md2 (v : Int) : Mem := ⟨fillX [.dead, .cells [I v] 3 .ro] 0 .nil, 2⟩
noncomputable def mdr (v : Int) : Mem := ⟨fillX [.cells [I v] 3 .ro] 0 .nil, 1⟩
noncomputable def K0 (A : TL) (bs : List TB) (x0 : Hx) (r : Value) : Con := ⟨A, bs, fun x => x = x0, fun _ => .ret r⟩
theorem K0_ok {g : FuncId} {A : TL} {bs : List TB} {x0 : Hx} {r : Value} (h : ∃ hs, vx.call g ((K0 A bs x0 r).args x0) (retK fun r' => r' = .ret r) ((K0 A bs x0 r).mem x0) hs) (hc : cl 50 r = true) (ha : Atoms x0.ls) (hr : allRo bs = true) (hs : bs.length ≤ 1000000) : ConOK Try.prog g (K0 A bs x0 r) :=
  con_of vx_sound x0 (fun x hx => by cases hx; exact h) rfl (fun _ _ => hc) (fun x hx => by cases hx; exact ha) hr hs (by rw [nglob]; exact Nat.zero_le _)
theorem at0 : Atoms [] := fun cs h => by cases h
theorem at1 (v : Int) : Atoms [[I v]] := fun cs h => by
  simp only [List.mem_singleton] at h
  subst h
  intro u hu
  simp only [List.mem_singleton] at hu
  subst hu
  rfl
theorem q21s (p : Int) (c : Nat) (R : ARes → Prop)  : (vx.call 21 [hV p 0 c] (retK R) md1 ([(9, .split ([(3, .split ([]) ([]))]) ([]))])) =
((((decide ((0 : Int) ≤ p)) = true → (((decide (p ≤ (3 : Int))) = true → R (.ret (.bool true))) ∧
((decide (p ≤ (3 : Int))) = false → R (.ret (.bool false))))) ∧
((decide ((0 : Int) ≤ p)) = false → R (.ret (.bool false))))) := by kernel_rfl

theorem q15s (p : Int) (c : Nat) (R : ARes → Prop)  : (vx.call 15 [hV p 0 c, nilS] (retK R) md1 ([(28, .split ([(3, .split ((135, Hint.again) :: []) ([]))]) ([]))])) =
((((decide ((0 : Int) ≤ p)) = true → (((decide (p ≤ (3 : Int))) = true → ((((((2 : Nat) ≤ (2 : Nat))) ∧ (((.agg ⟨[(.int IntKind.i64 (p)), (.slice (.some ⟨((0 : Nat)), ((0 : Nat)), .none⟩) ((0 : Nat)) (c))]⟩) : Value) = (.agg ⟨[(.int IntKind.i64 (p)), (.slice (.some ⟨((0 : Nat)), ((0 : Nat)), .none⟩) ((0 : Nat)) (c))]⟩))) ∧ (True)) ∧ 
R (.ret (.tuple ⟨[(.slice .none ((0 : Nat)) ((0 : Nat))), (.int IntKind.i64 ((0 : Int)))]⟩)))) ∧
((decide (p ≤ (3 : Int))) = false → R (.ret (.tuple ⟨[(.slice .none ((0 : Nat)) ((0 : Nat))), (.int IntKind.i64 ((1 : Int)))]⟩))))) ∧
((decide ((0 : Int) ≤ p)) = false → R (.ret (.tuple ⟨[(.slice .none ((0 : Nat)) ((0 : Nat))), (.int IntKind.i64 ((1 : Int)))]⟩))))) := by kernel_rfl

theorem q15bs (p : Int) (c : Nat) (v : Int) (R : ARes → Prop)  : (vx.call 15 [hV p 0 c, slV 1 1 1] (retK R) (md2 v) ([(28, .split ([(3, .split ([]) ([]))]) ([]))])) =
((((decide ((0 : Int) ≤ p)) = true → (((decide (p ≤ (3 : Int))) = true → R (.ret (.tuple ⟨[(.slice .none ((0 : Nat)) ((0 : Nat))), (.int IntKind.i64 ((2 : Int)))]⟩))) ∧
((decide (p ≤ (3 : Int))) = false → R (.ret (.tuple ⟨[(.slice .none ((0 : Nat)) ((0 : Nat))), (.int IntKind.i64 ((1 : Int)))]⟩))))) ∧
((decide ((0 : Int) ≤ p)) = false → R (.ret (.tuple ⟨[(.slice .none ((0 : Nat)) ((0 : Nat))), (.int IntKind.i64 ((1 : Int)))]⟩))))) := by kernel_rfl

theorem q19s (p : Int) (c : Nat) (v : Int) (R : ARes → Prop)  : (vx.call 19 [hV p 0 c, I v] (retK R) md1 ([(28, .split ([(3, .split ([(35, .split ([(3, .split ((29, Hint.again) :: []) ([]))]) ([]))]) ([]))]) ([]))])) =
((((decide ((0 : Int) ≤ p)) = true → (((decide (p ≤ (3 : Int))) = true → (((decide ((0 : Int) ≤ v)) = true → (((decide (v ≤ (220 : Int))) = true → (((((some (.int IntKind.i64 (v)) : Option Value) = some (.int IntKind.i64 (v)))) ∧ (((((2 : Nat) ≤ (2 : Nat))) ∧ (((.agg ⟨[(.int IntKind.i64 (p)), (.slice (.some ⟨((0 : Nat)), ((0 : Nat)), .none⟩) ((0 : Nat)) (c))]⟩) : Value) = (.agg ⟨[(.int IntKind.i64 (p)), (.slice (.some ⟨((0 : Nat)), ((0 : Nat)), .none⟩) ((0 : Nat)) (c))]⟩))) ∧ (True))) ∧ 
R (.ret (.tuple ⟨[(.agg ⟨[(.int IntKind.i64 ((0 : Int))), (.int IntKind.i64 ((0 : Int)))]⟩), (.int IntKind.i64 ((0 : Int)))]⟩)))) ∧
((decide (v ≤ (220 : Int))) = false → R (.ret (.tuple ⟨[(.agg ⟨[(.int IntKind.i64 ((0 : Int))), (.int IntKind.i64 ((0 : Int)))]⟩), (.int IntKind.i64 ((2 : Int)))]⟩))))) ∧
((decide ((0 : Int) ≤ v)) = false → R (.ret (.tuple ⟨[(.agg ⟨[(.int IntKind.i64 ((0 : Int))), (.int IntKind.i64 ((0 : Int)))]⟩), (.int IntKind.i64 ((2 : Int)))]⟩))))) ∧
((decide (p ≤ (3 : Int))) = false → R (.ret (.tuple ⟨[(.agg ⟨[(.int IntKind.i64 ((0 : Int))), (.int IntKind.i64 ((0 : Int)))]⟩), (.int IntKind.i64 ((1 : Int)))]⟩))))) ∧
((decide ((0 : Int) ≤ p)) = false → R (.ret (.tuple ⟨[(.agg ⟨[(.int IntKind.i64 ((0 : Int))), (.int IntKind.i64 ((0 : Int)))]⟩), (.int IntKind.i64 ((1 : Int)))]⟩))))) := by kernel_rfl

theorem q18s (p : Int) (c : Nat) (R : ARes → Prop)  : (vx.call 18 [hV p 0 c, I (0 : Nat), I 0] (retK R) md1 ([(29, .split ([(3, .split ([]) ([]))]) ([]))])) =
((((decide ((0 : Int) ≤ p)) = true → (((decide (p ≤ (3 : Int))) = true → R (.ret (.tuple ⟨[(.int IntKind.i64 ((0 : Int))), (.int IntKind.i64 ((2 : Int)))]⟩))) ∧
((decide (p ≤ (3 : Int))) = false → R (.ret (.tuple ⟨[(.int IntKind.i64 ((0 : Int))), (.int IntKind.i64 ((1 : Int)))]⟩))))) ∧
((decide ((0 : Int) ≤ p)) = false → R (.ret (.tuple ⟨[(.int IntKind.i64 ((0 : Int))), (.int IntKind.i64 ((1 : Int)))]⟩))))) := by kernel_rfl

theorem q23s (p : Int) (c : Nat) (R : ARes → Prop)  : (vx.call 23 [hV p 0 c, I 8, .bool true] (retK R) md1 ([(29, .split ([(3, .split ([]) ([]))]) ([]))])) =
((((decide ((0 : Int) ≤ p)) = true → (((decide (p ≤ (3 : Int))) = true → R (.ret (.tuple ⟨[(.int IntKind.i64 ((0 : Int))), (.int IntKind.i64 ((2 : Int)))]⟩))) ∧
((decide (p ≤ (3 : Int))) = false → R (.ret (.tuple ⟨[(.int IntKind.i64 ((0 : Int))), (.int IntKind.i64 ((1 : Int)))]⟩))))) ∧
((decide ((0 : Int) ≤ p)) = false → R (.ret (.tuple ⟨[(.int IntKind.i64 ((0 : Int))), (.int IntKind.i64 ((1 : Int)))]⟩))))) := by kernel_rfl

theorem q21n (p : Int) (R : ARes → Prop)  : (vx.call 21 [hN p] (retK R) md0 ([(9, .split ([(3, .split ([]) ([]))]) ([]))])) =
((((decide ((0 : Int) ≤ p)) = true → (((decide (p ≤ (3 : Int))) = true → R (.ret (.bool true))) ∧
((decide (p ≤ (3 : Int))) = false → R (.ret (.bool false))))) ∧
((decide ((0 : Int) ≤ p)) = false → R (.ret (.bool false))))) := by kernel_rfl

theorem q15n (p : Int) (R : ARes → Prop)  : (vx.call 15 [hN p, nilS] (retK R) md0 ([(28, .split ([(3, .split ((135, Hint.again) :: []) ([]))]) ([]))])) =
((((decide ((0 : Int) ≤ p)) = true → (((decide (p ≤ (3 : Int))) = true → ((((((2 : Nat) ≤ (2 : Nat))) ∧ (((.agg ⟨[(.int IntKind.i64 (p)), (.slice .none ((0 : Nat)) ((0 : Nat)))]⟩) : Value) = (.agg ⟨[(.int IntKind.i64 (p)), (.slice .none ((0 : Nat)) ((0 : Nat)))]⟩))) ∧ (True)) ∧ 
R (.ret (.tuple ⟨[(.slice .none ((0 : Nat)) ((0 : Nat))), (.int IntKind.i64 ((0 : Int)))]⟩)))) ∧
((decide (p ≤ (3 : Int))) = false → R (.ret (.tuple ⟨[(.slice .none ((0 : Nat)) ((0 : Nat))), (.int IntKind.i64 ((1 : Int)))]⟩))))) ∧
((decide ((0 : Int) ≤ p)) = false → R (.ret (.tuple ⟨[(.slice .none ((0 : Nat)) ((0 : Nat))), (.int IntKind.i64 ((1 : Int)))]⟩))))) := by kernel_rfl

theorem q15bn (p : Int) (v : Int) (R : ARes → Prop)  : (vx.call 15 [hN p, slV 0 1 1] (retK R) (mdr v) ([(28, .split ([(3, .split ([]) ([]))]) ([]))])) =
((((decide ((0 : Int) ≤ p)) = true → (((decide (p ≤ (3 : Int))) = true → R (.ret (.tuple ⟨[(.slice .none ((0 : Nat)) ((0 : Nat))), (.int IntKind.i64 ((2 : Int)))]⟩))) ∧
((decide (p ≤ (3 : Int))) = false → R (.ret (.tuple ⟨[(.slice .none ((0 : Nat)) ((0 : Nat))), (.int IntKind.i64 ((1 : Int)))]⟩))))) ∧
((decide ((0 : Int) ≤ p)) = false → R (.ret (.tuple ⟨[(.slice .none ((0 : Nat)) ((0 : Nat))), (.int IntKind.i64 ((1 : Int)))]⟩))))) := by kernel_rfl

theorem q19n (p : Int) (v : Int) (R : ARes → Prop)  : (vx.call 19 [hN p, I v] (retK R) md0 ([(28, .split ([(3, .split ([(35, .split ([(3, .split ((29, Hint.again) :: []) ([]))]) ([]))]) ([]))]) ([]))])) =
((((decide ((0 : Int) ≤ p)) = true → (((decide (p ≤ (3 : Int))) = true → (((decide ((0 : Int) ≤ v)) = true → (((decide (v ≤ (220 : Int))) = true → (((((some (.int IntKind.i64 (v)) : Option Value) = some (.int IntKind.i64 (v)))) ∧ (((((2 : Nat) ≤ (2 : Nat))) ∧ (((.agg ⟨[(.int IntKind.i64 (p)), (.slice .none ((0 : Nat)) ((0 : Nat)))]⟩) : Value) = (.agg ⟨[(.int IntKind.i64 (p)), (.slice .none ((0 : Nat)) ((0 : Nat)))]⟩))) ∧ (True))) ∧ 
R (.ret (.tuple ⟨[(.agg ⟨[(.int IntKind.i64 ((0 : Int))), (.int IntKind.i64 ((0 : Int)))]⟩), (.int IntKind.i64 ((0 : Int)))]⟩)))) ∧
((decide (v ≤ (220 : Int))) = false → R (.ret (.tuple ⟨[(.agg ⟨[(.int IntKind.i64 ((0 : Int))), (.int IntKind.i64 ((0 : Int)))]⟩), (.int IntKind.i64 ((2 : Int)))]⟩))))) ∧
((decide ((0 : Int) ≤ v)) = false → R (.ret (.tuple ⟨[(.agg ⟨[(.int IntKind.i64 ((0 : Int))), (.int IntKind.i64 ((0 : Int)))]⟩), (.int IntKind.i64 ((2 : Int)))]⟩))))) ∧
((decide (p ≤ (3 : Int))) = false → R (.ret (.tuple ⟨[(.agg ⟨[(.int IntKind.i64 ((0 : Int))), (.int IntKind.i64 ((0 : Int)))]⟩), (.int IntKind.i64 ((1 : Int)))]⟩))))) ∧
((decide ((0 : Int) ≤ p)) = false → R (.ret (.tuple ⟨[(.agg ⟨[(.int IntKind.i64 ((0 : Int))), (.int IntKind.i64 ((0 : Int)))]⟩), (.int IntKind.i64 ((1 : Int)))]⟩))))) := by kernel_rfl

theorem q18n (p : Int) (R : ARes → Prop)  : (vx.call 18 [hN p, I (0 : Nat), I 0] (retK R) md0 ([(29, .split ([(3, .split ([]) ([]))]) ([]))])) =
((((decide ((0 : Int) ≤ p)) = true → (((decide (p ≤ (3 : Int))) = true → R (.ret (.tuple ⟨[(.int IntKind.i64 ((0 : Int))), (.int IntKind.i64 ((2 : Int)))]⟩))) ∧
((decide (p ≤ (3 : Int))) = false → R (.ret (.tuple ⟨[(.int IntKind.i64 ((0 : Int))), (.int IntKind.i64 ((1 : Int)))]⟩))))) ∧
((decide ((0 : Int) ≤ p)) = false → R (.ret (.tuple ⟨[(.int IntKind.i64 ((0 : Int))), (.int IntKind.i64 ((1 : Int)))]⟩))))) := by kernel_rfl

theorem q23n (p : Int) (R : ARes → Prop)  : (vx.call 23 [hN p, I 8, .bool true] (retK R) md0 ([(29, .split ([(3, .split ([]) ([]))]) ([]))])) =
((((decide ((0 : Int) ≤ p)) = true → (((decide (p ≤ (3 : Int))) = true → R (.ret (.tuple ⟨[(.int IntKind.i64 ((0 : Int))), (.int IntKind.i64 ((2 : Int)))]⟩))) ∧
((decide (p ≤ (3 : Int))) = false → R (.ret (.tuple ⟨[(.int IntKind.i64 ((0 : Int))), (.int IntKind.i64 ((1 : Int)))]⟩))))) ∧
((decide ((0 : Int) ≤ p)) = false → R (.ret (.tuple ⟨[(.int IntKind.i64 ((0 : Int))), (.int IntKind.i64 ((1 : Int)))]⟩))))) := by kernel_rfl

noncomputable def K21st (p : Int) (c : Nat)  : Con := K0 (.agg (.hole (.slice 0 0 .nil)) .nil) [.dead] ⟨⟨[I p], [(0, c)]⟩, []⟩ (.bool true)
theorem K21st_ok (p : Int) (c : Nat)  (hp : 0 ≤ p ∧ p ≤ 3) : ConOK Try.prog 21 (K21st p c ) := by
  refine K0_ok ?_ rfl (at0) rfl (Nat.le_of_ble_eq_true rfl)
  refine ⟨_, (q21s p c  _).mpr ?_⟩
  repeat' (first | with_reducible apply And.intro | with_reducible intro)
  all_goals first
    | trivial
    | rfl
    | omega
    | (exfalso; simp only [decide_eq_true_eq, decide_eq_false_iff_not] at *; omega)
noncomputable def K21sf (p : Int) (c : Nat)  : Con := K0 (.agg (.hole (.slice 0 0 .nil)) .nil) [.dead] ⟨⟨[I p], [(0, c)]⟩, []⟩ (.bool false)
theorem K21sf_ok (p : Int) (c : Nat)  (hp : ¬ (0 ≤ p ∧ p ≤ 3)) : ConOK Try.prog 21 (K21sf p c ) := by
  refine K0_ok ?_ rfl (at0) rfl (Nat.le_of_ble_eq_true rfl)
  refine ⟨_, (q21s p c  _).mpr ?_⟩
  repeat' (first | with_reducible apply And.intro | with_reducible intro)
  all_goals first
    | trivial
    | rfl
    | omega
    | (exfalso; simp only [decide_eq_true_eq, decide_eq_false_iff_not] at *; omega)
noncomputable def K15st (p : Int) (c : Nat)  : Con := K0 (.agg (.hole (.slice 0 0 .nil)) (.val nilS .nil)) [.dead] ⟨⟨[I p], [(0, c)]⟩, []⟩ (.tuple ⟨[nilS, I 0]⟩)
theorem K15st_ok (p : Int) (c : Nat)  (hp : 0 ≤ p ∧ p ≤ 3) : ConOK Try.prog 15 (K15st p c ) := by
  refine K0_ok ?_ rfl (at0) rfl (Nat.le_of_ble_eq_true rfl)
  refine ⟨_, (q15s p c  _).mpr ?_⟩
  repeat' (first | with_reducible apply And.intro | with_reducible intro)
  all_goals first
    | trivial
    | rfl
    | omega
    | (exfalso; simp only [decide_eq_true_eq, decide_eq_false_iff_not] at *; omega)
noncomputable def K15sf (p : Int) (c : Nat)  : Con := K0 (.agg (.hole (.slice 0 0 .nil)) (.val nilS .nil)) [.dead] ⟨⟨[I p], [(0, c)]⟩, []⟩ (.tuple ⟨[nilS, I 1]⟩)
theorem K15sf_ok (p : Int) (c : Nat)  (hp : ¬ (0 ≤ p ∧ p ≤ 3)) : ConOK Try.prog 15 (K15sf p c ) := by
  refine K0_ok ?_ rfl (at0) rfl (Nat.le_of_ble_eq_true rfl)
  refine ⟨_, (q15s p c  _).mpr ?_⟩
  repeat' (first | with_reducible apply And.intro | with_reducible intro)
  all_goals first
    | trivial
    | rfl
    | omega
    | (exfalso; simp only [decide_eq_true_eq, decide_eq_false_iff_not] at *; omega)
noncomputable def K15bs (p : Int) (c : Nat) (v : Int) : Con := K0 (.agg (.hole (.slice 0 0 .nil)) (.slice 1 0 .nil)) [.dead, .list 3 .ro] ⟨⟨[I p], [(0, c), (1, 1)]⟩, [[I v]]⟩ (.tuple ⟨[nilS, I 2]⟩)
theorem K15bs_ok (p : Int) (c : Nat) (v : Int) (hp : 0 ≤ p ∧ p ≤ 3) : ConOK Try.prog 15 (K15bs p c v) := by
  refine K0_ok ?_ rfl (at1 v) rfl (Nat.le_of_ble_eq_true rfl)
  refine ⟨_, (q15bs p c v _).mpr ?_⟩
  repeat' (first | with_reducible apply And.intro | with_reducible intro)
  all_goals first
    | trivial
    | rfl
    | omega
    | (exfalso; simp only [decide_eq_true_eq, decide_eq_false_iff_not] at *; omega)
noncomputable def K19st (p : Int) (c : Nat) (m : Int) : Con := K0 (.agg (.hole (.slice 0 0 .nil)) (.hole .nil)) [.dead] ⟨⟨[I p, I m], [(0, c)]⟩, []⟩ (.tuple ⟨[.agg ⟨[I 0, I 0]⟩, I 0]⟩)
theorem K19st_ok (p : Int) (c : Nat) (m : Int) (hp : 0 ≤ p ∧ p ≤ 3) (hm : 0 ≤ m ∧ m ≤ 220) : ConOK Try.prog 19 (K19st p c m) := by
  refine K0_ok ?_ rfl (at0) rfl (Nat.le_of_ble_eq_true rfl)
  refine ⟨_, (q19s p c m _).mpr ?_⟩
  repeat' (first | with_reducible apply And.intro | with_reducible intro)
  all_goals first
    | trivial
    | rfl
    | omega
    | (exfalso; simp only [decide_eq_true_eq, decide_eq_false_iff_not] at *; omega)
noncomputable def K19se (p : Int) (c : Nat) (m : Int) : Con := K0 (.agg (.hole (.slice 0 0 .nil)) (.hole .nil)) [.dead] ⟨⟨[I p, I m], [(0, c)]⟩, []⟩ (.tuple ⟨[.agg ⟨[I 0, I 0]⟩, I 2]⟩)
theorem K19se_ok (p : Int) (c : Nat) (m : Int) (hp : 0 ≤ p ∧ p ≤ 3) (hm : 220 < m) : ConOK Try.prog 19 (K19se p c m) := by
  refine K0_ok ?_ rfl (at0) rfl (Nat.le_of_ble_eq_true rfl)
  refine ⟨_, (q19s p c m _).mpr ?_⟩
  repeat' (first | with_reducible apply And.intro | with_reducible intro)
  all_goals first
    | trivial
    | rfl
    | omega
    | (exfalso; simp only [decide_eq_true_eq, decide_eq_false_iff_not] at *; omega)
noncomputable def K19sf (p : Int) (c : Nat) (m : Int) : Con := K0 (.agg (.hole (.slice 0 0 .nil)) (.hole .nil)) [.dead] ⟨⟨[I p, I m], [(0, c)]⟩, []⟩ (.tuple ⟨[.agg ⟨[I 0, I 0]⟩, I 1]⟩)
theorem K19sf_ok (p : Int) (c : Nat) (m : Int) (hp : ¬ (0 ≤ p ∧ p ≤ 3)) : ConOK Try.prog 19 (K19sf p c m) := by
  refine K0_ok ?_ rfl (at0) rfl (Nat.le_of_ble_eq_true rfl)
  refine ⟨_, (q19s p c m _).mpr ?_⟩
  repeat' (first | with_reducible apply And.intro | with_reducible intro)
  all_goals first
    | trivial
    | rfl
    | omega
    | (exfalso; simp only [decide_eq_true_eq, decide_eq_false_iff_not] at *; omega)
noncomputable def K18s (p : Int) (c : Nat)  : Con := K0 (.agg (.hole (.slice 0 0 .nil)) (.val (I 0) (.val (I 0) .nil))) [.dead] ⟨⟨[I p], [(0, c)]⟩, []⟩ (.tuple ⟨[I 0, I 2]⟩)
theorem K18s_ok (p : Int) (c : Nat)  (hp : 0 ≤ p ∧ p ≤ 3) : ConOK Try.prog 18 (K18s p c ) := by
  refine K0_ok ?_ rfl (at0) rfl (Nat.le_of_ble_eq_true rfl)
  refine ⟨_, (q18s p c  _).mpr ?_⟩
  repeat' (first | with_reducible apply And.intro | with_reducible intro)
  all_goals first
    | trivial
    | rfl
    | omega
    | (exfalso; simp only [decide_eq_true_eq, decide_eq_false_iff_not] at *; omega)
noncomputable def K23s (p : Int) (c : Nat)  : Con := K0 (.agg (.hole (.slice 0 0 .nil)) (.val (I 8) (.val (.bool true) .nil))) [.dead] ⟨⟨[I p], [(0, c)]⟩, []⟩ (.tuple ⟨[I 0, I 2]⟩)
theorem K23s_ok (p : Int) (c : Nat)  (hp : 0 ≤ p ∧ p ≤ 3) : ConOK Try.prog 23 (K23s p c ) := by
  refine K0_ok ?_ rfl (at0) rfl (Nat.le_of_ble_eq_true rfl)
  refine ⟨_, (q23s p c  _).mpr ?_⟩
  repeat' (first | with_reducible apply And.intro | with_reducible intro)
  all_goals first
    | trivial
    | rfl
    | omega
    | (exfalso; simp only [decide_eq_true_eq, decide_eq_false_iff_not] at *; omega)
noncomputable def K21nt (p : Int)  : Con := K0 (.agg (.hole (.val nilS .nil)) .nil) [] ⟨⟨[I p], []⟩, []⟩ (.bool true)
theorem K21nt_ok (p : Int)  (hp : 0 ≤ p ∧ p ≤ 3) : ConOK Try.prog 21 (K21nt p ) := by
  refine K0_ok ?_ rfl (at0) rfl (Nat.le_of_ble_eq_true rfl)
  refine ⟨_, (q21n p  _).mpr ?_⟩
  repeat' (first | with_reducible apply And.intro | with_reducible intro)
  all_goals first
    | trivial
    | rfl
    | omega
    | (exfalso; simp only [decide_eq_true_eq, decide_eq_false_iff_not] at *; omega)
noncomputable def K21nf (p : Int)  : Con := K0 (.agg (.hole (.val nilS .nil)) .nil) [] ⟨⟨[I p], []⟩, []⟩ (.bool false)
theorem K21nf_ok (p : Int)  (hp : ¬ (0 ≤ p ∧ p ≤ 3)) : ConOK Try.prog 21 (K21nf p ) := by
  refine K0_ok ?_ rfl (at0) rfl (Nat.le_of_ble_eq_true rfl)
  refine ⟨_, (q21n p  _).mpr ?_⟩
  repeat' (first | with_reducible apply And.intro | with_reducible intro)
  all_goals first
    | trivial
    | rfl
    | omega
    | (exfalso; simp only [decide_eq_true_eq, decide_eq_false_iff_not] at *; omega)
noncomputable def K15nt (p : Int)  : Con := K0 (.agg (.hole (.val nilS .nil)) (.val nilS .nil)) [] ⟨⟨[I p], []⟩, []⟩ (.tuple ⟨[nilS, I 0]⟩)
theorem K15nt_ok (p : Int)  (hp : 0 ≤ p ∧ p ≤ 3) : ConOK Try.prog 15 (K15nt p ) := by
  refine K0_ok ?_ rfl (at0) rfl (Nat.le_of_ble_eq_true rfl)
  refine ⟨_, (q15n p  _).mpr ?_⟩
  repeat' (first | with_reducible apply And.intro | with_reducible intro)
  all_goals first
    | trivial
    | rfl
    | omega
    | (exfalso; simp only [decide_eq_true_eq, decide_eq_false_iff_not] at *; omega)
noncomputable def K15nf (p : Int)  : Con := K0 (.agg (.hole (.val nilS .nil)) (.val nilS .nil)) [] ⟨⟨[I p], []⟩, []⟩ (.tuple ⟨[nilS, I 1]⟩)
theorem K15nf_ok (p : Int)  (hp : ¬ (0 ≤ p ∧ p ≤ 3)) : ConOK Try.prog 15 (K15nf p ) := by
  refine K0_ok ?_ rfl (at0) rfl (Nat.le_of_ble_eq_true rfl)
  refine ⟨_, (q15n p  _).mpr ?_⟩
  repeat' (first | with_reducible apply And.intro | with_reducible intro)
  all_goals first
    | trivial
    | rfl
    | omega
    | (exfalso; simp only [decide_eq_true_eq, decide_eq_false_iff_not] at *; omega)
noncomputable def K15bn (p : Int) (v : Int) : Con := K0 (.agg (.hole (.val nilS .nil)) (.slice 0 0 .nil)) [.list 3 .ro] ⟨⟨[I p], [(1, 1)]⟩, [[I v]]⟩ (.tuple ⟨[nilS, I 2]⟩)
theorem K15bn_ok (p : Int) (v : Int) (hp : 0 ≤ p ∧ p ≤ 3) : ConOK Try.prog 15 (K15bn p v) := by
  refine K0_ok ?_ rfl (at1 v) rfl (Nat.le_of_ble_eq_true rfl)
  refine ⟨_, (q15bn p v _).mpr ?_⟩
  repeat' (first | with_reducible apply And.intro | with_reducible intro)
  all_goals first
    | trivial
    | rfl
    | omega
    | (exfalso; simp only [decide_eq_true_eq, decide_eq_false_iff_not] at *; omega)
noncomputable def K19nt (p : Int) (m : Int) : Con := K0 (.agg (.hole (.val nilS .nil)) (.hole .nil)) [] ⟨⟨[I p, I m], []⟩, []⟩ (.tuple ⟨[.agg ⟨[I 0, I 0]⟩, I 0]⟩)
theorem K19nt_ok (p : Int) (m : Int) (hp : 0 ≤ p ∧ p ≤ 3) (hm : 0 ≤ m ∧ m ≤ 220) : ConOK Try.prog 19 (K19nt p m) := by
  refine K0_ok ?_ rfl (at0) rfl (Nat.le_of_ble_eq_true rfl)
  refine ⟨_, (q19n p m _).mpr ?_⟩
  repeat' (first | with_reducible apply And.intro | with_reducible intro)
  all_goals first
    | trivial
    | rfl
    | omega
    | (exfalso; simp only [decide_eq_true_eq, decide_eq_false_iff_not] at *; omega)
noncomputable def K19ne (p : Int) (m : Int) : Con := K0 (.agg (.hole (.val nilS .nil)) (.hole .nil)) [] ⟨⟨[I p, I m], []⟩, []⟩ (.tuple ⟨[.agg ⟨[I 0, I 0]⟩, I 2]⟩)
theorem K19ne_ok (p : Int) (m : Int) (hp : 0 ≤ p ∧ p ≤ 3) (hm : 220 < m) : ConOK Try.prog 19 (K19ne p m) := by
  refine K0_ok ?_ rfl (at0) rfl (Nat.le_of_ble_eq_true rfl)
  refine ⟨_, (q19n p m _).mpr ?_⟩
  repeat' (first | with_reducible apply And.intro | with_reducible intro)
  all_goals first
    | trivial
    | rfl
    | omega
    | (exfalso; simp only [decide_eq_true_eq, decide_eq_false_iff_not] at *; omega)
noncomputable def K19nf (p : Int) (m : Int) : Con := K0 (.agg (.hole (.val nilS .nil)) (.hole .nil)) [] ⟨⟨[I p, I m], []⟩, []⟩ (.tuple ⟨[.agg ⟨[I 0, I 0]⟩, I 1]⟩)
theorem K19nf_ok (p : Int) (m : Int) (hp : ¬ (0 ≤ p ∧ p ≤ 3)) : ConOK Try.prog 19 (K19nf p m) := by
  refine K0_ok ?_ rfl (at0) rfl (Nat.le_of_ble_eq_true rfl)
  refine ⟨_, (q19n p m _).mpr ?_⟩
  repeat' (first | with_reducible apply And.intro | with_reducible intro)
  all_goals first
    | trivial
    | rfl
    | omega
    | (exfalso; simp only [decide_eq_true_eq, decide_eq_false_iff_not] at *; omega)
noncomputable def K18n (p : Int)  : Con := K0 (.agg (.hole (.val nilS .nil)) (.val (I 0) (.val (I 0) .nil))) [] ⟨⟨[I p], []⟩, []⟩ (.tuple ⟨[I 0, I 2]⟩)
theorem K18n_ok (p : Int)  (hp : 0 ≤ p ∧ p ≤ 3) : ConOK Try.prog 18 (K18n p ) := by
  refine K0_ok ?_ rfl (at0) rfl (Nat.le_of_ble_eq_true rfl)
  refine ⟨_, (q18n p  _).mpr ?_⟩
  repeat' (first | with_reducible apply And.intro | with_reducible intro)
  all_goals first
    | trivial
    | rfl
    | omega
    | (exfalso; simp only [decide_eq_true_eq, decide_eq_false_iff_not] at *; omega)
noncomputable def K23n (p : Int)  : Con := K0 (.agg (.hole (.val nilS .nil)) (.val (I 8) (.val (.bool true) .nil))) [] ⟨⟨[I p], []⟩, []⟩ (.tuple ⟨[I 0, I 2]⟩)
theorem K23n_ok (p : Int)  (hp : 0 ≤ p ∧ p ≤ 3) : ConOK Try.prog 23 (K23n p ) := by
  refine K0_ok ?_ rfl (at0) rfl (Nat.le_of_ble_eq_true rfl)
  refine ⟨_, (q23n p  _).mpr ?_⟩
  repeat' (first | with_reducible apply And.intro | with_reducible intro)
  all_goals first
    | trivial
    | rfl
    | omega
    | (exfalso; simp only [decide_eq_true_eq, decide_eq_false_iff_not] at *; omega)
end Go.Ab

