/- the law HorseCheck: some moves, no numbers. -/
import Derived.Test.YthfhcnbpgagkdaaMX
import Derived.Test.YthfhcnbpgagkdaaMZ
import Derived.Test.YthfhcnbpgagkdaaMY
set_option maxRecDepth 100000
namespace Go.Ab
open Go Go.RowKit Go.Proofs
theorem g6n (p a b e : Int) (sure : Bool) (n c : Nat) (f : Nat → Mv) (R : ARes → Prop)  : (vx.call 6 [hV p n c, .bool sure, nilS] (retK R) (m2n (mvs n f)) ([(17, .split ((7, Hint.con C12) :: []) ((4, Hint.con ((C21 p n c f).when (ARes.ret (Value.bool true)))) :: (6, Hint.conN (C13n p n c f)) :: [(3, .split ((0, Hint.con   ((C16 sure p n c n n f (planG (0 : Nat) fun _ => (0 : Int))).when     (ARes.ret (Value.tuple { toList := [I a, I b, I e] })))) :: [(8, .split ((5, Hint.loopT T6o (AExit.exit (0 : Nat)) T6o fun x =>   {     hs :=       { vs := [Value.bool false, I a, I b, I e, x.hs.vs[(4 : Nat)]?.getD undef, I (↑n : Int), I (↑n : Int), I p],         ns := [(n, n), (n, c)] },     ls := [mvs n f, ints n (planG (0 : Nat) fun _ => (0 : Int))] }) :: [(1, .split ([(2, .split ([(3, .split ((2, Hint.con C12) :: []) ([]))]) ([]))]) ([]))]) ((4, Hint.loopT T6o (AExit.exit (0 : Nat)) T6o fun x =>   {     hs :=       { vs := [Value.bool false, I a, I b, I e, x.hs.vs[(4 : Nat)]?.getD undef, I (↑n : Int), I (↑n : Int), I p],         ns := [(n, n), (n, c)] },     ls := [mvs n f, ints n (planG (0 : Nat) fun _ => (0 : Int))] }) :: [(1, .split ([(2, .split ([(3, .split ((2, Hint.con C12) :: []) ([]))]) ([]))]) ([]))]))]) ((0, Hint.con   ((C16 sure p n c n n f (planG (0 : Nat) fun _ => (0 : Int))).when     (ARes.ret (Value.tuple { toList := [I a, I b, I e] })))) :: [(8, .split ((5, Hint.loopT T6o (AExit.exit (0 : Nat)) T6o fun x =>   {     hs :=       { vs := [Value.bool false, I a, I b, I e, x.hs.vs[(4 : Nat)]?.getD undef, I (↑n : Int), I (↑n : Int), I p],         ns := [(n, n), (n, c)] },     ls := [mvs n f, ints n (planG (0 : Nat) fun _ => (0 : Int))] }) :: [(1, .split ([(2, .split ([(3, .split ((2, Hint.con C12) :: []) ([]))]) ([]))]) ([]))]) ((4, Hint.loopT T6o (AExit.exit (0 : Nat)) T6o fun x =>   {     hs :=       { vs := [Value.bool false, I a, I b, I e, x.hs.vs[(4 : Nat)]?.getD undef, I (↑n : Int), I (↑n : Int), I p],         ns := [(n, n), (n, c)] },     ls := [mvs n f, ints n (planG (0 : Nat) fun _ => (0 : Int))] }) :: [(1, .split ([(2, .split ([(3, .split ((2, Hint.con C12) :: []) ([]))]) ([]))]) ([]))]))]))]))])) =
((((decide ((if (↑(0 : Nat) : Int) > (↑n : Int) then (↑(0 : Nat) : Int) else (↑n : Int)) > (40 : Int))) = true → ((ConOK Try.prog ((12 : Nat)) (C12)) ∧ (Con.pre (C12) ⟨⟨[], []⟩, []⟩) ∧ 
R (.ret (.bool true)))) ∧
((decide ((if (↑(0 : Nat) : Int) > (↑n : Int) then (↑(0 : Nat) : Int) else (↑n : Int)) > (40 : Int))) = false → ((ConOK Try.prog ((21 : Nat)) ((C21 p n c f).when (ARes.ret (Value.bool true)))) ∧ (Con.pre ((C21 p n c f).when (ARes.ret (Value.bool true))) ⟨⟨[(.int IntKind.i64 (p))], [⟨(n), (c)⟩]⟩, [(mvs n f)]⟩) ∧ 
((ConNOK Try.prog ((13 : Nat)) (C13n p n c f)) ∧ (ConN.pre (C13n p n c f) ⟨⟨[(.int IntKind.i64 (p))], [⟨(n), (c)⟩]⟩, [(mvs n f)]⟩) ∧ 
(((sure) = true → ((ConOK Try.prog ((16 : Nat)) ((C16 sure p n c n n f (planG (0 : Nat) fun _ => (0 : Int))).when (ARes.ret (Value.tuple { toList := [I a, I b, I e] })))) ∧ (Con.pre ((C16 sure p n c n n f (planG (0 : Nat) fun _ => (0 : Int))).when (ARes.ret (Value.tuple { toList := [I a, I b, I e] }))) ⟨⟨[(.int IntKind.i64 (p)), (.bool true)], [⟨(n), (c)⟩, ⟨(n), (n)⟩]⟩, [(mvs n f), (ints n (planG (0 : Nat) fun _ => (0 : Int)))]⟩) ∧ 
(((sure) = true → ((Atoms [(mvs n f), (ints n (planG (0 : Nat) fun _ => (0 : Int)))]) ∧ (LoopOK Try.prog .none p6o (T6o) ⟨⟨[(.bool false), (.int IntKind.i64 (a)), (.int IntKind.i64 (b)), (.int IntKind.i64 (e)), (.int IntKind.i64 ((2 : Int))), (.int IntKind.i64 ((↑n : Int))), (.int IntKind.i64 ((0 : Int))), (.int IntKind.i64 (p))], [⟨(n), (n)⟩, ⟨(n), (c)⟩]⟩, [(mvs n f), (ints n (planG (0 : Nat) fun _ => (0 : Int)))]⟩ (.exit ((0 : Nat))) (T6o) ⟨⟨[(.bool false), (.int IntKind.i64 (a)), (.int IntKind.i64 (b)), (.int IntKind.i64 (e)), (.int IntKind.i64 ((2 : Int))), (.int IntKind.i64 ((↑n : Int))), (.int IntKind.i64 ((↑n : Int))), (.int IntKind.i64 (p))], [⟨(n), (n)⟩, ⟨(n), (c)⟩]⟩, [(mvs n f), (ints n (planG (0 : Nat) fun _ => (0 : Int)))]⟩) ∧ 
(((e == (4 : Int)) = true → (((a == (0 : Int)) = true → (((b == (0 : Int)) = true → ((ConOK Try.prog ((12 : Nat)) (C12)) ∧ (Con.pre (C12) ⟨⟨[], []⟩, []⟩) ∧ 
R (.ret (.bool true)))) ∧
((b == (0 : Int)) = false → R (.ret (.bool false))))) ∧
((a == (0 : Int)) = false → R (.ret (.bool false))))) ∧
((e == (4 : Int)) = false → R (.ret (.bool false)))))) ∧
((sure) = false → ((Atoms [(mvs n f), (ints n (planG (0 : Nat) fun _ => (0 : Int)))]) ∧ (LoopOK Try.prog .none p6o (T6o) ⟨⟨[(.bool false), (.int IntKind.i64 (a)), (.int IntKind.i64 (b)), (.int IntKind.i64 (e)), (.int IntKind.i64 ((1 : Int))), (.int IntKind.i64 ((↑n : Int))), (.int IntKind.i64 ((0 : Int))), (.int IntKind.i64 (p))], [⟨(n), (n)⟩, ⟨(n), (c)⟩]⟩, [(mvs n f), (ints n (planG (0 : Nat) fun _ => (0 : Int)))]⟩ (.exit ((0 : Nat))) (T6o) ⟨⟨[(.bool false), (.int IntKind.i64 (a)), (.int IntKind.i64 (b)), (.int IntKind.i64 (e)), (.int IntKind.i64 ((1 : Int))), (.int IntKind.i64 ((↑n : Int))), (.int IntKind.i64 ((↑n : Int))), (.int IntKind.i64 (p))], [⟨(n), (n)⟩, ⟨(n), (c)⟩]⟩, [(mvs n f), (ints n (planG (0 : Nat) fun _ => (0 : Int)))]⟩) ∧ 
(((e == (4 : Int)) = true → (((a == (0 : Int)) = true → (((b == (0 : Int)) = true → ((ConOK Try.prog ((12 : Nat)) (C12)) ∧ (Con.pre (C12) ⟨⟨[], []⟩, []⟩) ∧ 
R (.ret (.bool true)))) ∧
((b == (0 : Int)) = false → R (.ret (.bool false))))) ∧
((a == (0 : Int)) = false → R (.ret (.bool false))))) ∧
((e == (4 : Int)) = false → R (.ret (.bool false))))))))) ∧
((sure) = false → ((ConOK Try.prog ((16 : Nat)) ((C16 sure p n c n n f (planG (0 : Nat) fun _ => (0 : Int))).when (ARes.ret (Value.tuple { toList := [I a, I b, I e] })))) ∧ (Con.pre ((C16 sure p n c n n f (planG (0 : Nat) fun _ => (0 : Int))).when (ARes.ret (Value.tuple { toList := [I a, I b, I e] }))) ⟨⟨[(.int IntKind.i64 (p)), (.bool false)], [⟨(n), (c)⟩, ⟨(n), (n)⟩]⟩, [(mvs n f), (ints n (planG (0 : Nat) fun _ => (0 : Int)))]⟩) ∧ 
(((sure) = true → ((Atoms [(mvs n f), (ints n (planG (0 : Nat) fun _ => (0 : Int)))]) ∧ (LoopOK Try.prog .none p6o (T6o) ⟨⟨[(.bool false), (.int IntKind.i64 (a)), (.int IntKind.i64 (b)), (.int IntKind.i64 (e)), (.int IntKind.i64 ((2 : Int))), (.int IntKind.i64 ((↑n : Int))), (.int IntKind.i64 ((0 : Int))), (.int IntKind.i64 (p))], [⟨(n), (n)⟩, ⟨(n), (c)⟩]⟩, [(mvs n f), (ints n (planG (0 : Nat) fun _ => (0 : Int)))]⟩ (.exit ((0 : Nat))) (T6o) ⟨⟨[(.bool false), (.int IntKind.i64 (a)), (.int IntKind.i64 (b)), (.int IntKind.i64 (e)), (.int IntKind.i64 ((2 : Int))), (.int IntKind.i64 ((↑n : Int))), (.int IntKind.i64 ((↑n : Int))), (.int IntKind.i64 (p))], [⟨(n), (n)⟩, ⟨(n), (c)⟩]⟩, [(mvs n f), (ints n (planG (0 : Nat) fun _ => (0 : Int)))]⟩) ∧ 
(((e == (4 : Int)) = true → (((a == (0 : Int)) = true → (((b == (0 : Int)) = true → ((ConOK Try.prog ((12 : Nat)) (C12)) ∧ (Con.pre (C12) ⟨⟨[], []⟩, []⟩) ∧ 
R (.ret (.bool true)))) ∧
((b == (0 : Int)) = false → R (.ret (.bool false))))) ∧
((a == (0 : Int)) = false → R (.ret (.bool false))))) ∧
((e == (4 : Int)) = false → R (.ret (.bool false)))))) ∧
((sure) = false → ((Atoms [(mvs n f), (ints n (planG (0 : Nat) fun _ => (0 : Int)))]) ∧ (LoopOK Try.prog .none p6o (T6o) ⟨⟨[(.bool false), (.int IntKind.i64 (a)), (.int IntKind.i64 (b)), (.int IntKind.i64 (e)), (.int IntKind.i64 ((1 : Int))), (.int IntKind.i64 ((↑n : Int))), (.int IntKind.i64 ((0 : Int))), (.int IntKind.i64 (p))], [⟨(n), (n)⟩, ⟨(n), (c)⟩]⟩, [(mvs n f), (ints n (planG (0 : Nat) fun _ => (0 : Int)))]⟩ (.exit ((0 : Nat))) (T6o) ⟨⟨[(.bool false), (.int IntKind.i64 (a)), (.int IntKind.i64 (b)), (.int IntKind.i64 (e)), (.int IntKind.i64 ((1 : Int))), (.int IntKind.i64 ((↑n : Int))), (.int IntKind.i64 ((↑n : Int))), (.int IntKind.i64 (p))], [⟨(n), (n)⟩, ⟨(n), (c)⟩]⟩, [(mvs n f), (ints n (planG (0 : Nat) fun _ => (0 : Int)))]⟩) ∧ 
(((e == (4 : Int)) = true → (((a == (0 : Int)) = true → (((b == (0 : Int)) = true → ((ConOK Try.prog ((12 : Nat)) (C12)) ∧ (Con.pre (C12) ⟨⟨[], []⟩, []⟩) ∧ 
R (.ret (.bool true)))) ∧
((b == (0 : Int)) = false → R (.ret (.bool false))))) ∧
((a == (0 : Int)) = false → R (.ret (.bool false))))) ∧
((e == (4 : Int)) = false → R (.ret (.bool false))))))))))))))) := by kernel_rfl

theorem g6r (p a b e : Int) (sure : Bool) (i n c : Nat) (f : Nat → Mv) (R : ARes → Prop)  : (vx.call 6 [hV p n c, .bool sure, nilS] (retK R) (m2n (mvs n f)) ([(17, .split ((7, Hint.con C12) :: []) ((4, Hint.con ((C21 p n c f).when (ARes.ret (Value.bool true)))) :: (6, Hint.conN (C13n p n c f)) :: [(3, .split ((0, Hint.con   ((C16 sure p n c n n f (planG (0 : Nat) fun _ => (0 : Int))).when     (ARes.ret (Value.tuple { toList := [I a, I b, I e] })))) :: [(8, .split ((5, Hint.loopT T6o AExit.ret T6o fun x =>   {     hs :=       { vs := [Value.bool true, I a, I b, I e, x.hs.vs[(4 : Nat)]?.getD undef, I (↑n : Int), I (↑i : Int), I p],         ns := [(n, n), (n, c)] },     ls := [mvs n f, ints n (planG (0 : Nat) fun _ => (0 : Int))] }) :: []) ((4, Hint.loopT T6o AExit.ret T6o fun x =>   {     hs :=       { vs := [Value.bool true, I a, I b, I e, x.hs.vs[(4 : Nat)]?.getD undef, I (↑n : Int), I (↑i : Int), I p],         ns := [(n, n), (n, c)] },     ls := [mvs n f, ints n (planG (0 : Nat) fun _ => (0 : Int))] }) :: []))]) ((0, Hint.con   ((C16 sure p n c n n f (planG (0 : Nat) fun _ => (0 : Int))).when     (ARes.ret (Value.tuple { toList := [I a, I b, I e] })))) :: [(8, .split ((5, Hint.loopT T6o AExit.ret T6o fun x =>   {     hs :=       { vs := [Value.bool true, I a, I b, I e, x.hs.vs[(4 : Nat)]?.getD undef, I (↑n : Int), I (↑i : Int), I p],         ns := [(n, n), (n, c)] },     ls := [mvs n f, ints n (planG (0 : Nat) fun _ => (0 : Int))] }) :: []) ((4, Hint.loopT T6o AExit.ret T6o fun x =>   {     hs :=       { vs := [Value.bool true, I a, I b, I e, x.hs.vs[(4 : Nat)]?.getD undef, I (↑n : Int), I (↑i : Int), I p],         ns := [(n, n), (n, c)] },     ls := [mvs n f, ints n (planG (0 : Nat) fun _ => (0 : Int))] }) :: []))]))]))])) =
((((decide ((if (↑(0 : Nat) : Int) > (↑n : Int) then (↑(0 : Nat) : Int) else (↑n : Int)) > (40 : Int))) = true → ((ConOK Try.prog ((12 : Nat)) (C12)) ∧ (Con.pre (C12) ⟨⟨[], []⟩, []⟩) ∧ 
R (.ret (.bool true)))) ∧
((decide ((if (↑(0 : Nat) : Int) > (↑n : Int) then (↑(0 : Nat) : Int) else (↑n : Int)) > (40 : Int))) = false → ((ConOK Try.prog ((21 : Nat)) ((C21 p n c f).when (ARes.ret (Value.bool true)))) ∧ (Con.pre ((C21 p n c f).when (ARes.ret (Value.bool true))) ⟨⟨[(.int IntKind.i64 (p))], [⟨(n), (c)⟩]⟩, [(mvs n f)]⟩) ∧ 
((ConNOK Try.prog ((13 : Nat)) (C13n p n c f)) ∧ (ConN.pre (C13n p n c f) ⟨⟨[(.int IntKind.i64 (p))], [⟨(n), (c)⟩]⟩, [(mvs n f)]⟩) ∧ 
(((sure) = true → ((ConOK Try.prog ((16 : Nat)) ((C16 sure p n c n n f (planG (0 : Nat) fun _ => (0 : Int))).when (ARes.ret (Value.tuple { toList := [I a, I b, I e] })))) ∧ (Con.pre ((C16 sure p n c n n f (planG (0 : Nat) fun _ => (0 : Int))).when (ARes.ret (Value.tuple { toList := [I a, I b, I e] }))) ⟨⟨[(.int IntKind.i64 (p)), (.bool true)], [⟨(n), (c)⟩, ⟨(n), (n)⟩]⟩, [(mvs n f), (ints n (planG (0 : Nat) fun _ => (0 : Int)))]⟩) ∧ 
(((sure) = true → ((Atoms [(mvs n f), (ints n (planG (0 : Nat) fun _ => (0 : Int)))]) ∧ (LoopOK Try.prog .none p6o (T6o) ⟨⟨[(.bool false), (.int IntKind.i64 (a)), (.int IntKind.i64 (b)), (.int IntKind.i64 (e)), (.int IntKind.i64 ((2 : Int))), (.int IntKind.i64 ((↑n : Int))), (.int IntKind.i64 ((0 : Int))), (.int IntKind.i64 (p))], [⟨(n), (n)⟩, ⟨(n), (c)⟩]⟩, [(mvs n f), (ints n (planG (0 : Nat) fun _ => (0 : Int)))]⟩ .ret (T6o) ⟨⟨[(.bool true), (.int IntKind.i64 (a)), (.int IntKind.i64 (b)), (.int IntKind.i64 (e)), (.int IntKind.i64 ((2 : Int))), (.int IntKind.i64 ((↑n : Int))), (.int IntKind.i64 ((↑i : Int))), (.int IntKind.i64 (p))], [⟨(n), (n)⟩, ⟨(n), (c)⟩]⟩, [(mvs n f), (ints n (planG (0 : Nat) fun _ => (0 : Int)))]⟩) ∧ 
R (.ret (.bool true)))) ∧
((sure) = false → ((Atoms [(mvs n f), (ints n (planG (0 : Nat) fun _ => (0 : Int)))]) ∧ (LoopOK Try.prog .none p6o (T6o) ⟨⟨[(.bool false), (.int IntKind.i64 (a)), (.int IntKind.i64 (b)), (.int IntKind.i64 (e)), (.int IntKind.i64 ((1 : Int))), (.int IntKind.i64 ((↑n : Int))), (.int IntKind.i64 ((0 : Int))), (.int IntKind.i64 (p))], [⟨(n), (n)⟩, ⟨(n), (c)⟩]⟩, [(mvs n f), (ints n (planG (0 : Nat) fun _ => (0 : Int)))]⟩ .ret (T6o) ⟨⟨[(.bool true), (.int IntKind.i64 (a)), (.int IntKind.i64 (b)), (.int IntKind.i64 (e)), (.int IntKind.i64 ((1 : Int))), (.int IntKind.i64 ((↑n : Int))), (.int IntKind.i64 ((↑i : Int))), (.int IntKind.i64 (p))], [⟨(n), (n)⟩, ⟨(n), (c)⟩]⟩, [(mvs n f), (ints n (planG (0 : Nat) fun _ => (0 : Int)))]⟩) ∧ 
R (.ret (.bool true))))))) ∧
((sure) = false → ((ConOK Try.prog ((16 : Nat)) ((C16 sure p n c n n f (planG (0 : Nat) fun _ => (0 : Int))).when (ARes.ret (Value.tuple { toList := [I a, I b, I e] })))) ∧ (Con.pre ((C16 sure p n c n n f (planG (0 : Nat) fun _ => (0 : Int))).when (ARes.ret (Value.tuple { toList := [I a, I b, I e] }))) ⟨⟨[(.int IntKind.i64 (p)), (.bool false)], [⟨(n), (c)⟩, ⟨(n), (n)⟩]⟩, [(mvs n f), (ints n (planG (0 : Nat) fun _ => (0 : Int)))]⟩) ∧ 
(((sure) = true → ((Atoms [(mvs n f), (ints n (planG (0 : Nat) fun _ => (0 : Int)))]) ∧ (LoopOK Try.prog .none p6o (T6o) ⟨⟨[(.bool false), (.int IntKind.i64 (a)), (.int IntKind.i64 (b)), (.int IntKind.i64 (e)), (.int IntKind.i64 ((2 : Int))), (.int IntKind.i64 ((↑n : Int))), (.int IntKind.i64 ((0 : Int))), (.int IntKind.i64 (p))], [⟨(n), (n)⟩, ⟨(n), (c)⟩]⟩, [(mvs n f), (ints n (planG (0 : Nat) fun _ => (0 : Int)))]⟩ .ret (T6o) ⟨⟨[(.bool true), (.int IntKind.i64 (a)), (.int IntKind.i64 (b)), (.int IntKind.i64 (e)), (.int IntKind.i64 ((2 : Int))), (.int IntKind.i64 ((↑n : Int))), (.int IntKind.i64 ((↑i : Int))), (.int IntKind.i64 (p))], [⟨(n), (n)⟩, ⟨(n), (c)⟩]⟩, [(mvs n f), (ints n (planG (0 : Nat) fun _ => (0 : Int)))]⟩) ∧ 
R (.ret (.bool true)))) ∧
((sure) = false → ((Atoms [(mvs n f), (ints n (planG (0 : Nat) fun _ => (0 : Int)))]) ∧ (LoopOK Try.prog .none p6o (T6o) ⟨⟨[(.bool false), (.int IntKind.i64 (a)), (.int IntKind.i64 (b)), (.int IntKind.i64 (e)), (.int IntKind.i64 ((1 : Int))), (.int IntKind.i64 ((↑n : Int))), (.int IntKind.i64 ((0 : Int))), (.int IntKind.i64 (p))], [⟨(n), (n)⟩, ⟨(n), (c)⟩]⟩, [(mvs n f), (ints n (planG (0 : Nat) fun _ => (0 : Int)))]⟩ .ret (T6o) ⟨⟨[(.bool true), (.int IntKind.i64 (a)), (.int IntKind.i64 (b)), (.int IntKind.i64 (e)), (.int IntKind.i64 ((1 : Int))), (.int IntKind.i64 ((↑n : Int))), (.int IntKind.i64 ((↑i : Int))), (.int IntKind.i64 (p))], [⟨(n), (n)⟩, ⟨(n), (c)⟩]⟩, [(mvs n f), (ints n (planG (0 : Nat) fun _ => (0 : Int)))]⟩) ∧ 
R (.ret (.bool true))))))))))))) := by kernel_rfl

theorem g6x (p : Int) (sure : Bool) (n c : Nat) (f : Nat → Mv) (R : ARes → Prop)  : (vx.call 6 [hV p n c, .bool sure, nilS] (retK R) (m2n (mvs n f)) ([(17, .split ((7, Hint.con C12) :: []) ((4, Hint.con ((C21 p n c f).when (ARes.ret (Value.bool false)))) :: (4, Hint.con C12) :: []))])) =
((((decide ((if (↑(0 : Nat) : Int) > (↑n : Int) then (↑(0 : Nat) : Int) else (↑n : Int)) > (40 : Int))) = true → ((ConOK Try.prog ((12 : Nat)) (C12)) ∧ (Con.pre (C12) ⟨⟨[], []⟩, []⟩) ∧ 
R (.ret (.bool true)))) ∧
((decide ((if (↑(0 : Nat) : Int) > (↑n : Int) then (↑(0 : Nat) : Int) else (↑n : Int)) > (40 : Int))) = false → ((ConOK Try.prog ((21 : Nat)) ((C21 p n c f).when (ARes.ret (Value.bool false)))) ∧ (Con.pre ((C21 p n c f).when (ARes.ret (Value.bool false))) ⟨⟨[(.int IntKind.i64 (p))], [⟨(n), (c)⟩]⟩, [(mvs n f)]⟩) ∧ 
((ConOK Try.prog ((12 : Nat)) (C12)) ∧ (Con.pre (C12) ⟨⟨[], []⟩, []⟩) ∧ 
R (.ret (.bool true))))))) := by kernel_rfl

theorem law6n (p : Int) (sure : Bool) (n c : Nat) (f : Nat → Mv) (h0 : 0 < n) (hn : n ≤ 1000000) :
    ∃ hs, vx.call 6 [hV p n c, .bool sure, nilS] (retK fun r => r = .ret (.bool true)) (m2n (mvs n f)) hs := by
  have hwhen : ∀ r, ConOK Try.prog 21 ((C21 p n c f).when r) := fun r => con_when (C21_ok p n c f hn) r
  cases hok : okH p n f with
  | false =>
    have hr : (C21 p n c f).res ⟨⟨[I p], [(n, c)]⟩, [mvs n f]⟩ = .ret (.bool false) := by show ARes.ret (.bool (okH p n f)) = _; rw [hok]
    exact ⟨_, (g6x p sure n c f _).mpr ⟨fun _ => ⟨C12_ok, rfl, rfl⟩, fun _ => ⟨hwhen _, ⟨rfl, hr⟩, C12_ok, rfl, rfl⟩⟩⟩
  | true =>
    have hr : (C21 p n c f).res ⟨⟨[I p], [(n, c)]⟩, [mvs n f]⟩ = .ret (.bool true) := by show ARes.ret (.bool (okH p n f)) = _; rw [hok]
    have h7 := (okH_iff hok).n7
    have hpl := plan_ok (n := n) (k := 0) (b := fun _ => 0) (fun i hi => by omega)
    have h16 : ∀ r, ConOK Try.prog 16 ((C16 sure p n c n n f (planG 0 fun _ => 0)).when r) := fun r => con_when (C16_ok sure p n c n n f (planG 0 fun _ => 0) hok hpl h7 h7) r
    have h13 := C13n_ok p n c f h0 hn
    cases hs : pairS (planG 0 fun _ => 0) (ordF sure p n f n) n n 0 with
    | none =>
      have hv : (C16 sure p n c n n f (planG 0 fun _ => 0)).res ⟨⟨[I p, .bool sure], [(n, c), (n, n)]⟩, [mvs n f, ints n (planG 0 fun _ => 0)]⟩ = .ret (.tuple ⟨[I 0, I 0, I 4]⟩) := by simp only [C16, checkV, hs]
      have hl := loop6o (c := c) (g := planG 0 fun _ => 0) hok sure (r := false) (a := 0) (b := 0) (e := 4) (fun m hm => by rw [hs] at hm; cases hm)
      simp only [hs] at hl
      have key : ∀ R : ARes → Prop, R (.ret (.bool true)) → ∃ hs, vx.call 6 [hV p n c, .bool sure, nilS] (retK R) (m2n (mvs n f)) hs := by
        intro R hR
        refine ⟨_, (g6n p 0 0 4 sure n c f R).mpr ?_⟩
        cases sure
        · refine ⟨fun _ => ⟨C12_ok, rfl, hR⟩, fun _ => ⟨hwhen _, ⟨rfl, hr⟩, h13, rfl, fun h => (by cases h), fun _ => ⟨h16 _, ⟨rfl, hv⟩, fun h => (by cases h), fun _ => ⟨atoms6 n f _, hl, fun _ => ⟨fun _ => ⟨fun _ => ⟨C12_ok, rfl, hR⟩, fun h => (by simp at h)⟩, fun h => (by simp at h)⟩, fun h => (by simp at h)⟩⟩⟩⟩
        · refine ⟨fun _ => ⟨C12_ok, rfl, hR⟩, fun _ => ⟨hwhen _, ⟨rfl, hr⟩, h13, rfl, fun _ => ⟨h16 _, ⟨rfl, hv⟩, fun _ => ⟨atoms6 n f _, hl, fun _ => ⟨fun _ => ⟨fun _ => ⟨C12_ok, rfl, hR⟩, fun h => (by simp at h)⟩, fun h => (by simp at h)⟩, fun h => (by simp at h)⟩, fun h => (by cases h)⟩, fun h => (by cases h)⟩⟩
      exact key _ rfl
    | some m =>
      have hv : (C16 sure p n c n n f (planG 0 fun _ => 0)).res ⟨⟨[I p, .bool sure], [(n, c), (n, n)]⟩, [mvs n f, ints n (planG 0 fun _ => 0)]⟩ = .ret (.tuple ⟨[I m.1, I m.2, I 0]⟩) := by simp only [C16, checkV, hs]
      have hl := loop6o (c := c) (g := planG 0 fun _ => 0) hok sure (r := false) (a := m.1) (b := m.2) (e := 0) (fun m' hm => by rw [hs] at hm; cases hm; exact ⟨rfl, rfl, rfl⟩)
      simp only [hs] at hl
      have key : ∀ R : ARes → Prop, R (.ret (.bool true)) → ∃ hs, vx.call 6 [hV p n c, .bool sure, nilS] (retK R) (m2n (mvs n f)) hs := by
        intro R hR
        refine ⟨_, (g6r p m.1 m.2 0 sure m.1 n c f R).mpr ?_⟩
        cases sure
        · refine ⟨fun _ => ⟨C12_ok, rfl, hR⟩, fun _ => ⟨hwhen _, ⟨rfl, hr⟩, h13, rfl, fun h => (by cases h), fun _ => ⟨h16 _, ⟨rfl, hv⟩, fun h => (by cases h), fun _ => ⟨atoms6 n f _, hl, hR⟩⟩⟩⟩
        · refine ⟨fun _ => ⟨C12_ok, rfl, hR⟩, fun _ => ⟨hwhen _, ⟨rfl, hr⟩, h13, rfl, fun _ => ⟨h16 _, ⟨rfl, hv⟩, fun _ => ⟨atoms6 n f _, hl, hR⟩, fun h => (by cases h)⟩, fun h => (by cases h)⟩⟩
      exact key _ rfl
end Go.Ab

/- the law HorseCheck: far too many moves; all forms of the arguments together. -/
set_option maxRecDepth 100000
namespace Go.Ab
open Go Go.RowKit Go.Proofs
theorem far_dec {n : Nat} (h : 40 < n) : ¬ decide ((if ((0 : Nat) : Int) > (n : Int) then ((0 : Nat) : Int) else (n : Int)) > (40 : Int)) = false := by
  intro hf
  have hf := of_decide_eq_false hf
  apply hf
  split <;> omega
theorem law6any (p : Int) (sure : Bool) (n c k d : Nat) (f : Nat → Mv) (bs : Nat → Int) (hb : ∀ i, i < k → 0 ≤ bs i ∧ bs i < 256) :
    ∃ hs, vx.call 6 [hV p n c, .bool sure, slV 1 k d] (retK fun r => r = .ret (.bool true)) (m2b (mvs n f) (u8s k bs)) hs := by
  rcases Nat.eq_zero_or_pos n with h0 | h0
  · subst h0
    cases sure
    · exact z6f_ok p c k d _ _
    · exact z6_ok p c k d _ _
  · by_cases h : 40 < n
    · exact ⟨_, (f6x p sure n c k d f bs _).mpr ⟨fun _ => ⟨C12_ok, rfl, rfl⟩, fun hf => absurd hf (far_dec h)⟩⟩
    · exact law6 p sure n c k d f bs h0 (by omega) hb
theorem law6nany (p : Int) (sure : Bool) (n c : Nat) (f : Nat → Mv) :
    ∃ hs, vx.call 6 [hV p n c, .bool sure, nilS] (retK fun r => r = .ret (.bool true)) (m2n (mvs n f)) hs := by
  rcases Nat.eq_zero_or_pos n with h0 | h0
  · subst h0
    cases sure
    · exact z6nf_ok p c _
    · exact z6n_ok p c _
  · by_cases h : 40 < n
    · exact ⟨_, (g6x p sure n c f _).mpr ⟨fun _ => ⟨C12_ok, rfl, rfl⟩, fun hf => absurd hf (far_dec h)⟩⟩
    · exact law6n p sure n c f h0 (by omega)
theorem law6z (p : Int) (sure : Bool) (k d : Nat) (bs : List Value) : ∃ hs, vx.call 6 [hN p, .bool sure, slV 1 k d] (retK fun r => r = .ret (.bool true)) (m2z bs) hs := by
  cases sure
  · exact y6f_ok p k d bs
  · exact y6_ok p k d bs
theorem law6zn (p : Int) (sure : Bool) : ∃ hs, vx.call 6 [hN p, .bool sure, nilS] (retK fun r => r = .ret (.bool true)) m2d hs := by
  cases sure
  · exact y6nf_ok p
  · exact y6n_ok p
end Go.Ab

/- the law HorseEnds: no moves; all forms of the arguments. -/
set_option maxRecDepth 100000
namespace Go.Ab
open Go Go.RowKit Go.Proofs
theorem z4t (p : Int) (c k d : Nat) (m8 : Int) (ms bs : List Value) (R : ARes → Prop)  : (vx.call 4 [hV p 0 c, slV 1 k d, U8 m8] (retK R) (m2b ms bs) ((17, Hint.con (K21st p c)) :: (59, Hint.again) :: (23, Hint.con (K15st p c)) :: (7, Hint.con (K19st p c ((IntKind.i64.wrap m8).tmod (221 : Int)))) :: (58, Hint.con (K15bs p c (0 : Int))) :: (17, Hint.con (K15bs p c (-1 : Int))) :: (17, Hint.con (K15bs p c (7 : Int))) :: (16, Hint.con (K18s p c)) :: (6, Hint.con (K19se p c (221 : Int))) :: (7, Hint.con (K23s p c)) :: (16, Hint.con C12) :: [])) =
(((ConOK Try.prog ((21 : Nat)) (K21st p c)) ∧ (Con.pre (K21st p c) ⟨⟨[(.int IntKind.i64 (p))], [⟨((0 : Nat)), (c)⟩]⟩, []⟩) ∧ 
((((((2 : Nat) ≤ (2 : Nat))) ∧ (((.agg ⟨[(.int IntKind.i64 (p)), (.slice (.some ⟨((0 : Nat)), ((0 : Nat)), .none⟩) ((0 : Nat)) (c))]⟩) : Value) = (.agg ⟨[(.int IntKind.i64 (p)), (.slice (.some ⟨((0 : Nat)), ((0 : Nat)), .none⟩) ((0 : Nat)) (c))]⟩))) ∧ (True)) ∧ 
((ConOK Try.prog ((15 : Nat)) (K15st p c)) ∧ (Con.pre (K15st p c) ⟨⟨[(.int IntKind.i64 (p))], [⟨((0 : Nat)), (c)⟩]⟩, []⟩) ∧ 
((ConOK Try.prog ((19 : Nat)) (K19st p c ((IntKind.i64.wrap m8).tmod (OfNat.ofNat (221 : Nat))))) ∧ (Con.pre (K19st p c ((IntKind.i64.wrap m8).tmod (OfNat.ofNat (221 : Nat)))) ⟨⟨[(.int IntKind.i64 (p)), (.int IntKind.i64 ((IntKind.i64.wrap m8).tmod (221 : Int)))], [⟨((0 : Nat)), (c)⟩]⟩, []⟩) ∧ 
((ConOK Try.prog ((15 : Nat)) (K15bs p c (0 : Int))) ∧ (Con.pre (K15bs p c (0 : Int)) ⟨⟨[(.int IntKind.i64 (p))], [⟨((0 : Nat)), (c)⟩, ⟨((1 : Nat)), ((1 : Nat))⟩]⟩, [[(.int IntKind.i64 ((0 : Int)))]]⟩) ∧ 
((ConOK Try.prog ((15 : Nat)) (K15bs p c (-1 : Int))) ∧ (Con.pre (K15bs p c (-1 : Int)) ⟨⟨[(.int IntKind.i64 (p))], [⟨((0 : Nat)), (c)⟩, ⟨((1 : Nat)), ((1 : Nat))⟩]⟩, [[(.int IntKind.i64 ((-1 : Int)))]]⟩) ∧ 
((ConOK Try.prog ((15 : Nat)) (K15bs p c (7 : Int))) ∧ (Con.pre (K15bs p c (7 : Int)) ⟨⟨[(.int IntKind.i64 (p))], [⟨((0 : Nat)), (c)⟩, ⟨((1 : Nat)), ((1 : Nat))⟩]⟩, [[(.int IntKind.i64 ((7 : Int)))]]⟩) ∧ 
((ConOK Try.prog ((18 : Nat)) (K18s p c)) ∧ (Con.pre (K18s p c) ⟨⟨[(.int IntKind.i64 (p))], [⟨((0 : Nat)), (c)⟩]⟩, []⟩) ∧ 
((ConOK Try.prog ((19 : Nat)) (K19se p c (221 : Int))) ∧ (Con.pre (K19se p c (221 : Int)) ⟨⟨[(.int IntKind.i64 (p)), (.int IntKind.i64 ((221 : Int)))], [⟨((0 : Nat)), (c)⟩]⟩, []⟩) ∧ 
((ConOK Try.prog ((23 : Nat)) (K23s p c)) ∧ (Con.pre (K23s p c) ⟨⟨[(.int IntKind.i64 (p))], [⟨((0 : Nat)), (c)⟩]⟩, []⟩) ∧ 
((ConOK Try.prog ((12 : Nat)) (C12)) ∧ (Con.pre (C12) ⟨⟨[], []⟩, []⟩) ∧ 
R (.ret (.bool true)))))))))))))) := by kernel_rfl

theorem z4f (p : Int) (c k d : Nat) (m8 : Int) (ms bs : List Value) (R : ARes → Prop)  : (vx.call 4 [hV p 0 c, slV 1 k d, U8 m8] (retK R) (m2b ms bs) ((17, Hint.con (K21sf p c)) :: (3, Hint.con (K15sf p c)) :: (6, Hint.con (K19sf p c (-1 : Int))) :: (19, Hint.con C12) :: [])) =
(((ConOK Try.prog ((21 : Nat)) (K21sf p c)) ∧ (Con.pre (K21sf p c) ⟨⟨[(.int IntKind.i64 (p))], [⟨((0 : Nat)), (c)⟩]⟩, []⟩) ∧ 
((ConOK Try.prog ((15 : Nat)) (K15sf p c)) ∧ (Con.pre (K15sf p c) ⟨⟨[(.int IntKind.i64 (p))], [⟨((0 : Nat)), (c)⟩]⟩, []⟩) ∧ 
((ConOK Try.prog ((19 : Nat)) (K19sf p c (-1 : Int))) ∧ (Con.pre (K19sf p c (-1 : Int)) ⟨⟨[(.int IntKind.i64 (p)), (.int IntKind.i64 ((-1 : Int)))], [⟨((0 : Nat)), (c)⟩]⟩, []⟩) ∧ 
((ConOK Try.prog ((12 : Nat)) (C12)) ∧ (Con.pre (C12) ⟨⟨[], []⟩, []⟩) ∧ 
R (.ret (.bool true))))))) := by kernel_rfl

theorem z4_ok (p : Int) (c k d : Nat) (m8 : Int) (ms bs : List Value) (hm : 0 ≤ m8 ∧ m8 < 256) : ∃ hs, vx.call 4 [hV p 0 c, slV 1 k d, U8 m8] (retK fun r => r = .ret (.bool true)) (m2b ms bs) hs := by
  have key : ∀ R : ARes → Prop, R (.ret (.bool true)) → ∃ hs, vx.call 4 [hV p 0 c, slV 1 k d, U8 m8] (retK R) (m2b ms bs) hs := by
    intro R hR
    have hmm := min_mod hm
    by_cases hp : 0 ≤ p ∧ p ≤ 3
    · refine ⟨_, (z4t p c k d m8 ms bs R).mpr ?_⟩
      repeat' (first | with_reducible apply And.intro | with_reducible intro)
      all_goals first
        | exact C12_ok
        | exact K21st_ok p c hp
        | exact K15st_ok p c hp
        | exact K15bs_ok p c _ hp
        | exact K19st_ok p c _ hp hmm
        | exact K19se_ok p c _ hp (by omega)
        | exact K18s_ok p c hp
        | exact K23s_ok p c hp
        | trivial
        | exact hR
        | omega
        | rfl
    · refine ⟨_, (z4f p c k d m8 ms bs R).mpr ?_⟩
      repeat' (first | with_reducible apply And.intro | with_reducible intro)
      all_goals first
        | exact C12_ok
        | exact K21sf_ok p c hp
        | exact K15sf_ok p c hp
        | exact K19sf_ok p c _ hp
        | trivial
        | exact hR
        | omega
        | rfl
  exact key _ rfl
theorem z4nt (p : Int) (c : Nat) (m8 : Int) (ms : List Value) (R : ARes → Prop)  : (vx.call 4 [hV p 0 c, nilS, U8 m8] (retK R) (m2n ms) ((17, Hint.con (K21st p c)) :: (59, Hint.again) :: (23, Hint.con (K15st p c)) :: (7, Hint.con (K19st p c ((IntKind.i64.wrap m8).tmod (221 : Int)))) :: (58, Hint.con (K15bs p c (0 : Int))) :: (17, Hint.con (K15bs p c (-1 : Int))) :: (17, Hint.con (K15bs p c (7 : Int))) :: (16, Hint.con (K18s p c)) :: (6, Hint.con (K19se p c (221 : Int))) :: (7, Hint.con (K23s p c)) :: (16, Hint.con C12) :: [])) =
(((ConOK Try.prog ((21 : Nat)) (K21st p c)) ∧ (Con.pre (K21st p c) ⟨⟨[(.int IntKind.i64 (p))], [⟨((0 : Nat)), (c)⟩]⟩, []⟩) ∧ 
((((((2 : Nat) ≤ (2 : Nat))) ∧ (((.agg ⟨[(.int IntKind.i64 (p)), (.slice (.some ⟨((0 : Nat)), ((0 : Nat)), .none⟩) ((0 : Nat)) (c))]⟩) : Value) = (.agg ⟨[(.int IntKind.i64 (p)), (.slice (.some ⟨((0 : Nat)), ((0 : Nat)), .none⟩) ((0 : Nat)) (c))]⟩))) ∧ (True)) ∧ 
((ConOK Try.prog ((15 : Nat)) (K15st p c)) ∧ (Con.pre (K15st p c) ⟨⟨[(.int IntKind.i64 (p))], [⟨((0 : Nat)), (c)⟩]⟩, []⟩) ∧ 
((ConOK Try.prog ((19 : Nat)) (K19st p c ((IntKind.i64.wrap m8).tmod (OfNat.ofNat (221 : Nat))))) ∧ (Con.pre (K19st p c ((IntKind.i64.wrap m8).tmod (OfNat.ofNat (221 : Nat)))) ⟨⟨[(.int IntKind.i64 (p)), (.int IntKind.i64 ((IntKind.i64.wrap m8).tmod (221 : Int)))], [⟨((0 : Nat)), (c)⟩]⟩, []⟩) ∧ 
((ConOK Try.prog ((15 : Nat)) (K15bs p c (0 : Int))) ∧ (Con.pre (K15bs p c (0 : Int)) ⟨⟨[(.int IntKind.i64 (p))], [⟨((0 : Nat)), (c)⟩, ⟨((1 : Nat)), ((1 : Nat))⟩]⟩, [[(.int IntKind.i64 ((0 : Int)))]]⟩) ∧ 
((ConOK Try.prog ((15 : Nat)) (K15bs p c (-1 : Int))) ∧ (Con.pre (K15bs p c (-1 : Int)) ⟨⟨[(.int IntKind.i64 (p))], [⟨((0 : Nat)), (c)⟩, ⟨((1 : Nat)), ((1 : Nat))⟩]⟩, [[(.int IntKind.i64 ((-1 : Int)))]]⟩) ∧ 
((ConOK Try.prog ((15 : Nat)) (K15bs p c (7 : Int))) ∧ (Con.pre (K15bs p c (7 : Int)) ⟨⟨[(.int IntKind.i64 (p))], [⟨((0 : Nat)), (c)⟩, ⟨((1 : Nat)), ((1 : Nat))⟩]⟩, [[(.int IntKind.i64 ((7 : Int)))]]⟩) ∧ 
((ConOK Try.prog ((18 : Nat)) (K18s p c)) ∧ (Con.pre (K18s p c) ⟨⟨[(.int IntKind.i64 (p))], [⟨((0 : Nat)), (c)⟩]⟩, []⟩) ∧ 
((ConOK Try.prog ((19 : Nat)) (K19se p c (221 : Int))) ∧ (Con.pre (K19se p c (221 : Int)) ⟨⟨[(.int IntKind.i64 (p)), (.int IntKind.i64 ((221 : Int)))], [⟨((0 : Nat)), (c)⟩]⟩, []⟩) ∧ 
((ConOK Try.prog ((23 : Nat)) (K23s p c)) ∧ (Con.pre (K23s p c) ⟨⟨[(.int IntKind.i64 (p))], [⟨((0 : Nat)), (c)⟩]⟩, []⟩) ∧ 
((ConOK Try.prog ((12 : Nat)) (C12)) ∧ (Con.pre (C12) ⟨⟨[], []⟩, []⟩) ∧ 
R (.ret (.bool true)))))))))))))) := by kernel_rfl

theorem z4nf (p : Int) (c : Nat) (m8 : Int) (ms : List Value) (R : ARes → Prop)  : (vx.call 4 [hV p 0 c, nilS, U8 m8] (retK R) (m2n ms) ((17, Hint.con (K21sf p c)) :: (3, Hint.con (K15sf p c)) :: (6, Hint.con (K19sf p c (-1 : Int))) :: (19, Hint.con C12) :: [])) =
(((ConOK Try.prog ((21 : Nat)) (K21sf p c)) ∧ (Con.pre (K21sf p c) ⟨⟨[(.int IntKind.i64 (p))], [⟨((0 : Nat)), (c)⟩]⟩, []⟩) ∧ 
((ConOK Try.prog ((15 : Nat)) (K15sf p c)) ∧ (Con.pre (K15sf p c) ⟨⟨[(.int IntKind.i64 (p))], [⟨((0 : Nat)), (c)⟩]⟩, []⟩) ∧ 
((ConOK Try.prog ((19 : Nat)) (K19sf p c (-1 : Int))) ∧ (Con.pre (K19sf p c (-1 : Int)) ⟨⟨[(.int IntKind.i64 (p)), (.int IntKind.i64 ((-1 : Int)))], [⟨((0 : Nat)), (c)⟩]⟩, []⟩) ∧ 
((ConOK Try.prog ((12 : Nat)) (C12)) ∧ (Con.pre (C12) ⟨⟨[], []⟩, []⟩) ∧ 
R (.ret (.bool true))))))) := by kernel_rfl

theorem z4n_ok (p : Int) (c : Nat) (m8 : Int) (ms : List Value) (hm : 0 ≤ m8 ∧ m8 < 256) : ∃ hs, vx.call 4 [hV p 0 c, nilS, U8 m8] (retK fun r => r = .ret (.bool true)) (m2n ms) hs := by
  have key : ∀ R : ARes → Prop, R (.ret (.bool true)) → ∃ hs, vx.call 4 [hV p 0 c, nilS, U8 m8] (retK R) (m2n ms) hs := by
    intro R hR
    have hmm := min_mod hm
    by_cases hp : 0 ≤ p ∧ p ≤ 3
    · refine ⟨_, (z4nt p c m8 ms R).mpr ?_⟩
      repeat' (first | with_reducible apply And.intro | with_reducible intro)
      all_goals first
        | exact C12_ok
        | exact K21st_ok p c hp
        | exact K15st_ok p c hp
        | exact K15bs_ok p c _ hp
        | exact K19st_ok p c _ hp hmm
        | exact K19se_ok p c _ hp (by omega)
        | exact K18s_ok p c hp
        | exact K23s_ok p c hp
        | trivial
        | exact hR
        | omega
        | rfl
    · refine ⟨_, (z4nf p c m8 ms R).mpr ?_⟩
      repeat' (first | with_reducible apply And.intro | with_reducible intro)
      all_goals first
        | exact C12_ok
        | exact K21sf_ok p c hp
        | exact K15sf_ok p c hp
        | exact K19sf_ok p c _ hp
        | trivial
        | exact hR
        | omega
        | rfl
  exact key _ rfl
theorem e41t (p : Int) (k d : Nat) (m8 : Int) (bs : List Value) (R : ARes → Prop)  : (vx.call 4 [hV p 0 0, slV 1 k d, U8 m8] (retK R) (m2z bs) ((17, Hint.con (K21st p (0 : Nat))) :: (59, Hint.again) :: (23, Hint.con (K15st p (0 : Nat))) :: (7, Hint.con (K19st p (0 : Nat) ((IntKind.i64.wrap m8).tmod (221 : Int)))) :: (58, Hint.con (K15bs p (0 : Nat) (0 : Int))) :: (17, Hint.con (K15bs p (0 : Nat) (-1 : Int))) :: (17, Hint.con (K15bs p (0 : Nat) (7 : Int))) :: (16, Hint.con (K18s p (0 : Nat))) :: (6, Hint.con (K19se p (0 : Nat) (221 : Int))) :: (7, Hint.con (K23s p (0 : Nat))) :: (16, Hint.con C12) :: [])) =
(((ConOK Try.prog ((21 : Nat)) (K21st p (0 : Nat))) ∧ (Con.pre (K21st p (0 : Nat)) ⟨⟨[(.int IntKind.i64 (p))], [⟨((0 : Nat)), ((0 : Nat))⟩]⟩, []⟩) ∧ 
((((((2 : Nat) ≤ (2 : Nat))) ∧ (((.agg ⟨[(.int IntKind.i64 (p)), (.slice (.some ⟨((0 : Nat)), ((0 : Nat)), .none⟩) ((0 : Nat)) ((0 : Nat)))]⟩) : Value) = (.agg ⟨[(.int IntKind.i64 (p)), (.slice (.some ⟨((0 : Nat)), ((0 : Nat)), .none⟩) ((0 : Nat)) ((0 : Nat)))]⟩))) ∧ (True)) ∧ 
((ConOK Try.prog ((15 : Nat)) (K15st p (0 : Nat))) ∧ (Con.pre (K15st p (0 : Nat)) ⟨⟨[(.int IntKind.i64 (p))], [⟨((0 : Nat)), ((0 : Nat))⟩]⟩, []⟩) ∧ 
((ConOK Try.prog ((19 : Nat)) (K19st p (0 : Nat) ((IntKind.i64.wrap m8).tmod (OfNat.ofNat (221 : Nat))))) ∧ (Con.pre (K19st p (0 : Nat) ((IntKind.i64.wrap m8).tmod (OfNat.ofNat (221 : Nat)))) ⟨⟨[(.int IntKind.i64 (p)), (.int IntKind.i64 ((IntKind.i64.wrap m8).tmod (221 : Int)))], [⟨((0 : Nat)), ((0 : Nat))⟩]⟩, []⟩) ∧ 
((ConOK Try.prog ((15 : Nat)) (K15bs p (0 : Nat) (0 : Int))) ∧ (Con.pre (K15bs p (0 : Nat) (0 : Int)) ⟨⟨[(.int IntKind.i64 (p))], [⟨((0 : Nat)), ((0 : Nat))⟩, ⟨((1 : Nat)), ((1 : Nat))⟩]⟩, [[(.int IntKind.i64 ((0 : Int)))]]⟩) ∧ 
((ConOK Try.prog ((15 : Nat)) (K15bs p (0 : Nat) (-1 : Int))) ∧ (Con.pre (K15bs p (0 : Nat) (-1 : Int)) ⟨⟨[(.int IntKind.i64 (p))], [⟨((0 : Nat)), ((0 : Nat))⟩, ⟨((1 : Nat)), ((1 : Nat))⟩]⟩, [[(.int IntKind.i64 ((-1 : Int)))]]⟩) ∧ 
((ConOK Try.prog ((15 : Nat)) (K15bs p (0 : Nat) (7 : Int))) ∧ (Con.pre (K15bs p (0 : Nat) (7 : Int)) ⟨⟨[(.int IntKind.i64 (p))], [⟨((0 : Nat)), ((0 : Nat))⟩, ⟨((1 : Nat)), ((1 : Nat))⟩]⟩, [[(.int IntKind.i64 ((7 : Int)))]]⟩) ∧ 
((ConOK Try.prog ((18 : Nat)) (K18s p (0 : Nat))) ∧ (Con.pre (K18s p (0 : Nat)) ⟨⟨[(.int IntKind.i64 (p))], [⟨((0 : Nat)), ((0 : Nat))⟩]⟩, []⟩) ∧ 
((ConOK Try.prog ((19 : Nat)) (K19se p (0 : Nat) (221 : Int))) ∧ (Con.pre (K19se p (0 : Nat) (221 : Int)) ⟨⟨[(.int IntKind.i64 (p)), (.int IntKind.i64 ((221 : Int)))], [⟨((0 : Nat)), ((0 : Nat))⟩]⟩, []⟩) ∧ 
((ConOK Try.prog ((23 : Nat)) (K23s p (0 : Nat))) ∧ (Con.pre (K23s p (0 : Nat)) ⟨⟨[(.int IntKind.i64 (p))], [⟨((0 : Nat)), ((0 : Nat))⟩]⟩, []⟩) ∧ 
((ConOK Try.prog ((12 : Nat)) (C12)) ∧ (Con.pre (C12) ⟨⟨[], []⟩, []⟩) ∧ 
R (.ret (.bool true)))))))))))))) := by kernel_rfl

theorem e41f (p : Int) (k d : Nat) (m8 : Int) (bs : List Value) (R : ARes → Prop)  : (vx.call 4 [hV p 0 0, slV 1 k d, U8 m8] (retK R) (m2z bs) ((17, Hint.con (K21sf p (0 : Nat))) :: (3, Hint.con (K15sf p (0 : Nat))) :: (6, Hint.con (K19sf p (0 : Nat) (-1 : Int))) :: (19, Hint.con C12) :: [])) =
(((ConOK Try.prog ((21 : Nat)) (K21sf p (0 : Nat))) ∧ (Con.pre (K21sf p (0 : Nat)) ⟨⟨[(.int IntKind.i64 (p))], [⟨((0 : Nat)), ((0 : Nat))⟩]⟩, []⟩) ∧ 
((ConOK Try.prog ((15 : Nat)) (K15sf p (0 : Nat))) ∧ (Con.pre (K15sf p (0 : Nat)) ⟨⟨[(.int IntKind.i64 (p))], [⟨((0 : Nat)), ((0 : Nat))⟩]⟩, []⟩) ∧ 
((ConOK Try.prog ((19 : Nat)) (K19sf p (0 : Nat) (-1 : Int))) ∧ (Con.pre (K19sf p (0 : Nat) (-1 : Int)) ⟨⟨[(.int IntKind.i64 (p)), (.int IntKind.i64 ((-1 : Int)))], [⟨((0 : Nat)), ((0 : Nat))⟩]⟩, []⟩) ∧ 
((ConOK Try.prog ((12 : Nat)) (C12)) ∧ (Con.pre (C12) ⟨⟨[], []⟩, []⟩) ∧ 
R (.ret (.bool true))))))) := by kernel_rfl

theorem e41_ok (p : Int) (k d : Nat) (m8 : Int) (bs : List Value) (hm : 0 ≤ m8 ∧ m8 < 256) : ∃ hs, vx.call 4 [hV p 0 0, slV 1 k d, U8 m8] (retK fun r => r = .ret (.bool true)) (m2z bs) hs := by
  have key : ∀ R : ARes → Prop, R (.ret (.bool true)) → ∃ hs, vx.call 4 [hV p 0 0, slV 1 k d, U8 m8] (retK R) (m2z bs) hs := by
    intro R hR
    have hmm := min_mod hm
    by_cases hp : 0 ≤ p ∧ p ≤ 3
    · refine ⟨_, (e41t p k d m8 bs R).mpr ?_⟩
      repeat' (first | with_reducible apply And.intro | with_reducible intro)
      all_goals first
        | exact C12_ok
        | exact K21st_ok p 0 hp
        | exact K15st_ok p 0 hp
        | exact K15bs_ok p 0 _ hp
        | exact K19st_ok p 0 _ hp hmm
        | exact K19se_ok p 0 _ hp (by omega)
        | exact K18s_ok p 0 hp
        | exact K23s_ok p 0 hp
        | trivial
        | exact hR
        | omega
        | rfl
    · refine ⟨_, (e41f p k d m8 bs R).mpr ?_⟩
      repeat' (first | with_reducible apply And.intro | with_reducible intro)
      all_goals first
        | exact C12_ok
        | exact K21sf_ok p 0 hp
        | exact K15sf_ok p 0 hp
        | exact K19sf_ok p 0 _ hp
        | trivial
        | exact hR
        | omega
        | rfl
  exact key _ rfl
theorem e42t (p : Int) (m8 : Int) (R : ARes → Prop)  : (vx.call 4 [hV p 0 0, nilS, U8 m8] (retK R) m2d ((17, Hint.con (K21st p (0 : Nat))) :: (59, Hint.again) :: (23, Hint.con (K15st p (0 : Nat))) :: (7, Hint.con (K19st p (0 : Nat) ((IntKind.i64.wrap m8).tmod (221 : Int)))) :: (58, Hint.con (K15bs p (0 : Nat) (0 : Int))) :: (17, Hint.con (K15bs p (0 : Nat) (-1 : Int))) :: (17, Hint.con (K15bs p (0 : Nat) (7 : Int))) :: (16, Hint.con (K18s p (0 : Nat))) :: (6, Hint.con (K19se p (0 : Nat) (221 : Int))) :: (7, Hint.con (K23s p (0 : Nat))) :: (16, Hint.con C12) :: [])) =
(((ConOK Try.prog ((21 : Nat)) (K21st p (0 : Nat))) ∧ (Con.pre (K21st p (0 : Nat)) ⟨⟨[(.int IntKind.i64 (p))], [⟨((0 : Nat)), ((0 : Nat))⟩]⟩, []⟩) ∧ 
((((((2 : Nat) ≤ (2 : Nat))) ∧ (((.agg ⟨[(.int IntKind.i64 (p)), (.slice (.some ⟨((0 : Nat)), ((0 : Nat)), .none⟩) ((0 : Nat)) ((0 : Nat)))]⟩) : Value) = (.agg ⟨[(.int IntKind.i64 (p)), (.slice (.some ⟨((0 : Nat)), ((0 : Nat)), .none⟩) ((0 : Nat)) ((0 : Nat)))]⟩))) ∧ (True)) ∧ 
((ConOK Try.prog ((15 : Nat)) (K15st p (0 : Nat))) ∧ (Con.pre (K15st p (0 : Nat)) ⟨⟨[(.int IntKind.i64 (p))], [⟨((0 : Nat)), ((0 : Nat))⟩]⟩, []⟩) ∧ 
((ConOK Try.prog ((19 : Nat)) (K19st p (0 : Nat) ((IntKind.i64.wrap m8).tmod (OfNat.ofNat (221 : Nat))))) ∧ (Con.pre (K19st p (0 : Nat) ((IntKind.i64.wrap m8).tmod (OfNat.ofNat (221 : Nat)))) ⟨⟨[(.int IntKind.i64 (p)), (.int IntKind.i64 ((IntKind.i64.wrap m8).tmod (221 : Int)))], [⟨((0 : Nat)), ((0 : Nat))⟩]⟩, []⟩) ∧ 
((ConOK Try.prog ((15 : Nat)) (K15bs p (0 : Nat) (0 : Int))) ∧ (Con.pre (K15bs p (0 : Nat) (0 : Int)) ⟨⟨[(.int IntKind.i64 (p))], [⟨((0 : Nat)), ((0 : Nat))⟩, ⟨((1 : Nat)), ((1 : Nat))⟩]⟩, [[(.int IntKind.i64 ((0 : Int)))]]⟩) ∧ 
((ConOK Try.prog ((15 : Nat)) (K15bs p (0 : Nat) (-1 : Int))) ∧ (Con.pre (K15bs p (0 : Nat) (-1 : Int)) ⟨⟨[(.int IntKind.i64 (p))], [⟨((0 : Nat)), ((0 : Nat))⟩, ⟨((1 : Nat)), ((1 : Nat))⟩]⟩, [[(.int IntKind.i64 ((-1 : Int)))]]⟩) ∧ 
((ConOK Try.prog ((15 : Nat)) (K15bs p (0 : Nat) (7 : Int))) ∧ (Con.pre (K15bs p (0 : Nat) (7 : Int)) ⟨⟨[(.int IntKind.i64 (p))], [⟨((0 : Nat)), ((0 : Nat))⟩, ⟨((1 : Nat)), ((1 : Nat))⟩]⟩, [[(.int IntKind.i64 ((7 : Int)))]]⟩) ∧ 
((ConOK Try.prog ((18 : Nat)) (K18s p (0 : Nat))) ∧ (Con.pre (K18s p (0 : Nat)) ⟨⟨[(.int IntKind.i64 (p))], [⟨((0 : Nat)), ((0 : Nat))⟩]⟩, []⟩) ∧ 
((ConOK Try.prog ((19 : Nat)) (K19se p (0 : Nat) (221 : Int))) ∧ (Con.pre (K19se p (0 : Nat) (221 : Int)) ⟨⟨[(.int IntKind.i64 (p)), (.int IntKind.i64 ((221 : Int)))], [⟨((0 : Nat)), ((0 : Nat))⟩]⟩, []⟩) ∧ 
((ConOK Try.prog ((23 : Nat)) (K23s p (0 : Nat))) ∧ (Con.pre (K23s p (0 : Nat)) ⟨⟨[(.int IntKind.i64 (p))], [⟨((0 : Nat)), ((0 : Nat))⟩]⟩, []⟩) ∧ 
((ConOK Try.prog ((12 : Nat)) (C12)) ∧ (Con.pre (C12) ⟨⟨[], []⟩, []⟩) ∧ 
R (.ret (.bool true)))))))))))))) := by kernel_rfl

theorem e42f (p : Int) (m8 : Int) (R : ARes → Prop)  : (vx.call 4 [hV p 0 0, nilS, U8 m8] (retK R) m2d ((17, Hint.con (K21sf p (0 : Nat))) :: (3, Hint.con (K15sf p (0 : Nat))) :: (6, Hint.con (K19sf p (0 : Nat) (-1 : Int))) :: (19, Hint.con C12) :: [])) =
(((ConOK Try.prog ((21 : Nat)) (K21sf p (0 : Nat))) ∧ (Con.pre (K21sf p (0 : Nat)) ⟨⟨[(.int IntKind.i64 (p))], [⟨((0 : Nat)), ((0 : Nat))⟩]⟩, []⟩) ∧ 
((ConOK Try.prog ((15 : Nat)) (K15sf p (0 : Nat))) ∧ (Con.pre (K15sf p (0 : Nat)) ⟨⟨[(.int IntKind.i64 (p))], [⟨((0 : Nat)), ((0 : Nat))⟩]⟩, []⟩) ∧ 
((ConOK Try.prog ((19 : Nat)) (K19sf p (0 : Nat) (-1 : Int))) ∧ (Con.pre (K19sf p (0 : Nat) (-1 : Int)) ⟨⟨[(.int IntKind.i64 (p)), (.int IntKind.i64 ((-1 : Int)))], [⟨((0 : Nat)), ((0 : Nat))⟩]⟩, []⟩) ∧ 
((ConOK Try.prog ((12 : Nat)) (C12)) ∧ (Con.pre (C12) ⟨⟨[], []⟩, []⟩) ∧ 
R (.ret (.bool true))))))) := by kernel_rfl

theorem e42_ok (p : Int) (m8 : Int) (hm : 0 ≤ m8 ∧ m8 < 256) : ∃ hs, vx.call 4 [hV p 0 0, nilS, U8 m8] (retK fun r => r = .ret (.bool true)) m2d hs := by
  have key : ∀ R : ARes → Prop, R (.ret (.bool true)) → ∃ hs, vx.call 4 [hV p 0 0, nilS, U8 m8] (retK R) m2d hs := by
    intro R hR
    have hmm := min_mod hm
    by_cases hp : 0 ≤ p ∧ p ≤ 3
    · refine ⟨_, (e42t p m8 R).mpr ?_⟩
      repeat' (first | with_reducible apply And.intro | with_reducible intro)
      all_goals first
        | exact C12_ok
        | exact K21st_ok p 0 hp
        | exact K15st_ok p 0 hp
        | exact K15bs_ok p 0 _ hp
        | exact K19st_ok p 0 _ hp hmm
        | exact K19se_ok p 0 _ hp (by omega)
        | exact K18s_ok p 0 hp
        | exact K23s_ok p 0 hp
        | trivial
        | exact hR
        | omega
        | rfl
    · refine ⟨_, (e42f p m8 R).mpr ?_⟩
      repeat' (first | with_reducible apply And.intro | with_reducible intro)
      all_goals first
        | exact C12_ok
        | exact K21sf_ok p 0 hp
        | exact K15sf_ok p 0 hp
        | exact K19sf_ok p 0 _ hp
        | trivial
        | exact hR
        | omega
        | rfl
  exact key _ rfl
theorem e43t (p : Int) (m8 : Int) (R : ARes → Prop)  : (vx.call 4 [hV p 0 0, slV 1 0 0, U8 m8] (retK R) m2d ((17, Hint.con (K21st p (0 : Nat))) :: (59, Hint.again) :: (23, Hint.con (K15st p (0 : Nat))) :: (7, Hint.con (K19st p (0 : Nat) ((IntKind.i64.wrap m8).tmod (221 : Int)))) :: (58, Hint.con (K15bs p (0 : Nat) (0 : Int))) :: (17, Hint.con (K15bs p (0 : Nat) (-1 : Int))) :: (17, Hint.con (K15bs p (0 : Nat) (7 : Int))) :: (16, Hint.con (K18s p (0 : Nat))) :: (6, Hint.con (K19se p (0 : Nat) (221 : Int))) :: (7, Hint.con (K23s p (0 : Nat))) :: (16, Hint.con C12) :: [])) =
(((ConOK Try.prog ((21 : Nat)) (K21st p (0 : Nat))) ∧ (Con.pre (K21st p (0 : Nat)) ⟨⟨[(.int IntKind.i64 (p))], [⟨((0 : Nat)), ((0 : Nat))⟩]⟩, []⟩) ∧ 
((((((2 : Nat) ≤ (2 : Nat))) ∧ (((.agg ⟨[(.int IntKind.i64 (p)), (.slice (.some ⟨((0 : Nat)), ((0 : Nat)), .none⟩) ((0 : Nat)) ((0 : Nat)))]⟩) : Value) = (.agg ⟨[(.int IntKind.i64 (p)), (.slice (.some ⟨((0 : Nat)), ((0 : Nat)), .none⟩) ((0 : Nat)) ((0 : Nat)))]⟩))) ∧ (True)) ∧ 
((ConOK Try.prog ((15 : Nat)) (K15st p (0 : Nat))) ∧ (Con.pre (K15st p (0 : Nat)) ⟨⟨[(.int IntKind.i64 (p))], [⟨((0 : Nat)), ((0 : Nat))⟩]⟩, []⟩) ∧ 
((ConOK Try.prog ((19 : Nat)) (K19st p (0 : Nat) ((IntKind.i64.wrap m8).tmod (OfNat.ofNat (221 : Nat))))) ∧ (Con.pre (K19st p (0 : Nat) ((IntKind.i64.wrap m8).tmod (OfNat.ofNat (221 : Nat)))) ⟨⟨[(.int IntKind.i64 (p)), (.int IntKind.i64 ((IntKind.i64.wrap m8).tmod (221 : Int)))], [⟨((0 : Nat)), ((0 : Nat))⟩]⟩, []⟩) ∧ 
((ConOK Try.prog ((15 : Nat)) (K15bs p (0 : Nat) (0 : Int))) ∧ (Con.pre (K15bs p (0 : Nat) (0 : Int)) ⟨⟨[(.int IntKind.i64 (p))], [⟨((0 : Nat)), ((0 : Nat))⟩, ⟨((1 : Nat)), ((1 : Nat))⟩]⟩, [[(.int IntKind.i64 ((0 : Int)))]]⟩) ∧ 
((ConOK Try.prog ((15 : Nat)) (K15bs p (0 : Nat) (-1 : Int))) ∧ (Con.pre (K15bs p (0 : Nat) (-1 : Int)) ⟨⟨[(.int IntKind.i64 (p))], [⟨((0 : Nat)), ((0 : Nat))⟩, ⟨((1 : Nat)), ((1 : Nat))⟩]⟩, [[(.int IntKind.i64 ((-1 : Int)))]]⟩) ∧ 
((ConOK Try.prog ((15 : Nat)) (K15bs p (0 : Nat) (7 : Int))) ∧ (Con.pre (K15bs p (0 : Nat) (7 : Int)) ⟨⟨[(.int IntKind.i64 (p))], [⟨((0 : Nat)), ((0 : Nat))⟩, ⟨((1 : Nat)), ((1 : Nat))⟩]⟩, [[(.int IntKind.i64 ((7 : Int)))]]⟩) ∧ 
((ConOK Try.prog ((18 : Nat)) (K18s p (0 : Nat))) ∧ (Con.pre (K18s p (0 : Nat)) ⟨⟨[(.int IntKind.i64 (p))], [⟨((0 : Nat)), ((0 : Nat))⟩]⟩, []⟩) ∧ 
((ConOK Try.prog ((19 : Nat)) (K19se p (0 : Nat) (221 : Int))) ∧ (Con.pre (K19se p (0 : Nat) (221 : Int)) ⟨⟨[(.int IntKind.i64 (p)), (.int IntKind.i64 ((221 : Int)))], [⟨((0 : Nat)), ((0 : Nat))⟩]⟩, []⟩) ∧ 
((ConOK Try.prog ((23 : Nat)) (K23s p (0 : Nat))) ∧ (Con.pre (K23s p (0 : Nat)) ⟨⟨[(.int IntKind.i64 (p))], [⟨((0 : Nat)), ((0 : Nat))⟩]⟩, []⟩) ∧ 
((ConOK Try.prog ((12 : Nat)) (C12)) ∧ (Con.pre (C12) ⟨⟨[], []⟩, []⟩) ∧ 
R (.ret (.bool true)))))))))))))) := by kernel_rfl

theorem e43f (p : Int) (m8 : Int) (R : ARes → Prop)  : (vx.call 4 [hV p 0 0, slV 1 0 0, U8 m8] (retK R) m2d ((17, Hint.con (K21sf p (0 : Nat))) :: (3, Hint.con (K15sf p (0 : Nat))) :: (6, Hint.con (K19sf p (0 : Nat) (-1 : Int))) :: (19, Hint.con C12) :: [])) =
(((ConOK Try.prog ((21 : Nat)) (K21sf p (0 : Nat))) ∧ (Con.pre (K21sf p (0 : Nat)) ⟨⟨[(.int IntKind.i64 (p))], [⟨((0 : Nat)), ((0 : Nat))⟩]⟩, []⟩) ∧ 
((ConOK Try.prog ((15 : Nat)) (K15sf p (0 : Nat))) ∧ (Con.pre (K15sf p (0 : Nat)) ⟨⟨[(.int IntKind.i64 (p))], [⟨((0 : Nat)), ((0 : Nat))⟩]⟩, []⟩) ∧ 
((ConOK Try.prog ((19 : Nat)) (K19sf p (0 : Nat) (-1 : Int))) ∧ (Con.pre (K19sf p (0 : Nat) (-1 : Int)) ⟨⟨[(.int IntKind.i64 (p)), (.int IntKind.i64 ((-1 : Int)))], [⟨((0 : Nat)), ((0 : Nat))⟩]⟩, []⟩) ∧ 
((ConOK Try.prog ((12 : Nat)) (C12)) ∧ (Con.pre (C12) ⟨⟨[], []⟩, []⟩) ∧ 
R (.ret (.bool true))))))) := by kernel_rfl

theorem e43_ok (p : Int) (m8 : Int) (hm : 0 ≤ m8 ∧ m8 < 256) : ∃ hs, vx.call 4 [hV p 0 0, slV 1 0 0, U8 m8] (retK fun r => r = .ret (.bool true)) m2d hs := by
  have key : ∀ R : ARes → Prop, R (.ret (.bool true)) → ∃ hs, vx.call 4 [hV p 0 0, slV 1 0 0, U8 m8] (retK R) m2d hs := by
    intro R hR
    have hmm := min_mod hm
    by_cases hp : 0 ≤ p ∧ p ≤ 3
    · refine ⟨_, (e43t p m8 R).mpr ?_⟩
      repeat' (first | with_reducible apply And.intro | with_reducible intro)
      all_goals first
        | exact C12_ok
        | exact K21st_ok p 0 hp
        | exact K15st_ok p 0 hp
        | exact K15bs_ok p 0 _ hp
        | exact K19st_ok p 0 _ hp hmm
        | exact K19se_ok p 0 _ hp (by omega)
        | exact K18s_ok p 0 hp
        | exact K23s_ok p 0 hp
        | trivial
        | exact hR
        | omega
        | rfl
    · refine ⟨_, (e43f p m8 R).mpr ?_⟩
      repeat' (first | with_reducible apply And.intro | with_reducible intro)
      all_goals first
        | exact C12_ok
        | exact K21sf_ok p 0 hp
        | exact K15sf_ok p 0 hp
        | exact K19sf_ok p 0 _ hp
        | trivial
        | exact hR
        | omega
        | rfl
  exact key _ rfl
theorem y4t (p : Int) (k d : Nat) (m8 : Int) (bs : List Value) (R : ARes → Prop)  : (vx.call 4 [hN p, slV 1 k d, U8 m8] (retK R) (m2z bs) ((17, Hint.con (K21nt p)) :: (59, Hint.again) :: (23, Hint.con (K15nt p)) :: (7, Hint.con (K19nt p ((IntKind.i64.wrap m8).tmod (221 : Int)))) :: (58, Hint.con (K15bn p (0 : Int))) :: (17, Hint.con (K15bn p (-1 : Int))) :: (17, Hint.con (K15bn p (7 : Int))) :: (16, Hint.con (K18n p)) :: (6, Hint.con (K19ne p (221 : Int))) :: (7, Hint.con (K23n p)) :: (16, Hint.con C12) :: [])) =
(((ConOK Try.prog ((21 : Nat)) (K21nt p)) ∧ (Con.pre (K21nt p) ⟨⟨[(.int IntKind.i64 (p))], []⟩, []⟩) ∧ 
((((((2 : Nat) ≤ (2 : Nat))) ∧ (((.agg ⟨[(.int IntKind.i64 (p)), (.slice .none ((0 : Nat)) ((0 : Nat)))]⟩) : Value) = (.agg ⟨[(.int IntKind.i64 (p)), (.slice .none ((0 : Nat)) ((0 : Nat)))]⟩))) ∧ (True)) ∧ 
((ConOK Try.prog ((15 : Nat)) (K15nt p)) ∧ (Con.pre (K15nt p) ⟨⟨[(.int IntKind.i64 (p))], []⟩, []⟩) ∧ 
((ConOK Try.prog ((19 : Nat)) (K19nt p ((IntKind.i64.wrap m8).tmod (OfNat.ofNat (221 : Nat))))) ∧ (Con.pre (K19nt p ((IntKind.i64.wrap m8).tmod (OfNat.ofNat (221 : Nat)))) ⟨⟨[(.int IntKind.i64 (p)), (.int IntKind.i64 ((IntKind.i64.wrap m8).tmod (221 : Int)))], []⟩, []⟩) ∧ 
((ConOK Try.prog ((15 : Nat)) (K15bn p (0 : Int))) ∧ (Con.pre (K15bn p (0 : Int)) ⟨⟨[(.int IntKind.i64 (p))], [⟨((1 : Nat)), ((1 : Nat))⟩]⟩, [[(.int IntKind.i64 ((0 : Int)))]]⟩) ∧ 
((ConOK Try.prog ((15 : Nat)) (K15bn p (-1 : Int))) ∧ (Con.pre (K15bn p (-1 : Int)) ⟨⟨[(.int IntKind.i64 (p))], [⟨((1 : Nat)), ((1 : Nat))⟩]⟩, [[(.int IntKind.i64 ((-1 : Int)))]]⟩) ∧ 
((ConOK Try.prog ((15 : Nat)) (K15bn p (7 : Int))) ∧ (Con.pre (K15bn p (7 : Int)) ⟨⟨[(.int IntKind.i64 (p))], [⟨((1 : Nat)), ((1 : Nat))⟩]⟩, [[(.int IntKind.i64 ((7 : Int)))]]⟩) ∧ 
((ConOK Try.prog ((18 : Nat)) (K18n p)) ∧ (Con.pre (K18n p) ⟨⟨[(.int IntKind.i64 (p))], []⟩, []⟩) ∧ 
((ConOK Try.prog ((19 : Nat)) (K19ne p (221 : Int))) ∧ (Con.pre (K19ne p (221 : Int)) ⟨⟨[(.int IntKind.i64 (p)), (.int IntKind.i64 ((221 : Int)))], []⟩, []⟩) ∧ 
((ConOK Try.prog ((23 : Nat)) (K23n p)) ∧ (Con.pre (K23n p) ⟨⟨[(.int IntKind.i64 (p))], []⟩, []⟩) ∧ 
((ConOK Try.prog ((12 : Nat)) (C12)) ∧ (Con.pre (C12) ⟨⟨[], []⟩, []⟩) ∧ 
R (.ret (.bool true)))))))))))))) := by kernel_rfl

theorem y4f (p : Int) (k d : Nat) (m8 : Int) (bs : List Value) (R : ARes → Prop)  : (vx.call 4 [hN p, slV 1 k d, U8 m8] (retK R) (m2z bs) ((17, Hint.con (K21nf p)) :: (3, Hint.con (K15nf p)) :: (6, Hint.con (K19nf p (-1 : Int))) :: (19, Hint.con C12) :: [])) =
(((ConOK Try.prog ((21 : Nat)) (K21nf p)) ∧ (Con.pre (K21nf p) ⟨⟨[(.int IntKind.i64 (p))], []⟩, []⟩) ∧ 
((ConOK Try.prog ((15 : Nat)) (K15nf p)) ∧ (Con.pre (K15nf p) ⟨⟨[(.int IntKind.i64 (p))], []⟩, []⟩) ∧ 
((ConOK Try.prog ((19 : Nat)) (K19nf p (-1 : Int))) ∧ (Con.pre (K19nf p (-1 : Int)) ⟨⟨[(.int IntKind.i64 (p)), (.int IntKind.i64 ((-1 : Int)))], []⟩, []⟩) ∧ 
((ConOK Try.prog ((12 : Nat)) (C12)) ∧ (Con.pre (C12) ⟨⟨[], []⟩, []⟩) ∧ 
R (.ret (.bool true))))))) := by kernel_rfl

theorem y4_ok (p : Int) (k d : Nat) (m8 : Int) (bs : List Value) (hm : 0 ≤ m8 ∧ m8 < 256) : ∃ hs, vx.call 4 [hN p, slV 1 k d, U8 m8] (retK fun r => r = .ret (.bool true)) (m2z bs) hs := by
  have key : ∀ R : ARes → Prop, R (.ret (.bool true)) → ∃ hs, vx.call 4 [hN p, slV 1 k d, U8 m8] (retK R) (m2z bs) hs := by
    intro R hR
    have hmm := min_mod hm
    by_cases hp : 0 ≤ p ∧ p ≤ 3
    · refine ⟨_, (y4t p k d m8 bs R).mpr ?_⟩
      repeat' (first | with_reducible apply And.intro | with_reducible intro)
      all_goals first
        | exact C12_ok
        | exact K21nt_ok p hp
        | exact K15nt_ok p hp
        | exact K15bn_ok p _ hp
        | exact K19nt_ok p _ hp hmm
        | exact K19ne_ok p _ hp (by omega)
        | exact K18n_ok p hp
        | exact K23n_ok p hp
        | trivial
        | exact hR
        | omega
        | rfl
    · refine ⟨_, (y4f p k d m8 bs R).mpr ?_⟩
      repeat' (first | with_reducible apply And.intro | with_reducible intro)
      all_goals first
        | exact C12_ok
        | exact K21nf_ok p hp
        | exact K15nf_ok p hp
        | exact K19nf_ok p _ hp
        | trivial
        | exact hR
        | omega
        | rfl
  exact key _ rfl
theorem y4nt (p : Int) (m8 : Int) (R : ARes → Prop)  : (vx.call 4 [hN p, nilS, U8 m8] (retK R) m2d ((17, Hint.con (K21nt p)) :: (59, Hint.again) :: (23, Hint.con (K15nt p)) :: (7, Hint.con (K19nt p ((IntKind.i64.wrap m8).tmod (221 : Int)))) :: (58, Hint.con (K15bn p (0 : Int))) :: (17, Hint.con (K15bn p (-1 : Int))) :: (17, Hint.con (K15bn p (7 : Int))) :: (16, Hint.con (K18n p)) :: (6, Hint.con (K19ne p (221 : Int))) :: (7, Hint.con (K23n p)) :: (16, Hint.con C12) :: [])) =
(((ConOK Try.prog ((21 : Nat)) (K21nt p)) ∧ (Con.pre (K21nt p) ⟨⟨[(.int IntKind.i64 (p))], []⟩, []⟩) ∧ 
((((((2 : Nat) ≤ (2 : Nat))) ∧ (((.agg ⟨[(.int IntKind.i64 (p)), (.slice .none ((0 : Nat)) ((0 : Nat)))]⟩) : Value) = (.agg ⟨[(.int IntKind.i64 (p)), (.slice .none ((0 : Nat)) ((0 : Nat)))]⟩))) ∧ (True)) ∧ 
((ConOK Try.prog ((15 : Nat)) (K15nt p)) ∧ (Con.pre (K15nt p) ⟨⟨[(.int IntKind.i64 (p))], []⟩, []⟩) ∧ 
((ConOK Try.prog ((19 : Nat)) (K19nt p ((IntKind.i64.wrap m8).tmod (OfNat.ofNat (221 : Nat))))) ∧ (Con.pre (K19nt p ((IntKind.i64.wrap m8).tmod (OfNat.ofNat (221 : Nat)))) ⟨⟨[(.int IntKind.i64 (p)), (.int IntKind.i64 ((IntKind.i64.wrap m8).tmod (221 : Int)))], []⟩, []⟩) ∧ 
((ConOK Try.prog ((15 : Nat)) (K15bn p (0 : Int))) ∧ (Con.pre (K15bn p (0 : Int)) ⟨⟨[(.int IntKind.i64 (p))], [⟨((1 : Nat)), ((1 : Nat))⟩]⟩, [[(.int IntKind.i64 ((0 : Int)))]]⟩) ∧ 
((ConOK Try.prog ((15 : Nat)) (K15bn p (-1 : Int))) ∧ (Con.pre (K15bn p (-1 : Int)) ⟨⟨[(.int IntKind.i64 (p))], [⟨((1 : Nat)), ((1 : Nat))⟩]⟩, [[(.int IntKind.i64 ((-1 : Int)))]]⟩) ∧ 
((ConOK Try.prog ((15 : Nat)) (K15bn p (7 : Int))) ∧ (Con.pre (K15bn p (7 : Int)) ⟨⟨[(.int IntKind.i64 (p))], [⟨((1 : Nat)), ((1 : Nat))⟩]⟩, [[(.int IntKind.i64 ((7 : Int)))]]⟩) ∧ 
((ConOK Try.prog ((18 : Nat)) (K18n p)) ∧ (Con.pre (K18n p) ⟨⟨[(.int IntKind.i64 (p))], []⟩, []⟩) ∧ 
((ConOK Try.prog ((19 : Nat)) (K19ne p (221 : Int))) ∧ (Con.pre (K19ne p (221 : Int)) ⟨⟨[(.int IntKind.i64 (p)), (.int IntKind.i64 ((221 : Int)))], []⟩, []⟩) ∧ 
((ConOK Try.prog ((23 : Nat)) (K23n p)) ∧ (Con.pre (K23n p) ⟨⟨[(.int IntKind.i64 (p))], []⟩, []⟩) ∧ 
((ConOK Try.prog ((12 : Nat)) (C12)) ∧ (Con.pre (C12) ⟨⟨[], []⟩, []⟩) ∧ 
R (.ret (.bool true)))))))))))))) := by kernel_rfl

theorem y4nf (p : Int) (m8 : Int) (R : ARes → Prop)  : (vx.call 4 [hN p, nilS, U8 m8] (retK R) m2d ((17, Hint.con (K21nf p)) :: (3, Hint.con (K15nf p)) :: (6, Hint.con (K19nf p (-1 : Int))) :: (19, Hint.con C12) :: [])) =
(((ConOK Try.prog ((21 : Nat)) (K21nf p)) ∧ (Con.pre (K21nf p) ⟨⟨[(.int IntKind.i64 (p))], []⟩, []⟩) ∧ 
((ConOK Try.prog ((15 : Nat)) (K15nf p)) ∧ (Con.pre (K15nf p) ⟨⟨[(.int IntKind.i64 (p))], []⟩, []⟩) ∧ 
((ConOK Try.prog ((19 : Nat)) (K19nf p (-1 : Int))) ∧ (Con.pre (K19nf p (-1 : Int)) ⟨⟨[(.int IntKind.i64 (p)), (.int IntKind.i64 ((-1 : Int)))], []⟩, []⟩) ∧ 
((ConOK Try.prog ((12 : Nat)) (C12)) ∧ (Con.pre (C12) ⟨⟨[], []⟩, []⟩) ∧ 
R (.ret (.bool true))))))) := by kernel_rfl

theorem y4n_ok (p : Int) (m8 : Int) (hm : 0 ≤ m8 ∧ m8 < 256) : ∃ hs, vx.call 4 [hN p, nilS, U8 m8] (retK fun r => r = .ret (.bool true)) m2d hs := by
  have key : ∀ R : ARes → Prop, R (.ret (.bool true)) → ∃ hs, vx.call 4 [hN p, nilS, U8 m8] (retK R) m2d hs := by
    intro R hR
    have hmm := min_mod hm
    by_cases hp : 0 ≤ p ∧ p ≤ 3
    · refine ⟨_, (y4nt p m8 R).mpr ?_⟩
      repeat' (first | with_reducible apply And.intro | with_reducible intro)
      all_goals first
        | exact C12_ok
        | exact K21nt_ok p hp
        | exact K15nt_ok p hp
        | exact K15bn_ok p _ hp
        | exact K19nt_ok p _ hp hmm
        | exact K19ne_ok p _ hp (by omega)
        | exact K18n_ok p hp
        | exact K23n_ok p hp
        | trivial
        | exact hR
        | omega
        | rfl
    · refine ⟨_, (y4nf p m8 R).mpr ?_⟩
      repeat' (first | with_reducible apply And.intro | with_reducible intro)
      all_goals first
        | exact C12_ok
        | exact K21nf_ok p hp
        | exact K15nf_ok p hp
        | exact K19nf_ok p _ hp
        | trivial
        | exact hR
        | omega
        | rfl
  exact key _ rfl
theorem e44t (p : Int) (m8 : Int) (R : ARes → Prop)  : (vx.call 4 [hN p, slV 1 0 0, U8 m8] (retK R) m2d ((17, Hint.con (K21nt p)) :: (59, Hint.again) :: (23, Hint.con (K15nt p)) :: (7, Hint.con (K19nt p ((IntKind.i64.wrap m8).tmod (221 : Int)))) :: (58, Hint.con (K15bn p (0 : Int))) :: (17, Hint.con (K15bn p (-1 : Int))) :: (17, Hint.con (K15bn p (7 : Int))) :: (16, Hint.con (K18n p)) :: (6, Hint.con (K19ne p (221 : Int))) :: (7, Hint.con (K23n p)) :: (16, Hint.con C12) :: [])) =
(((ConOK Try.prog ((21 : Nat)) (K21nt p)) ∧ (Con.pre (K21nt p) ⟨⟨[(.int IntKind.i64 (p))], []⟩, []⟩) ∧ 
((((((2 : Nat) ≤ (2 : Nat))) ∧ (((.agg ⟨[(.int IntKind.i64 (p)), (.slice .none ((0 : Nat)) ((0 : Nat)))]⟩) : Value) = (.agg ⟨[(.int IntKind.i64 (p)), (.slice .none ((0 : Nat)) ((0 : Nat)))]⟩))) ∧ (True)) ∧ 
((ConOK Try.prog ((15 : Nat)) (K15nt p)) ∧ (Con.pre (K15nt p) ⟨⟨[(.int IntKind.i64 (p))], []⟩, []⟩) ∧ 
((ConOK Try.prog ((19 : Nat)) (K19nt p ((IntKind.i64.wrap m8).tmod (OfNat.ofNat (221 : Nat))))) ∧ (Con.pre (K19nt p ((IntKind.i64.wrap m8).tmod (OfNat.ofNat (221 : Nat)))) ⟨⟨[(.int IntKind.i64 (p)), (.int IntKind.i64 ((IntKind.i64.wrap m8).tmod (221 : Int)))], []⟩, []⟩) ∧ 
((ConOK Try.prog ((15 : Nat)) (K15bn p (0 : Int))) ∧ (Con.pre (K15bn p (0 : Int)) ⟨⟨[(.int IntKind.i64 (p))], [⟨((1 : Nat)), ((1 : Nat))⟩]⟩, [[(.int IntKind.i64 ((0 : Int)))]]⟩) ∧ 
((ConOK Try.prog ((15 : Nat)) (K15bn p (-1 : Int))) ∧ (Con.pre (K15bn p (-1 : Int)) ⟨⟨[(.int IntKind.i64 (p))], [⟨((1 : Nat)), ((1 : Nat))⟩]⟩, [[(.int IntKind.i64 ((-1 : Int)))]]⟩) ∧ 
((ConOK Try.prog ((15 : Nat)) (K15bn p (7 : Int))) ∧ (Con.pre (K15bn p (7 : Int)) ⟨⟨[(.int IntKind.i64 (p))], [⟨((1 : Nat)), ((1 : Nat))⟩]⟩, [[(.int IntKind.i64 ((7 : Int)))]]⟩) ∧ 
((ConOK Try.prog ((18 : Nat)) (K18n p)) ∧ (Con.pre (K18n p) ⟨⟨[(.int IntKind.i64 (p))], []⟩, []⟩) ∧ 
((ConOK Try.prog ((19 : Nat)) (K19ne p (221 : Int))) ∧ (Con.pre (K19ne p (221 : Int)) ⟨⟨[(.int IntKind.i64 (p)), (.int IntKind.i64 ((221 : Int)))], []⟩, []⟩) ∧ 
((ConOK Try.prog ((23 : Nat)) (K23n p)) ∧ (Con.pre (K23n p) ⟨⟨[(.int IntKind.i64 (p))], []⟩, []⟩) ∧ 
((ConOK Try.prog ((12 : Nat)) (C12)) ∧ (Con.pre (C12) ⟨⟨[], []⟩, []⟩) ∧ 
R (.ret (.bool true)))))))))))))) := by kernel_rfl

theorem e44f (p : Int) (m8 : Int) (R : ARes → Prop)  : (vx.call 4 [hN p, slV 1 0 0, U8 m8] (retK R) m2d ((17, Hint.con (K21nf p)) :: (3, Hint.con (K15nf p)) :: (6, Hint.con (K19nf p (-1 : Int))) :: (19, Hint.con C12) :: [])) =
(((ConOK Try.prog ((21 : Nat)) (K21nf p)) ∧ (Con.pre (K21nf p) ⟨⟨[(.int IntKind.i64 (p))], []⟩, []⟩) ∧ 
((ConOK Try.prog ((15 : Nat)) (K15nf p)) ∧ (Con.pre (K15nf p) ⟨⟨[(.int IntKind.i64 (p))], []⟩, []⟩) ∧ 
((ConOK Try.prog ((19 : Nat)) (K19nf p (-1 : Int))) ∧ (Con.pre (K19nf p (-1 : Int)) ⟨⟨[(.int IntKind.i64 (p)), (.int IntKind.i64 ((-1 : Int)))], []⟩, []⟩) ∧ 
((ConOK Try.prog ((12 : Nat)) (C12)) ∧ (Con.pre (C12) ⟨⟨[], []⟩, []⟩) ∧ 
R (.ret (.bool true))))))) := by kernel_rfl

theorem e44_ok (p : Int) (m8 : Int) (hm : 0 ≤ m8 ∧ m8 < 256) : ∃ hs, vx.call 4 [hN p, slV 1 0 0, U8 m8] (retK fun r => r = .ret (.bool true)) m2d hs := by
  have key : ∀ R : ARes → Prop, R (.ret (.bool true)) → ∃ hs, vx.call 4 [hN p, slV 1 0 0, U8 m8] (retK R) m2d hs := by
    intro R hR
    have hmm := min_mod hm
    by_cases hp : 0 ≤ p ∧ p ≤ 3
    · refine ⟨_, (e44t p m8 R).mpr ?_⟩
      repeat' (first | with_reducible apply And.intro | with_reducible intro)
      all_goals first
        | exact C12_ok
        | exact K21nt_ok p hp
        | exact K15nt_ok p hp
        | exact K15bn_ok p _ hp
        | exact K19nt_ok p _ hp hmm
        | exact K19ne_ok p _ hp (by omega)
        | exact K18n_ok p hp
        | exact K23n_ok p hp
        | trivial
        | exact hR
        | omega
        | rfl
    · refine ⟨_, (e44f p m8 R).mpr ?_⟩
      repeat' (first | with_reducible apply And.intro | with_reducible intro)
      all_goals first
        | exact C12_ok
        | exact K21nf_ok p hp
        | exact K15nf_ok p hp
        | exact K19nf_ok p _ hp
        | trivial
        | exact hR
        | omega
        | rfl
  exact key _ rfl
theorem law4any (p : Int) (n c k d : Nat) (m8 : Int) (f : Nat → Mv) (bs : Nat → Int) (hb : ∀ i, i < k → 0 ≤ bs i ∧ bs i < 256) (hm : 0 ≤ m8 ∧ m8 < 256) :
    ∃ hs, vx.call 4 [hV p n c, slV 1 k d, U8 m8] (retK fun r => r = .ret (.bool true)) (m2b (mvs n f) (u8s k bs)) hs := by
  rcases Nat.eq_zero_or_pos n with h0 | h0
  · subst h0
    exact z4_ok p c k d m8 _ _ hm
  · by_cases h : 40 < n
    · exact ⟨_, (f4x p n c k d m8 f bs _).mpr ⟨fun _ => ⟨C12_ok, rfl, rfl⟩, fun hf => absurd hf (far_dec h)⟩⟩
    · exact law4 p n c k d m8 f bs h0 (by omega) hb hm
theorem law4nany (p : Int) (n c : Nat) (m8 : Int) (f : Nat → Mv) (hm : 0 ≤ m8 ∧ m8 < 256) :
    ∃ hs, vx.call 4 [hV p n c, nilS, U8 m8] (retK fun r => r = .ret (.bool true)) (m2n (mvs n f)) hs := by
  rcases Nat.eq_zero_or_pos n with h0 | h0
  · subst h0
    exact z4n_ok p c m8 _ hm
  · by_cases h : 40 < n
    · exact ⟨_, (g4x p n c m8 f _).mpr ⟨fun _ => ⟨C12_ok, rfl, rfl⟩, fun hf => absurd hf (far_dec h)⟩⟩
    · exact law4n p n c m8 f h0 (by omega) hm
end Go.Ab

/- a world in which slices that only are read lie: what a run that was reckoned gives there. -/
set_option maxRecDepth 100000
namespace Go.Ab
open Go Go.RowKit Go.Proofs
/-- Where a name's cells lie, and which they are. -/
abbrev RoB := Option (BInfo × List Value × TypeId)
def roX : RoB → XB
  | none => .dead
  | some (_, cs, e) => .cells cs e .ro
noncomputable def roM (x y : RoB) : Mem := ⟨fillX [roX x, roX y] 0 .nil, 2⟩
/-- What the world must hold. -/
def RoHolds (W : World) : RoB → Prop
  | none => True
  | some (f, cs, _) => ∃ c t fr, W.heap[f.blk]? = some (.cells c t fr) ∧ ∀ (j : Nat) v, cs[j]? = some v → atomic v = true ∧ c[f.off + j]? = some v
/-- The naming; where nothing lies any place will do. -/
def roN (x y : RoB) : NMap := fun i => if i = 0 then some ((x.map (·.1)).getD ⟨0, 0, 0⟩) else if i = 1 then some ((y.map (·.1)).getD ⟨0, 0, 0⟩) else none
theorem roM_H (x y : RoB) (i : Nat) : (roM x y).H i = if i = 0 then some (roX x).a else if i = 1 then some (roX y).a else none := by
  simp only [roM, Mem.H]
  rw [fillX_get _ (by simp)]
  match i with
  | 0 => rfl
  | 1 => rfl
  | n + 2 =>
    rw [if_neg (by simp only [List.length_cons, List.length_nil]; omega), if_neg (by omega), if_neg (by omega)]
    rfl
theorem rel_ro {W : World} {x y : RoB} (hx : RoHolds W x) (hy : RoHolds W y) : Rel Try.prog W.heap.size (roN x y) (roM x y).H W := by
  have one : ∀ (z : RoB) (f : BInfo), RoHolds W z → (z.map (·.1)).getD ⟨0, 0, 0⟩ = f → BlkRel Try.prog W.heap.size (roN x y) W (roX z).a f := by
    intro z f hz hf
    cases z with
    | none => trivial
    | some q =>
      obtain ⟨g, cs, e⟩ := q
      obtain ⟨c, t, fr, h1, h2⟩ := hz
      have hf : g = f := hf
      subst hf
      refine ⟨c, t, fr, h1, fun j v hj => ⟨v, (h2 j v hj).2, VRel.of_atomic (h2 j v hj).1⟩, fun hk => absurd rfl hk, fun _ => (Array.getElem?_eq_some_iff.1 h1).1, fun hk => (by cases hk)⟩
  have own : ∀ z : RoB, (roX z).a.own = false := fun z => by
    cases z with
    | none => rfl
    | some q => rfl
  refine ⟨?_, ?_, ⟨2, fun i hi => ⟨?_, ?_⟩⟩, Nat.le_refl _, fun g hg => ?_, fun _ i hi => ?_⟩
  · intro i b f hb hf
    rw [roM_H] at hb
    simp only [roN] at hf
    by_cases h0 : i = 0
    · rw [if_pos h0] at hb hf
      cases hb; cases hf
      exact one x _ hx rfl
    · rw [if_neg h0] at hb hf
      by_cases h1 : i = 1
      · rw [if_pos h1] at hb hf
        cases hb; cases hf
        exact one y _ hy rfl
      · rw [if_neg h1] at hb; cases hb
  · intro i j b c f g _ hb _ hob
    rw [roM_H] at hb
    by_cases h0 : i = 0
    · rw [if_pos h0] at hb; cases hb
      rw [own] at hob; cases hob
    · rw [if_neg h0] at hb
      by_cases h1 : i = 1
      · rw [if_pos h1] at hb; cases hb
        rw [own] at hob; cases hob
      · rw [if_neg h1] at hb; cases hb
  · simp only [roN]; rw [if_neg (by omega), if_neg (by omega)]
  · rw [roM_H, if_neg (by omega), if_neg (by omega)]
  · rw [nglob] at hg; omega
  · rw [roM_H] at hi
    simp only [roN]
    by_cases h0 : i = 0
    · rw [if_pos h0] at hi; cases hi
    · rw [if_neg h0] at hi ⊢
      by_cases h1 : i = 1
      · rw [if_pos h1] at hi; cases hi
      · rw [if_neg h1]
/-- A run that was reckoned, in such a world. -/
theorem calls_ro {W : World} {x y : RoB} (hx : RoHolds W x) (hy : RoHolds W y) {f : FuncId} {args args' : List Value} (ha : VsRel (roN x y) args args') {b : Bool} (h : ∃ hs, vx.call f args (retK fun r => r = .ret (.bool b)) (roM x y) hs) :
    Calls Try.prog f ⟨args'⟩ W fun e W' => e = .returned (.bool b) ∧ Below W.heap.size W W' := by
  obtain ⟨hs, h⟩ := h
  have h2 := (vx_sound.call h).2 W.heap.size (roN x y) W args' (rel_ro hx hy) ha 0
  refine callsIn_wide.1 (CallsIn.mono (h2 : CallsIn Fence.wide 0 Try.prog f ⟨args'⟩ W _) ?_)
  rintro e W' ⟨r, H', m', ⟨mm, hs', hk, _⟩, _, _, hb, hq⟩
  have hk : r = .ret (.bool b) := hk
  subst hk
  obtain ⟨v', rfl, hv⟩ := hq
  exact ⟨by rw [hv.eq_of_atomic rfl], hb⟩
end Go.Ab

