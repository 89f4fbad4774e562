/- the law, with moves. -/
import Derived.Test.YtamfplmmfbbabaaGreatMX
set_option maxRecDepth 100000
namespace Go.Ab
open Go Go.RowKit Go.Proofs
theorem l3at (p a b m x1 x2 y1 y2 y3 x5 x6 x7 : Int) (n c d : Nat) (f : Nat → Mv) (g A B : Nat → Int) (R : ARes → Prop)  : (vx.call 3 [hV p n c, slV 1 n d, I a, I b, I m, .bool true] (retK R) (m2 (mvs n f) (ints n g)) ((14, .val (.bool false)) :: (5, Hint.con (C8 p a b n c f (Value.tuple { toList := [I x1, I x2] }))) :: (8, Hint.con (C8 p a b n c f (Value.tuple { toList := [I x1, I x2] }))) :: (8, Hint.con (C16v true p n c n d f g (Value.tuple { toList := [I y1, I y2, I y3] }))) :: (10, Hint.con (C16v true p n c n d f g (Value.tuple { toList := [I y1, I y2, I y3] }))) :: (9, Hint.conN (C15y p n c d f g A B)) :: (7, Hint.conN (C15y p n c d f g A B)) :: (7, Hint.con (C19 p m n c f (Value.tuple { toList := [Value.agg { toList := [I x5, I x6] }, I x7] }))) :: (8, Hint.con (C19 p m n c f (Value.tuple { toList := [Value.agg { toList := [I x5, I x6] }, I x7] }))) :: (8, .val (.bool true)) :: (3, .val (.bool true)) :: (4, .val (.bool true)) :: (4, .val (.bool true)) :: (4, .val (.bool true)) :: (4, Hint.con (K16s n (spansC n A B))) :: (9, .val (.bool true)) :: (4, .val (.bool true)) :: (2, Hint.con C12) :: [])) =
(((((some (.bool (decide ((if (↑n : Int) > (↑n : Int) then (↑n : Int) else (↑n : Int)) > (40 : Int)))) : Option Value) = some (.bool false))) ∧
((ConOK Tryz.prog ((8 : Nat)) (C8 p a b n c f (Value.tuple { toList := [I x1, I x2] }))) ∧ (Con.pre (C8 p a b n c f (Value.tuple { toList := [I x1, I x2] })) ⟨⟨[(.int IntKind.i64 (p)), (.int IntKind.i64 (a)), (.int IntKind.i64 (b))], [⟨(n), (c)⟩]⟩, [(mvs n f)]⟩) ∧ 
((ConOK Tryz.prog ((9 : Nat)) (C8 p a b n c f (Value.tuple { toList := [I x1, I x2] }))) ∧ (Con.pre (C8 p a b n c f (Value.tuple { toList := [I x1, I x2] })) ⟨⟨[(.int IntKind.i64 (p)), (.int IntKind.i64 (a)), (.int IntKind.i64 (b))], [⟨(n), (c)⟩]⟩, [(mvs n f)]⟩) ∧ 
((ConOK Tryz.prog ((10 : Nat)) (C16v true p n c n d f g (Value.tuple { toList := [I y1, I y2, I y3] }))) ∧ (Con.pre (C16v true p n c n d f g (Value.tuple { toList := [I y1, I y2, I y3] })) ⟨⟨[(.int IntKind.i64 (p)), (.bool true)], [⟨(n), (c)⟩, ⟨(n), (d)⟩]⟩, [(mvs n f), (ints n g)]⟩) ∧ 
((ConOK Tryz.prog ((11 : Nat)) (C16v true p n c n d f g (Value.tuple { toList := [I y1, I y2, I y3] }))) ∧ (Con.pre (C16v true p n c n d f g (Value.tuple { toList := [I y1, I y2, I y3] })) ⟨⟨[(.int IntKind.i64 (p)), (.bool true)], [⟨(n), (c)⟩, ⟨(n), (d)⟩]⟩, [(mvs n f), (ints n g)]⟩) ∧ 
((ConNOK Tryz.prog ((12 : Nat)) (C15y p n c d f g A B)) ∧ (ConN.pre (C15y p n c d f g A B) ⟨⟨[(.int IntKind.i64 (p))], [⟨(n), (c)⟩, ⟨(n), (d)⟩]⟩, [(mvs n f), (ints n g)]⟩) ∧ 
((ConNOK Tryz.prog ((13 : Nat)) (C15y p n c d f g A B)) ∧ (ConN.pre (C15y p n c d f g A B) ⟨⟨[(.int IntKind.i64 (p))], [⟨(n), (c)⟩, ⟨(n), (d)⟩]⟩, [(mvs n f), (ints n g)]⟩) ∧ 
((ConOK Tryz.prog ((14 : Nat)) (C19 p m n c f (Value.tuple { toList := [Value.agg { toList := [I x5, I x6] }, I x7] }))) ∧ (Con.pre (C19 p m n c f (Value.tuple { toList := [Value.agg { toList := [I x5, I x6] }, I x7] })) ⟨⟨[(.int IntKind.i64 (p)), (.int IntKind.i64 (m))], [⟨(n), (c)⟩]⟩, [(mvs n f)]⟩) ∧ 
((ConOK Tryz.prog ((15 : Nat)) (C19 p m n c f (Value.tuple { toList := [Value.agg { toList := [I x5, I x6] }, I x7] }))) ∧ (Con.pre (C19 p m n c f (Value.tuple { toList := [Value.agg { toList := [I x5, I x6] }, I x7] })) ⟨⟨[(.int IntKind.i64 (p)), (.int IntKind.i64 (m))], [⟨(n), (c)⟩]⟩, [(mvs n f)]⟩) ∧ 
((((some (.bool (x1 == x1)) : Option Value) = some (.bool true))) ∧
((((some (.bool (x2 == x2)) : Option Value) = some (.bool true))) ∧
((((some (.bool (y1 == y1)) : Option Value) = some (.bool true))) ∧
((((some (.bool (y2 == y2)) : Option Value) = some (.bool true))) ∧
((((some (.bool (y3 == y3)) : Option Value) = some (.bool true))) ∧
((ConOK Tryz.prog ((16 : Nat)) (K16s n (spansC n A B))) ∧ (Con.pre (K16s n (spansC n A B)) ⟨⟨[], [⟨(n), (n)⟩, ⟨(n), (n)⟩]⟩, [(spansC n A B), (spansC n A B)]⟩) ∧ 
((((some (.bool (x5 == x5 && (fun c => x6 == x6 && c) true)) : Option Value) = some (.bool true))) ∧
((((some (.bool (x7 == x7)) : Option Value) = some (.bool true))) ∧
((ConOK Tryz.prog ((7 : Nat)) (C12)) ∧ (Con.pre (C12) ⟨⟨[], []⟩, []⟩) ∧ 
R (.ret (.bool true))))))))))))))))))))) := by kernel_rfl

theorem l3af (p a b m x1 x2 y1 y2 y3 x5 x6 x7 : Int) (n c d : Nat) (f : Nat → Mv) (g A B : Nat → Int) (R : ARes → Prop)  : (vx.call 3 [hV p n c, slV 1 n d, I a, I b, I m, .bool false] (retK R) (m2 (mvs n f) (ints n g)) ((14, .val (.bool false)) :: (5, Hint.con (C8 p a b n c f (Value.tuple { toList := [I x1, I x2] }))) :: (8, Hint.con (C8 p a b n c f (Value.tuple { toList := [I x1, I x2] }))) :: (8, Hint.con (C16v false p n c n d f g (Value.tuple { toList := [I y1, I y2, I y3] }))) :: (10, Hint.con (C16v false p n c n d f g (Value.tuple { toList := [I y1, I y2, I y3] }))) :: (9, Hint.conN (C15y p n c d f g A B)) :: (7, Hint.conN (C15y p n c d f g A B)) :: (7, Hint.con (C19 p m n c f (Value.tuple { toList := [Value.agg { toList := [I x5, I x6] }, I x7] }))) :: (8, Hint.con (C19 p m n c f (Value.tuple { toList := [Value.agg { toList := [I x5, I x6] }, I x7] }))) :: (8, .val (.bool true)) :: (3, .val (.bool true)) :: (4, .val (.bool true)) :: (4, .val (.bool true)) :: (4, .val (.bool true)) :: (4, Hint.con (K16s n (spansC n A B))) :: (9, .val (.bool true)) :: (4, .val (.bool true)) :: (2, Hint.con C12) :: [])) =
(((((some (.bool (decide ((if (↑n : Int) > (↑n : Int) then (↑n : Int) else (↑n : Int)) > (40 : Int)))) : Option Value) = some (.bool false))) ∧
((ConOK Tryz.prog ((8 : Nat)) (C8 p a b n c f (Value.tuple { toList := [I x1, I x2] }))) ∧ (Con.pre (C8 p a b n c f (Value.tuple { toList := [I x1, I x2] })) ⟨⟨[(.int IntKind.i64 (p)), (.int IntKind.i64 (a)), (.int IntKind.i64 (b))], [⟨(n), (c)⟩]⟩, [(mvs n f)]⟩) ∧ 
((ConOK Tryz.prog ((9 : Nat)) (C8 p a b n c f (Value.tuple { toList := [I x1, I x2] }))) ∧ (Con.pre (C8 p a b n c f (Value.tuple { toList := [I x1, I x2] })) ⟨⟨[(.int IntKind.i64 (p)), (.int IntKind.i64 (a)), (.int IntKind.i64 (b))], [⟨(n), (c)⟩]⟩, [(mvs n f)]⟩) ∧ 
((ConOK Tryz.prog ((10 : Nat)) (C16v false p n c n d f g (Value.tuple { toList := [I y1, I y2, I y3] }))) ∧ (Con.pre (C16v false p n c n d f g (Value.tuple { toList := [I y1, I y2, I y3] })) ⟨⟨[(.int IntKind.i64 (p)), (.bool false)], [⟨(n), (c)⟩, ⟨(n), (d)⟩]⟩, [(mvs n f), (ints n g)]⟩) ∧ 
((ConOK Tryz.prog ((11 : Nat)) (C16v false p n c n d f g (Value.tuple { toList := [I y1, I y2, I y3] }))) ∧ (Con.pre (C16v false p n c n d f g (Value.tuple { toList := [I y1, I y2, I y3] })) ⟨⟨[(.int IntKind.i64 (p)), (.bool false)], [⟨(n), (c)⟩, ⟨(n), (d)⟩]⟩, [(mvs n f), (ints n g)]⟩) ∧ 
((ConNOK Tryz.prog ((12 : Nat)) (C15y p n c d f g A B)) ∧ (ConN.pre (C15y p n c d f g A B) ⟨⟨[(.int IntKind.i64 (p))], [⟨(n), (c)⟩, ⟨(n), (d)⟩]⟩, [(mvs n f), (ints n g)]⟩) ∧ 
((ConNOK Tryz.prog ((13 : Nat)) (C15y p n c d f g A B)) ∧ (ConN.pre (C15y p n c d f g A B) ⟨⟨[(.int IntKind.i64 (p))], [⟨(n), (c)⟩, ⟨(n), (d)⟩]⟩, [(mvs n f), (ints n g)]⟩) ∧ 
((ConOK Tryz.prog ((14 : Nat)) (C19 p m n c f (Value.tuple { toList := [Value.agg { toList := [I x5, I x6] }, I x7] }))) ∧ (Con.pre (C19 p m n c f (Value.tuple { toList := [Value.agg { toList := [I x5, I x6] }, I x7] })) ⟨⟨[(.int IntKind.i64 (p)), (.int IntKind.i64 (m))], [⟨(n), (c)⟩]⟩, [(mvs n f)]⟩) ∧ 
((ConOK Tryz.prog ((15 : Nat)) (C19 p m n c f (Value.tuple { toList := [Value.agg { toList := [I x5, I x6] }, I x7] }))) ∧ (Con.pre (C19 p m n c f (Value.tuple { toList := [Value.agg { toList := [I x5, I x6] }, I x7] })) ⟨⟨[(.int IntKind.i64 (p)), (.int IntKind.i64 (m))], [⟨(n), (c)⟩]⟩, [(mvs n f)]⟩) ∧ 
((((some (.bool (x1 == x1)) : Option Value) = some (.bool true))) ∧
((((some (.bool (x2 == x2)) : Option Value) = some (.bool true))) ∧
((((some (.bool (y1 == y1)) : Option Value) = some (.bool true))) ∧
((((some (.bool (y2 == y2)) : Option Value) = some (.bool true))) ∧
((((some (.bool (y3 == y3)) : Option Value) = some (.bool true))) ∧
((ConOK Tryz.prog ((16 : Nat)) (K16s n (spansC n A B))) ∧ (Con.pre (K16s n (spansC n A B)) ⟨⟨[], [⟨(n), (n)⟩, ⟨(n), (n)⟩]⟩, [(spansC n A B), (spansC n A B)]⟩) ∧ 
((((some (.bool (x5 == x5 && (fun c => x6 == x6 && c) true)) : Option Value) = some (.bool true))) ∧
((((some (.bool (x7 == x7)) : Option Value) = some (.bool true))) ∧
((ConOK Tryz.prog ((7 : Nat)) (C12)) ∧ (Con.pre (C12) ⟨⟨[], []⟩, []⟩) ∧ 
R (.ret (.bool true))))))))))))))))))))) := by kernel_rfl

theorem l3bt (p a b m x1 x2 y1 y2 y3 z x5 x6 x7 : Int) (n c k d : Nat) (f : Nat → Mv) (g : Nat → Int) (R : ARes → Prop)  : (vx.call 3 [hV p n c, slV 1 k d, I a, I b, I m, .bool true] (retK R) (m2 (mvs n f) (ints k g)) ((14, .val (.bool false)) :: (5, Hint.con (C8 p a b n c f (Value.tuple { toList := [I x1, I x2] }))) :: (8, Hint.con (C8 p a b n c f (Value.tuple { toList := [I x1, I x2] }))) :: (8, Hint.con (C16v true p n c k d f g (Value.tuple { toList := [I y1, I y2, I y3] }))) :: (10, Hint.con (C16v true p n c k d f g (Value.tuple { toList := [I y1, I y2, I y3] }))) :: (9, Hint.con (C15x p n c k d f g z)) :: (7, Hint.con (C15x p n c k d f g z)) :: (7, Hint.con (C19 p m n c f (Value.tuple { toList := [Value.agg { toList := [I x5, I x6] }, I x7] }))) :: (8, Hint.con (C19 p m n c f (Value.tuple { toList := [Value.agg { toList := [I x5, I x6] }, I x7] }))) :: (8, .val (.bool true)) :: (3, .val (.bool true)) :: (4, .val (.bool true)) :: (4, .val (.bool true)) :: (4, .val (.bool true)) :: (24, .val (.bool true)) :: (4, .val (.bool true)) :: (4, .val (.bool true)) :: (2, Hint.con C12) :: [])) =
(((((some (.bool (decide ((if (↑k : Int) > (↑n : Int) then (↑k : Int) else (↑n : Int)) > (40 : Int)))) : Option Value) = some (.bool false))) ∧
((ConOK Tryz.prog ((8 : Nat)) (C8 p a b n c f (Value.tuple { toList := [I x1, I x2] }))) ∧ (Con.pre (C8 p a b n c f (Value.tuple { toList := [I x1, I x2] })) ⟨⟨[(.int IntKind.i64 (p)), (.int IntKind.i64 (a)), (.int IntKind.i64 (b))], [⟨(n), (c)⟩]⟩, [(mvs n f)]⟩) ∧ 
((ConOK Tryz.prog ((9 : Nat)) (C8 p a b n c f (Value.tuple { toList := [I x1, I x2] }))) ∧ (Con.pre (C8 p a b n c f (Value.tuple { toList := [I x1, I x2] })) ⟨⟨[(.int IntKind.i64 (p)), (.int IntKind.i64 (a)), (.int IntKind.i64 (b))], [⟨(n), (c)⟩]⟩, [(mvs n f)]⟩) ∧ 
((ConOK Tryz.prog ((10 : Nat)) (C16v true p n c k d f g (Value.tuple { toList := [I y1, I y2, I y3] }))) ∧ (Con.pre (C16v true p n c k d f g (Value.tuple { toList := [I y1, I y2, I y3] })) ⟨⟨[(.int IntKind.i64 (p)), (.bool true)], [⟨(n), (c)⟩, ⟨(k), (d)⟩]⟩, [(mvs n f), (ints k g)]⟩) ∧ 
((ConOK Tryz.prog ((11 : Nat)) (C16v true p n c k d f g (Value.tuple { toList := [I y1, I y2, I y3] }))) ∧ (Con.pre (C16v true p n c k d f g (Value.tuple { toList := [I y1, I y2, I y3] })) ⟨⟨[(.int IntKind.i64 (p)), (.bool true)], [⟨(n), (c)⟩, ⟨(k), (d)⟩]⟩, [(mvs n f), (ints k g)]⟩) ∧ 
((ConOK Tryz.prog ((12 : Nat)) (C15x p n c k d f g z)) ∧ (Con.pre (C15x p n c k d f g z) ⟨⟨[(.int IntKind.i64 (p))], [⟨(n), (c)⟩, ⟨(k), (d)⟩]⟩, [(mvs n f), (ints k g)]⟩) ∧ 
((ConOK Tryz.prog ((13 : Nat)) (C15x p n c k d f g z)) ∧ (Con.pre (C15x p n c k d f g z) ⟨⟨[(.int IntKind.i64 (p))], [⟨(n), (c)⟩, ⟨(k), (d)⟩]⟩, [(mvs n f), (ints k g)]⟩) ∧ 
((ConOK Tryz.prog ((14 : Nat)) (C19 p m n c f (Value.tuple { toList := [Value.agg { toList := [I x5, I x6] }, I x7] }))) ∧ (Con.pre (C19 p m n c f (Value.tuple { toList := [Value.agg { toList := [I x5, I x6] }, I x7] })) ⟨⟨[(.int IntKind.i64 (p)), (.int IntKind.i64 (m))], [⟨(n), (c)⟩]⟩, [(mvs n f)]⟩) ∧ 
((ConOK Tryz.prog ((15 : Nat)) (C19 p m n c f (Value.tuple { toList := [Value.agg { toList := [I x5, I x6] }, I x7] }))) ∧ (Con.pre (C19 p m n c f (Value.tuple { toList := [Value.agg { toList := [I x5, I x6] }, I x7] })) ⟨⟨[(.int IntKind.i64 (p)), (.int IntKind.i64 (m))], [⟨(n), (c)⟩]⟩, [(mvs n f)]⟩) ∧ 
((((some (.bool (x1 == x1)) : Option Value) = some (.bool true))) ∧
((((some (.bool (x2 == x2)) : Option Value) = some (.bool true))) ∧
((((some (.bool (y1 == y1)) : Option Value) = some (.bool true))) ∧
((((some (.bool (y2 == y2)) : Option Value) = some (.bool true))) ∧
((((some (.bool (y3 == y3)) : Option Value) = some (.bool true))) ∧
((((some (.bool (z == z)) : Option Value) = some (.bool true))) ∧
((((some (.bool (x5 == x5 && (fun c => x6 == x6 && c) true)) : Option Value) = some (.bool true))) ∧
((((some (.bool (x7 == x7)) : Option Value) = some (.bool true))) ∧
((ConOK Tryz.prog ((7 : Nat)) (C12)) ∧ (Con.pre (C12) ⟨⟨[], []⟩, []⟩) ∧ 
R (.ret (.bool true))))))))))))))))))))) := by kernel_rfl

theorem l3bf (p a b m x1 x2 y1 y2 y3 z x5 x6 x7 : Int) (n c k d : Nat) (f : Nat → Mv) (g : Nat → Int) (R : ARes → Prop)  : (vx.call 3 [hV p n c, slV 1 k d, I a, I b, I m, .bool false] (retK R) (m2 (mvs n f) (ints k g)) ((14, .val (.bool false)) :: (5, Hint.con (C8 p a b n c f (Value.tuple { toList := [I x1, I x2] }))) :: (8, Hint.con (C8 p a b n c f (Value.tuple { toList := [I x1, I x2] }))) :: (8, Hint.con (C16v false p n c k d f g (Value.tuple { toList := [I y1, I y2, I y3] }))) :: (10, Hint.con (C16v false p n c k d f g (Value.tuple { toList := [I y1, I y2, I y3] }))) :: (9, Hint.con (C15x p n c k d f g z)) :: (7, Hint.con (C15x p n c k d f g z)) :: (7, Hint.con (C19 p m n c f (Value.tuple { toList := [Value.agg { toList := [I x5, I x6] }, I x7] }))) :: (8, Hint.con (C19 p m n c f (Value.tuple { toList := [Value.agg { toList := [I x5, I x6] }, I x7] }))) :: (8, .val (.bool true)) :: (3, .val (.bool true)) :: (4, .val (.bool true)) :: (4, .val (.bool true)) :: (4, .val (.bool true)) :: (24, .val (.bool true)) :: (4, .val (.bool true)) :: (4, .val (.bool true)) :: (2, Hint.con C12) :: [])) =
(((((some (.bool (decide ((if (↑k : Int) > (↑n : Int) then (↑k : Int) else (↑n : Int)) > (40 : Int)))) : Option Value) = some (.bool false))) ∧
((ConOK Tryz.prog ((8 : Nat)) (C8 p a b n c f (Value.tuple { toList := [I x1, I x2] }))) ∧ (Con.pre (C8 p a b n c f (Value.tuple { toList := [I x1, I x2] })) ⟨⟨[(.int IntKind.i64 (p)), (.int IntKind.i64 (a)), (.int IntKind.i64 (b))], [⟨(n), (c)⟩]⟩, [(mvs n f)]⟩) ∧ 
((ConOK Tryz.prog ((9 : Nat)) (C8 p a b n c f (Value.tuple { toList := [I x1, I x2] }))) ∧ (Con.pre (C8 p a b n c f (Value.tuple { toList := [I x1, I x2] })) ⟨⟨[(.int IntKind.i64 (p)), (.int IntKind.i64 (a)), (.int IntKind.i64 (b))], [⟨(n), (c)⟩]⟩, [(mvs n f)]⟩) ∧ 
((ConOK Tryz.prog ((10 : Nat)) (C16v false p n c k d f g (Value.tuple { toList := [I y1, I y2, I y3] }))) ∧ (Con.pre (C16v false p n c k d f g (Value.tuple { toList := [I y1, I y2, I y3] })) ⟨⟨[(.int IntKind.i64 (p)), (.bool false)], [⟨(n), (c)⟩, ⟨(k), (d)⟩]⟩, [(mvs n f), (ints k g)]⟩) ∧ 
((ConOK Tryz.prog ((11 : Nat)) (C16v false p n c k d f g (Value.tuple { toList := [I y1, I y2, I y3] }))) ∧ (Con.pre (C16v false p n c k d f g (Value.tuple { toList := [I y1, I y2, I y3] })) ⟨⟨[(.int IntKind.i64 (p)), (.bool false)], [⟨(n), (c)⟩, ⟨(k), (d)⟩]⟩, [(mvs n f), (ints k g)]⟩) ∧ 
((ConOK Tryz.prog ((12 : Nat)) (C15x p n c k d f g z)) ∧ (Con.pre (C15x p n c k d f g z) ⟨⟨[(.int IntKind.i64 (p))], [⟨(n), (c)⟩, ⟨(k), (d)⟩]⟩, [(mvs n f), (ints k g)]⟩) ∧ 
((ConOK Tryz.prog ((13 : Nat)) (C15x p n c k d f g z)) ∧ (Con.pre (C15x p n c k d f g z) ⟨⟨[(.int IntKind.i64 (p))], [⟨(n), (c)⟩, ⟨(k), (d)⟩]⟩, [(mvs n f), (ints k g)]⟩) ∧ 
((ConOK Tryz.prog ((14 : Nat)) (C19 p m n c f (Value.tuple { toList := [Value.agg { toList := [I x5, I x6] }, I x7] }))) ∧ (Con.pre (C19 p m n c f (Value.tuple { toList := [Value.agg { toList := [I x5, I x6] }, I x7] })) ⟨⟨[(.int IntKind.i64 (p)), (.int IntKind.i64 (m))], [⟨(n), (c)⟩]⟩, [(mvs n f)]⟩) ∧ 
((ConOK Tryz.prog ((15 : Nat)) (C19 p m n c f (Value.tuple { toList := [Value.agg { toList := [I x5, I x6] }, I x7] }))) ∧ (Con.pre (C19 p m n c f (Value.tuple { toList := [Value.agg { toList := [I x5, I x6] }, I x7] })) ⟨⟨[(.int IntKind.i64 (p)), (.int IntKind.i64 (m))], [⟨(n), (c)⟩]⟩, [(mvs n f)]⟩) ∧ 
((((some (.bool (x1 == x1)) : Option Value) = some (.bool true))) ∧
((((some (.bool (x2 == x2)) : Option Value) = some (.bool true))) ∧
((((some (.bool (y1 == y1)) : Option Value) = some (.bool true))) ∧
((((some (.bool (y2 == y2)) : Option Value) = some (.bool true))) ∧
((((some (.bool (y3 == y3)) : Option Value) = some (.bool true))) ∧
((((some (.bool (z == z)) : Option Value) = some (.bool true))) ∧
((((some (.bool (x5 == x5 && (fun c => x6 == x6 && c) true)) : Option Value) = some (.bool true))) ∧
((((some (.bool (x7 == x7)) : Option Value) = some (.bool true))) ∧
((ConOK Tryz.prog ((7 : Nat)) (C12)) ∧ (Con.pre (C12) ⟨⟨[], []⟩, []⟩) ∧ 
R (.ret (.bool true))))))))))))))))))))) := by kernel_rfl

theorem l3ct (p a b m x1 x2 z w x5 x6 x7 : Int) (n c : Nat) (f : Nat → Mv) (R : ARes → Prop)  : (vx.call 3 [hV p n c, nilS, I a, I b, I m, .bool true] (retK R) (m2n (mvs n f)) ((14, .val (.bool false)) :: (5, Hint.con (C8 p a b n c f (Value.tuple { toList := [I x1, I x2] }))) :: (8, Hint.con (C8 p a b n c f (Value.tuple { toList := [I x1, I x2] }))) :: (8, Hint.con (D16x true p n c f z)) :: (10, Hint.con (D16x true p n c f z)) :: (9, Hint.con (D15x p n c f w)) :: (7, Hint.con (D15x p n c f w)) :: (7, Hint.con (C19 p m n c f (Value.tuple { toList := [Value.agg { toList := [I x5, I x6] }, I x7] }))) :: (8, Hint.con (C19 p m n c f (Value.tuple { toList := [Value.agg { toList := [I x5, I x6] }, I x7] }))) :: (8, .val (.bool true)) :: (3, .val (.bool true)) :: (14, .val (.bool true)) :: (24, .val (.bool true)) :: (4, .val (.bool true)) :: (4, .val (.bool true)) :: (2, Hint.con C12) :: [])) =
(((((some (.bool (decide ((if (↑(0 : Nat) : Int) > (↑n : Int) then (↑(0 : Nat) : Int) else (↑n : Int)) > (40 : Int)))) : Option Value) = some (.bool false))) ∧
((ConOK Tryz.prog ((8 : Nat)) (C8 p a b n c f (Value.tuple { toList := [I x1, I x2] }))) ∧ (Con.pre (C8 p a b n c f (Value.tuple { toList := [I x1, I x2] })) ⟨⟨[(.int IntKind.i64 (p)), (.int IntKind.i64 (a)), (.int IntKind.i64 (b))], [⟨(n), (c)⟩]⟩, [(mvs n f)]⟩) ∧ 
((ConOK Tryz.prog ((9 : Nat)) (C8 p a b n c f (Value.tuple { toList := [I x1, I x2] }))) ∧ (Con.pre (C8 p a b n c f (Value.tuple { toList := [I x1, I x2] })) ⟨⟨[(.int IntKind.i64 (p)), (.int IntKind.i64 (a)), (.int IntKind.i64 (b))], [⟨(n), (c)⟩]⟩, [(mvs n f)]⟩) ∧ 
((ConOK Tryz.prog ((10 : Nat)) (D16x true p n c f z)) ∧ (Con.pre (D16x true p n c f z) ⟨⟨[(.int IntKind.i64 (p)), (.bool true)], [⟨(n), (c)⟩]⟩, [(mvs n f)]⟩) ∧ 
((ConOK Tryz.prog ((11 : Nat)) (D16x true p n c f z)) ∧ (Con.pre (D16x true p n c f z) ⟨⟨[(.int IntKind.i64 (p)), (.bool true)], [⟨(n), (c)⟩]⟩, [(mvs n f)]⟩) ∧ 
((ConOK Tryz.prog ((12 : Nat)) (D15x p n c f w)) ∧ (Con.pre (D15x p n c f w) ⟨⟨[(.int IntKind.i64 (p))], [⟨(n), (c)⟩]⟩, [(mvs n f)]⟩) ∧ 
((ConOK Tryz.prog ((13 : Nat)) (D15x p n c f w)) ∧ (Con.pre (D15x p n c f w) ⟨⟨[(.int IntKind.i64 (p))], [⟨(n), (c)⟩]⟩, [(mvs n f)]⟩) ∧ 
((ConOK Tryz.prog ((14 : Nat)) (C19 p m n c f (Value.tuple { toList := [Value.agg { toList := [I x5, I x6] }, I x7] }))) ∧ (Con.pre (C19 p m n c f (Value.tuple { toList := [Value.agg { toList := [I x5, I x6] }, I x7] })) ⟨⟨[(.int IntKind.i64 (p)), (.int IntKind.i64 (m))], [⟨(n), (c)⟩]⟩, [(mvs n f)]⟩) ∧ 
((ConOK Tryz.prog ((15 : Nat)) (C19 p m n c f (Value.tuple { toList := [Value.agg { toList := [I x5, I x6] }, I x7] }))) ∧ (Con.pre (C19 p m n c f (Value.tuple { toList := [Value.agg { toList := [I x5, I x6] }, I x7] })) ⟨⟨[(.int IntKind.i64 (p)), (.int IntKind.i64 (m))], [⟨(n), (c)⟩]⟩, [(mvs n f)]⟩) ∧ 
((((some (.bool (x1 == x1)) : Option Value) = some (.bool true))) ∧
((((some (.bool (x2 == x2)) : Option Value) = some (.bool true))) ∧
((((some (.bool (z == z)) : Option Value) = some (.bool true))) ∧
((((some (.bool (w == w)) : Option Value) = some (.bool true))) ∧
((((some (.bool (x5 == x5 && (fun c => x6 == x6 && c) true)) : Option Value) = some (.bool true))) ∧
((((some (.bool (x7 == x7)) : Option Value) = some (.bool true))) ∧
((ConOK Tryz.prog ((7 : Nat)) (C12)) ∧ (Con.pre (C12) ⟨⟨[], []⟩, []⟩) ∧ 
R (.ret (.bool true))))))))))))))))))) := by kernel_rfl

theorem l3cf (p a b m x1 x2 z w x5 x6 x7 : Int) (n c : Nat) (f : Nat → Mv) (R : ARes → Prop)  : (vx.call 3 [hV p n c, nilS, I a, I b, I m, .bool false] (retK R) (m2n (mvs n f)) ((14, .val (.bool false)) :: (5, Hint.con (C8 p a b n c f (Value.tuple { toList := [I x1, I x2] }))) :: (8, Hint.con (C8 p a b n c f (Value.tuple { toList := [I x1, I x2] }))) :: (8, Hint.con (D16x false p n c f z)) :: (10, Hint.con (D16x false p n c f z)) :: (9, Hint.con (D15x p n c f w)) :: (7, Hint.con (D15x p n c f w)) :: (7, Hint.con (C19 p m n c f (Value.tuple { toList := [Value.agg { toList := [I x5, I x6] }, I x7] }))) :: (8, Hint.con (C19 p m n c f (Value.tuple { toList := [Value.agg { toList := [I x5, I x6] }, I x7] }))) :: (8, .val (.bool true)) :: (3, .val (.bool true)) :: (14, .val (.bool true)) :: (24, .val (.bool true)) :: (4, .val (.bool true)) :: (4, .val (.bool true)) :: (2, Hint.con C12) :: [])) =
(((((some (.bool (decide ((if (↑(0 : Nat) : Int) > (↑n : Int) then (↑(0 : Nat) : Int) else (↑n : Int)) > (40 : Int)))) : Option Value) = some (.bool false))) ∧
((ConOK Tryz.prog ((8 : Nat)) (C8 p a b n c f (Value.tuple { toList := [I x1, I x2] }))) ∧ (Con.pre (C8 p a b n c f (Value.tuple { toList := [I x1, I x2] })) ⟨⟨[(.int IntKind.i64 (p)), (.int IntKind.i64 (a)), (.int IntKind.i64 (b))], [⟨(n), (c)⟩]⟩, [(mvs n f)]⟩) ∧ 
((ConOK Tryz.prog ((9 : Nat)) (C8 p a b n c f (Value.tuple { toList := [I x1, I x2] }))) ∧ (Con.pre (C8 p a b n c f (Value.tuple { toList := [I x1, I x2] })) ⟨⟨[(.int IntKind.i64 (p)), (.int IntKind.i64 (a)), (.int IntKind.i64 (b))], [⟨(n), (c)⟩]⟩, [(mvs n f)]⟩) ∧ 
((ConOK Tryz.prog ((10 : Nat)) (D16x false p n c f z)) ∧ (Con.pre (D16x false p n c f z) ⟨⟨[(.int IntKind.i64 (p)), (.bool false)], [⟨(n), (c)⟩]⟩, [(mvs n f)]⟩) ∧ 
((ConOK Tryz.prog ((11 : Nat)) (D16x false p n c f z)) ∧ (Con.pre (D16x false p n c f z) ⟨⟨[(.int IntKind.i64 (p)), (.bool false)], [⟨(n), (c)⟩]⟩, [(mvs n f)]⟩) ∧ 
((ConOK Tryz.prog ((12 : Nat)) (D15x p n c f w)) ∧ (Con.pre (D15x p n c f w) ⟨⟨[(.int IntKind.i64 (p))], [⟨(n), (c)⟩]⟩, [(mvs n f)]⟩) ∧ 
((ConOK Tryz.prog ((13 : Nat)) (D15x p n c f w)) ∧ (Con.pre (D15x p n c f w) ⟨⟨[(.int IntKind.i64 (p))], [⟨(n), (c)⟩]⟩, [(mvs n f)]⟩) ∧ 
((ConOK Tryz.prog ((14 : Nat)) (C19 p m n c f (Value.tuple { toList := [Value.agg { toList := [I x5, I x6] }, I x7] }))) ∧ (Con.pre (C19 p m n c f (Value.tuple { toList := [Value.agg { toList := [I x5, I x6] }, I x7] })) ⟨⟨[(.int IntKind.i64 (p)), (.int IntKind.i64 (m))], [⟨(n), (c)⟩]⟩, [(mvs n f)]⟩) ∧ 
((ConOK Tryz.prog ((15 : Nat)) (C19 p m n c f (Value.tuple { toList := [Value.agg { toList := [I x5, I x6] }, I x7] }))) ∧ (Con.pre (C19 p m n c f (Value.tuple { toList := [Value.agg { toList := [I x5, I x6] }, I x7] })) ⟨⟨[(.int IntKind.i64 (p)), (.int IntKind.i64 (m))], [⟨(n), (c)⟩]⟩, [(mvs n f)]⟩) ∧ 
((((some (.bool (x1 == x1)) : Option Value) = some (.bool true))) ∧
((((some (.bool (x2 == x2)) : Option Value) = some (.bool true))) ∧
((((some (.bool (z == z)) : Option Value) = some (.bool true))) ∧
((((some (.bool (w == w)) : Option Value) = some (.bool true))) ∧
((((some (.bool (x5 == x5 && (fun c => x6 == x6 && c) true)) : Option Value) = some (.bool true))) ∧
((((some (.bool (x7 == x7)) : Option Value) = some (.bool true))) ∧
((ConOK Tryz.prog ((7 : Nat)) (C12)) ∧ (Con.pre (C12) ⟨⟨[], []⟩, []⟩) ∧ 
R (.ret (.bool true))))))))))))))))))) := by kernel_rfl

theorem far_no {x y : Nat} (hx : x ≤ 40) (hy : y ≤ 40) : decide ((if (x : Int) > (y : Int) then (x : Int) else (y : Int)) > (40 : Int)) = false := decide_eq_false (by split <;> omega)
theorem l3_slices (p a b m : Int) (s : Bool) (n c k d : Nat) (f : Nat → Mv) (g : Nat → Int) (hn : n ≤ 40) (hk : k ≤ 40)
    (hz : n = 0 → okH p n f = true → okP n k g = true → ConOK Tryz.prog 12 (C15x p n c k d f g 0) ∧ ConOK Tryz.prog 13 (C15x p n c k d f g 0)) :
    ∃ hs, vx.call 3 [hV p n c, slV 1 k d, I a, I b, I m, .bool s] (retK fun r => r = .ret (.bool true)) (m2 (mvs n f) (ints k g)) hs := by
  have key : ∀ R : ARes → Prop, R (.ret (.bool true)) → ∃ hs, vx.call 3 [hV p n c, slV 1 k d, I a, I b, I m, .bool s] (retK R) (m2 (mvs n f) (ints k g)) hs := by
    intro R hR
    have q8 := P8_ok p a b n c f (by omega)
    have q9 := P9_ok p a b n c f (by omega)
    have q10 := P10_ok s p n c k d f g (by omega) (by omega)
    have q11 := P11_ok s p n c k d f g (by omega) (by omega)
    have q14 := P14_ok p m n c f (by omega)
    have q15 := P15_ok p m n c f (by omega)
    have hf := far_no hk hn
    by_cases hA : 0 < n ∧ (okH p n f && okP n k g) = true
    · obtain ⟨h0, h1⟩ := hA
      simp only [Bool.and_eq_true] at h1
      obtain ⟨h1, h2⟩ := h1
      obtain rfl := okP_len h2
      have q12 := C15_ok p k c d f g h0 h1 h2
      have q13 := K13_ok p k c d f g h0 h1 h2
      have q16 := K16s_ok k (latS false p k f g) (latS true p k f g) (by omega)
      cases s with
      | true =>
        refine ⟨_, (l3at p a b m (folA p a b k f) (errI (okH p k f) (inB k a && inB k b)) (chkA true p k k f g) (chkB true p k k f g) (chkE true p k k f g) (busA false p m k f) (busA true p m k f) (errI (okH p k f) (decide (0 ≤ m) && decide (m ≤ 220))) k c d f g (latS false p k f g) (latS true p k f g) R).mpr ?_⟩
        rw [hf]
        repeat' (first | with_reducible apply And.intro | with_reducible intro)
        all_goals first
          | exact q8
          | exact q9
          | exact q10
          | exact q11
          | exact q12
          | exact q13
          | exact q14
          | exact q15
          | exact q16
          | exact C12_ok
          | exact hR
          | rfl
          | (simp; done)
      | false =>
        refine ⟨_, (l3af p a b m (folA p a b k f) (errI (okH p k f) (inB k a && inB k b)) (chkA false p k k f g) (chkB false p k k f g) (chkE false p k k f g) (busA false p m k f) (busA true p m k f) (errI (okH p k f) (decide (0 ≤ m) && decide (m ≤ 220))) k c d f g (latS false p k f g) (latS true p k f g) R).mpr ?_⟩
        rw [hf]
        repeat' (first | with_reducible apply And.intro | with_reducible intro)
        all_goals first
          | exact q8
          | exact q9
          | exact q10
          | exact q11
          | exact q12
          | exact q13
          | exact q14
          | exact q15
          | exact q16
          | exact C12_ok
          | exact hR
          | rfl
          | (simp; done)
    · have hE : ∃ e, ConOK Tryz.prog 12 (C15x p n c k d f g e) ∧ ConOK Tryz.prog 13 (C15x p n c k d f g e) := by
        cases hb : (okH p n f && okP n k g) with
        | false => exact ⟨_, P12_ok p n c k d f g (by omega) (by omega) hb, P13_ok p n c k d f g (by omega) (by omega) hb⟩
        | true =>
          have h0 : n = 0 := by
            by_cases h : 0 < n
            · exact (hA ⟨h, hb⟩).elim
            · omega
          simp only [Bool.and_eq_true] at hb
          exact ⟨0, hz h0 hb.1 hb.2⟩
      obtain ⟨e, q12, q13⟩ := hE
      cases s with
      | true =>
        refine ⟨_, (l3bt p a b m (folA p a b n f) (errI (okH p n f) (inB n a && inB n b)) (chkA true p n k f g) (chkB true p n k f g) (chkE true p n k f g) e (busA false p m n f) (busA true p m n f) (errI (okH p n f) (decide (0 ≤ m) && decide (m ≤ 220))) n c k d f g R).mpr ?_⟩
        rw [hf]
        repeat' (first | with_reducible apply And.intro | with_reducible intro)
        all_goals first
          | exact q8
          | exact q9
          | exact q10
          | exact q11
          | exact q12
          | exact q13
          | exact q14
          | exact q15
          | exact C12_ok
          | exact hR
          | rfl
          | (simp; done)
      | false =>
        refine ⟨_, (l3bf p a b m (folA p a b n f) (errI (okH p n f) (inB n a && inB n b)) (chkA false p n k f g) (chkB false p n k f g) (chkE false p n k f g) e (busA false p m n f) (busA true p m n f) (errI (okH p n f) (decide (0 ≤ m) && decide (m ≤ 220))) n c k d f g R).mpr ?_⟩
        rw [hf]
        repeat' (first | with_reducible apply And.intro | with_reducible intro)
        all_goals first
          | exact q8
          | exact q9
          | exact q10
          | exact q11
          | exact q12
          | exact q13
          | exact q14
          | exact q15
          | exact C12_ok
          | exact hR
          | rfl
          | (simp; done)
  exact key _ rfl
theorem l3_noplan (p a b m : Int) (s : Bool) (n c : Nat) (f : Nat → Mv) (hn : n ≤ 40)
    (hz : ∃ z w, ConOK Tryz.prog 10 (D16x s p n c f z) ∧ ConOK Tryz.prog 11 (D16x s p n c f z) ∧ ConOK Tryz.prog 12 (D15x p n c f w) ∧ ConOK Tryz.prog 13 (D15x p n c f w)) :
    ∃ hs, vx.call 3 [hV p n c, nilS, I a, I b, I m, .bool s] (retK fun r => r = .ret (.bool true)) (m2n (mvs n f)) hs := by
  have key : ∀ R : ARes → Prop, R (.ret (.bool true)) → ∃ hs, vx.call 3 [hV p n c, nilS, I a, I b, I m, .bool s] (retK R) (m2n (mvs n f)) hs := by
    intro R hR
    have q8 := P8_ok p a b n c f (by omega)
    have q9 := P9_ok p a b n c f (by omega)
    have q14 := P14_ok p m n c f (by omega)
    have q15 := P15_ok p m n c f (by omega)
    have hf := far_no (x := 0) (Nat.zero_le _) hn
    obtain ⟨z, w, q10, q11, q12, q13⟩ := hz
    cases s with
    | true =>
      refine ⟨_, (l3ct p a b m (folA p a b n f) (errI (okH p n f) (inB n a && inB n b)) z w (busA false p m n f) (busA true p m n f) (errI (okH p n f) (decide (0 ≤ m) && decide (m ≤ 220))) n c f R).mpr ?_⟩
      rw [hf]
      repeat' (first | with_reducible apply And.intro | with_reducible intro)
      all_goals first
        | exact q8
        | exact q9
        | exact q10
        | exact q11
        | exact q12
        | exact q13
        | exact q14
        | exact q15
        | exact C12_ok
        | exact hR
        | rfl
        | (simp; done)
    | false =>
      refine ⟨_, (l3cf p a b m (folA p a b n f) (errI (okH p n f) (inB n a && inB n b)) z w (busA false p m n f) (busA true p m n f) (errI (okH p n f) (decide (0 ≤ m) && decide (m ≤ 220))) n c f R).mpr ?_⟩
      rw [hf]
      repeat' (first | with_reducible apply And.intro | with_reducible intro)
      all_goals first
        | exact q8
        | exact q9
        | exact q10
        | exact q11
        | exact q12
        | exact q13
        | exact q14
        | exact q15
        | exact C12_ok
        | exact hR
        | rfl
        | (simp; done)
  exact key _ rfl
theorem l3_noplan_moves (p a b m : Int) (s : Bool) (n c : Nat) (f : Nat → Mv) (h0 : 0 < n) (hn : n ≤ 40) :
    ∃ hs, vx.call 3 [hV p n c, nilS, I a, I b, I m, .bool s] (retK fun r => r = .ret (.bool true)) (m2n (mvs n f)) hs :=
  l3_noplan p a b m s n c f hn ⟨_, _, D10_ok s p n c f h0 (by omega), D11_ok s p n c f h0 (by omega), D12_ok p n c f h0 (by omega), D13_ok p n c f h0 (by omega)⟩
end Go.Ab

/- no moves: forms. -/
set_option maxRecDepth 100000
namespace Go.Ab
open Go Go.RowKit Go.Proofs
noncomputable def md : Mem := ⟨fillX [.dead] 0 .nil, 1⟩
noncomputable def mdp (ps : List Value) : Mem := ⟨fillX [.dead, .cells ps 3 .ro] 0 .nil, 2⟩
noncomputable def mdd : Mem := ⟨fillX [.dead, .dead] 0 .nil, 2⟩
noncomputable def hN (p : Int) : Value := .agg ⟨[I p, nilS]⟩
noncomputable def T43n : Tw := ⟨24, mkS 24 [(1, .slice 1 0 .nil), (2, .ptr 2 0 .nil), (5, .hole .nil)], 3, [.dead, .list 3 .ro, .cells (.hole (.val nilS .nil)) 24 .var]⟩
/-- What is told of any plan, if there are no moves at all. -/
noncomputable def N39 (p : Int) (k d : Nat) (g : Nat → Int) : Con where
  A := .agg (.hole (.val nilS .nil)) (.slice 1 0 .nil)
  bs := [.dead, .list 3 .ro]
  pre x := x = ⟨⟨[I p], [(k, d)]⟩, [ints k g]⟩
  res _ := .ret (.bool (okP 0 k g))
/-- Of no moves (nil): Follows, Busy, Check, Late, by what they answer. -/
noncomputable def N8 (p a b : Int) (v : Value) : Con where
  A := .agg (.hole (.val nilS .nil)) (.hole (.hole .nil))
  bs := [.dead]
  pre x := x = ⟨⟨[I p, I a, I b], []⟩, []⟩
  res _ := .ret v
noncomputable def N14 (p m : Int) (v : Value) : Con where
  A := .agg (.hole (.val nilS .nil)) (.hole .nil)
  bs := [.dead]
  pre x := x = ⟨⟨[I p, I m], []⟩, []⟩
  res _ := .ret v
noncomputable def N12 (p : Int) (e : Int) : Con where
  A := .agg (.hole (.val nilS .nil)) (.val nilS .nil)
  bs := [.dead]
  pre x := x = ⟨⟨[I p], []⟩, []⟩
  res _ := .ret (.tuple ⟨[nilS, I e]⟩)
noncomputable def N10 (s : Bool) (p : Int) (e : Int) : Con where
  A := .agg (.hole (.val nilS .nil)) (.val nilS (.hole .nil))
  bs := [.dead]
  pre x := x = ⟨⟨[I p, .bool s], []⟩, []⟩
  res _ := .ret (.tuple ⟨[I 0, I 0, I e]⟩)
noncomputable def M12 (p : Int) (k d : Nat) (ps : List Value) (e : Int) : Con where
  A := .agg (.hole (.val nilS .nil)) (.slice 1 0 .nil)
  bs := [.dead, .list 3 .ro]
  pre x := x = ⟨⟨[I p], [(k, d)]⟩, [ps]⟩
  res _ := .ret (.tuple ⟨[nilS, I e]⟩)
noncomputable def M10 (s : Bool) (p : Int) (k d : Nat) (ps : List Value) (e : Int) : Con where
  A := .agg (.hole (.val nilS .nil)) (.slice 1 0 (.hole .nil))
  bs := [.dead, .list 3 .ro]
  pre x := x = ⟨⟨[I p, .bool s], [(k, d)]⟩, [ps]⟩
  res _ := .ret (.tuple ⟨[I 0, I 0, I e]⟩)
end Go.Ab

/- the law, with no moves: what each call answers. -/
set_option maxRecDepth 100000
namespace Go.Ab
open Go Go.RowKit Go.Proofs
theorem e8n (p a b : Int) (R : ARes → Prop)  : (vx.call 8 [hN p, I a, I b] (retK R) md ([(29, .split ([(3, .split ([(41, .split ((3, .val (.bool false)) :: []) ([]))]) ([]))]) ([]))])) =
((((decide ((0 : Int) ≤ p)) = true → (((decide (p ≤ (3 : Int))) = true → (((decide ((0 : Int) ≤ a)) = true → ((((some (.bool (decide (a ≤ IntKind.i64.wrap ((↑(0 : Nat) : Int) - (1 : Int))))) : Option Value) = some (.bool false))) ∧
R (.ret (.tuple ⟨[(.int IntKind.i64 ((0 : Int))), (.int IntKind.i64 ((2 : Int)))]⟩)))) ∧
((decide ((0 : Int) ≤ a)) = false → R (.ret (.tuple ⟨[(.int IntKind.i64 ((0 : Int))), (.int IntKind.i64 ((2 : Int)))]⟩))))) ∧
((decide (p ≤ (3 : Int))) = false → R (.ret (.tuple ⟨[(.int IntKind.i64 ((0 : Int))), (.int IntKind.i64 ((1 : Int)))]⟩))))) ∧
((decide ((0 : Int) ≤ p)) = false → R (.ret (.tuple ⟨[(.int IntKind.i64 ((0 : Int))), (.int IntKind.i64 ((1 : Int)))]⟩))))) := by kernel_rfl

theorem e9n (p a b : Int) (R : ARes → Prop)  : (vx.call 9 [hN p, I a, I b] (retK R) md ([(19, .split ((3, .val (.bool false)) :: (3, Hint.again) :: [(15, .split ([(3, .split ([]) ([]))]) ([]))]) ((4, Hint.again) :: [(15, .split ([(3, .split ([]) ([]))]) ([]))]))])) =
((((decide ((0 : Int) ≤ a)) = true → ((((some (.bool (decide (a ≤ IntKind.i64.wrap ((↑(0 : Nat) : Int) - (1 : Int))))) : Option Value) = some (.bool false))) ∧
((((((2 : Nat) ≤ (2 : Nat))) ∧ (((.agg ⟨[(.int IntKind.i64 (p)), (.slice .none ((0 : Nat)) ((0 : Nat)))]⟩) : Value) = (.agg ⟨[(.int IntKind.i64 (p)), (.slice .none ((0 : Nat)) ((0 : Nat)))]⟩))) ∧ (True)) ∧ 
(((decide ((0 : Int) ≤ p)) = true → (((decide (p ≤ (3 : Int))) = true → R (.ret (.tuple ⟨[(.int IntKind.i64 ((0 : Int))), (.int IntKind.i64 ((2 : Int)))]⟩))) ∧
((decide (p ≤ (3 : Int))) = false → R (.ret (.tuple ⟨[(.int IntKind.i64 ((0 : Int))), (.int IntKind.i64 ((1 : Int)))]⟩))))) ∧
((decide ((0 : Int) ≤ p)) = false → R (.ret (.tuple ⟨[(.int IntKind.i64 ((0 : Int))), (.int IntKind.i64 ((1 : Int)))]⟩))))))) ∧
((decide ((0 : Int) ≤ a)) = false → ((((((2 : Nat) ≤ (2 : Nat))) ∧ (((.agg ⟨[(.int IntKind.i64 (p)), (.slice .none ((0 : Nat)) ((0 : Nat)))]⟩) : Value) = (.agg ⟨[(.int IntKind.i64 (p)), (.slice .none ((0 : Nat)) ((0 : Nat)))]⟩))) ∧ (True)) ∧ 
(((decide ((0 : Int) ≤ p)) = true → (((decide (p ≤ (3 : Int))) = true → R (.ret (.tuple ⟨[(.int IntKind.i64 ((0 : Int))), (.int IntKind.i64 ((2 : Int)))]⟩))) ∧
((decide (p ≤ (3 : Int))) = false → R (.ret (.tuple ⟨[(.int IntKind.i64 ((0 : Int))), (.int IntKind.i64 ((1 : Int)))]⟩))))) ∧
((decide ((0 : Int) ≤ p)) = false → R (.ret (.tuple ⟨[(.int IntKind.i64 ((0 : Int))), (.int IntKind.i64 ((1 : Int)))]⟩)))))))) := by kernel_rfl

theorem e14n (p m : Int) (R : ARes → Prop)  : (vx.call 14 [hN p, I m] (retK R) md ([(28, .split ([(3, .split ([(35, .split ([(3, .split ((29, Hint.again) :: []) ([]))]) ([]))]) ([]))]) ([]))])) =
((((decide ((0 : Int) ≤ p)) = true → (((decide (p ≤ (3 : Int))) = true → (((decide ((0 : Int) ≤ m)) = true → (((decide (m ≤ (220 : Int))) = true → (((((some (.int IntKind.i64 (m)) : Option Value) = some (.int IntKind.i64 (m)))) ∧ (((((2 : Nat) ≤ (2 : Nat))) ∧ (((.agg ⟨[(.int IntKind.i64 (p)), (.slice .none ((0 : Nat)) ((0 : Nat)))]⟩) : Value) = (.agg ⟨[(.int IntKind.i64 (p)), (.slice .none ((0 : Nat)) ((0 : Nat)))]⟩))) ∧ (True))) ∧ 
R (.ret (.tuple ⟨[(.agg ⟨[(.int IntKind.i64 ((0 : Int))), (.int IntKind.i64 ((0 : Int)))]⟩), (.int IntKind.i64 ((0 : Int)))]⟩)))) ∧
((decide (m ≤ (220 : Int))) = false → R (.ret (.tuple ⟨[(.agg ⟨[(.int IntKind.i64 ((0 : Int))), (.int IntKind.i64 ((0 : Int)))]⟩), (.int IntKind.i64 ((2 : Int)))]⟩))))) ∧
((decide ((0 : Int) ≤ m)) = false → R (.ret (.tuple ⟨[(.agg ⟨[(.int IntKind.i64 ((0 : Int))), (.int IntKind.i64 ((0 : Int)))]⟩), (.int IntKind.i64 ((2 : Int)))]⟩))))) ∧
((decide (p ≤ (3 : Int))) = false → R (.ret (.tuple ⟨[(.agg ⟨[(.int IntKind.i64 ((0 : Int))), (.int IntKind.i64 ((0 : Int)))]⟩), (.int IntKind.i64 ((1 : Int)))]⟩))))) ∧
((decide ((0 : Int) ≤ p)) = false → R (.ret (.tuple ⟨[(.agg ⟨[(.int IntKind.i64 ((0 : Int))), (.int IntKind.i64 ((0 : Int)))]⟩), (.int IntKind.i64 ((1 : Int)))]⟩))))) := by kernel_rfl

theorem e15n (p m : Int) (R : ARes → Prop)  : (vx.call 15 [hN p, I m] (retK R) md ([(10, .split ([(3, .split ((2, Hint.again) :: [(13, .split ([(3, .split ([]) ([]))]) ([]))]) ((2, Hint.again) :: [(13, .split ([(3, .split ([]) ([]))]) ([]))]))]) ((3, Hint.again) :: [(13, .split ([(3, .split ([]) ([]))]) ([]))]))])) =
((((decide ((0 : Int) ≤ m)) = true → (((decide (m ≤ (220 : Int))) = true → ((((((2 : Nat) ≤ (2 : Nat))) ∧ (((.agg ⟨[(.int IntKind.i64 (p)), (.slice .none ((0 : Nat)) ((0 : Nat)))]⟩) : Value) = (.agg ⟨[(.int IntKind.i64 (p)), (.slice .none ((0 : Nat)) ((0 : Nat)))]⟩))) ∧ (True)) ∧ 
(((decide ((0 : Int) ≤ p)) = true → (((decide (p ≤ (3 : Int))) = true → R (.ret (.tuple ⟨[(.agg ⟨[(.int IntKind.i64 ((0 : Int))), (.int IntKind.i64 ((0 : Int)))]⟩), (.int IntKind.i64 ((0 : Int)))]⟩))) ∧
((decide (p ≤ (3 : Int))) = false → R (.ret (.tuple ⟨[(.agg ⟨[(.int IntKind.i64 ((0 : Int))), (.int IntKind.i64 ((0 : Int)))]⟩), (.int IntKind.i64 ((1 : Int)))]⟩))))) ∧
((decide ((0 : Int) ≤ p)) = false → R (.ret (.tuple ⟨[(.agg ⟨[(.int IntKind.i64 ((0 : Int))), (.int IntKind.i64 ((0 : Int)))]⟩), (.int IntKind.i64 ((1 : Int)))]⟩)))))) ∧
((decide (m ≤ (220 : Int))) = false → ((((((2 : Nat) ≤ (2 : Nat))) ∧ (((.agg ⟨[(.int IntKind.i64 (p)), (.slice .none ((0 : Nat)) ((0 : Nat)))]⟩) : Value) = (.agg ⟨[(.int IntKind.i64 (p)), (.slice .none ((0 : Nat)) ((0 : Nat)))]⟩))) ∧ (True)) ∧ 
(((decide ((0 : Int) ≤ p)) = true → (((decide (p ≤ (3 : Int))) = true → R (.ret (.tuple ⟨[(.agg ⟨[(.int IntKind.i64 ((0 : Int))), (.int IntKind.i64 ((0 : Int)))]⟩), (.int IntKind.i64 ((2 : Int)))]⟩))) ∧
((decide (p ≤ (3 : Int))) = false → R (.ret (.tuple ⟨[(.agg ⟨[(.int IntKind.i64 ((0 : Int))), (.int IntKind.i64 ((0 : Int)))]⟩), (.int IntKind.i64 ((1 : Int)))]⟩))))) ∧
((decide ((0 : Int) ≤ p)) = false → R (.ret (.tuple ⟨[(.agg ⟨[(.int IntKind.i64 ((0 : Int))), (.int IntKind.i64 ((0 : Int)))]⟩), (.int IntKind.i64 ((1 : Int)))]⟩)))))))) ∧
((decide ((0 : Int) ≤ m)) = false → ((((((2 : Nat) ≤ (2 : Nat))) ∧ (((.agg ⟨[(.int IntKind.i64 (p)), (.slice .none ((0 : Nat)) ((0 : Nat)))]⟩) : Value) = (.agg ⟨[(.int IntKind.i64 (p)), (.slice .none ((0 : Nat)) ((0 : Nat)))]⟩))) ∧ (True)) ∧ 
(((decide ((0 : Int) ≤ p)) = true → (((decide (p ≤ (3 : Int))) = true → R (.ret (.tuple ⟨[(.agg ⟨[(.int IntKind.i64 ((0 : Int))), (.int IntKind.i64 ((0 : Int)))]⟩), (.int IntKind.i64 ((2 : Int)))]⟩))) ∧
((decide (p ≤ (3 : Int))) = false → R (.ret (.tuple ⟨[(.agg ⟨[(.int IntKind.i64 ((0 : Int))), (.int IntKind.i64 ((0 : Int)))]⟩), (.int IntKind.i64 ((1 : Int)))]⟩))))) ∧
((decide ((0 : Int) ≤ p)) = false → R (.ret (.tuple ⟨[(.agg ⟨[(.int IntKind.i64 ((0 : Int))), (.int IntKind.i64 ((0 : Int)))]⟩), (.int IntKind.i64 ((1 : Int)))]⟩)))))))) := by kernel_rfl

theorem e10nn (p : Int) (s : Bool) (R : ARes → Prop)  : (vx.call 10 [hN p, nilS, .bool s] (retK R) md ([(30, .split ([(3, .split ([(53, .split ((7, Hint.again) :: (28, Hint.again) :: []) ((7, Hint.again) :: (28, Hint.again) :: []))]) ([]))]) ([]))])) =
((((decide ((0 : Int) ≤ p)) = true → (((decide (p ≤ (3 : Int))) = true → (((s) = true → ((((((2 : Nat) ≤ (2 : Nat))) ∧ (((.agg ⟨[(.int IntKind.i64 (p)), (.slice .none ((0 : Nat)) ((0 : Nat)))]⟩) : Value) = (.agg ⟨[(.int IntKind.i64 (p)), (.slice .none ((0 : Nat)) ((0 : Nat)))]⟩))) ∧ ((((some (.slice .none ((0 : Nat)) ((0 : Nat))) : Option Value) = some (.slice .none ((0 : Nat)) ((0 : Nat))))) ∧ (((((2 : Nat) ≤ (2 : Nat))) ∧ (((.agg ⟨[(.int IntKind.i64 (p)), (.slice .none ((0 : Nat)) ((0 : Nat)))]⟩) : Value) = (.agg ⟨[(.int IntKind.i64 (p)), (.slice .none ((0 : Nat)) ((0 : Nat)))]⟩))) ∧ (True)))) ∧ 
(((((some (.slice .none ((0 : Nat)) ((0 : Nat))) : Option Value) = some (.slice .none ((0 : Nat)) ((0 : Nat))))) ∧ (((((2 : Nat) ≤ (2 : Nat))) ∧ (((.agg ⟨[(.int IntKind.i64 (p)), (.slice .none ((0 : Nat)) ((0 : Nat)))]⟩) : Value) = (.agg ⟨[(.int IntKind.i64 (p)), (.slice .none ((0 : Nat)) ((0 : Nat)))]⟩))) ∧ (True))) ∧ 
R (.ret (.tuple ⟨[(.int IntKind.i64 ((0 : Int))), (.int IntKind.i64 ((0 : Int))), (.int IntKind.i64 ((4 : Int)))]⟩))))) ∧
((s) = false → ((((((2 : Nat) ≤ (2 : Nat))) ∧ (((.agg ⟨[(.int IntKind.i64 (p)), (.slice .none ((0 : Nat)) ((0 : Nat)))]⟩) : Value) = (.agg ⟨[(.int IntKind.i64 (p)), (.slice .none ((0 : Nat)) ((0 : Nat)))]⟩))) ∧ ((((some (.slice .none ((0 : Nat)) ((0 : Nat))) : Option Value) = some (.slice .none ((0 : Nat)) ((0 : Nat))))) ∧ (((((2 : Nat) ≤ (2 : Nat))) ∧ (((.agg ⟨[(.int IntKind.i64 (p)), (.slice .none ((0 : Nat)) ((0 : Nat)))]⟩) : Value) = (.agg ⟨[(.int IntKind.i64 (p)), (.slice .none ((0 : Nat)) ((0 : Nat)))]⟩))) ∧ (True)))) ∧ 
(((((some (.slice .none ((0 : Nat)) ((0 : Nat))) : Option Value) = some (.slice .none ((0 : Nat)) ((0 : Nat))))) ∧ (((((2 : Nat) ≤ (2 : Nat))) ∧ (((.agg ⟨[(.int IntKind.i64 (p)), (.slice .none ((0 : Nat)) ((0 : Nat)))]⟩) : Value) = (.agg ⟨[(.int IntKind.i64 (p)), (.slice .none ((0 : Nat)) ((0 : Nat)))]⟩))) ∧ (True))) ∧ 
R (.ret (.tuple ⟨[(.int IntKind.i64 ((0 : Int))), (.int IntKind.i64 ((0 : Int))), (.int IntKind.i64 ((4 : Int)))]⟩))))))) ∧
((decide (p ≤ (3 : Int))) = false → R (.ret (.tuple ⟨[(.int IntKind.i64 ((0 : Int))), (.int IntKind.i64 ((0 : Int))), (.int IntKind.i64 ((1 : Int)))]⟩))))) ∧
((decide ((0 : Int) ≤ p)) = false → R (.ret (.tuple ⟨[(.int IntKind.i64 ((0 : Int))), (.int IntKind.i64 ((0 : Int))), (.int IntKind.i64 ((1 : Int)))]⟩))))) := by kernel_rfl

theorem e11nn (p : Int) (s : Bool) (R : ARes → Prop)  : (vx.call 11 [hN p, nilS, .bool s] (retK R) md ((25, Hint.again) :: [(13, .split ([(3, .split ([]) ([]))]) ([]))])) =
(((((((2 : Nat) ≤ (2 : Nat))) ∧ (((.agg ⟨[(.int IntKind.i64 (p)), (.slice .none ((0 : Nat)) ((0 : Nat)))]⟩) : Value) = (.agg ⟨[(.int IntKind.i64 (p)), (.slice .none ((0 : Nat)) ((0 : Nat)))]⟩))) ∧ (True)) ∧ 
(((decide ((0 : Int) ≤ p)) = true → (((decide (p ≤ (3 : Int))) = true → R (.ret (.tuple ⟨[(.int IntKind.i64 ((0 : Int))), (.int IntKind.i64 ((0 : Int))), (.int IntKind.i64 ((4 : Int)))]⟩))) ∧
((decide (p ≤ (3 : Int))) = false → R (.ret (.tuple ⟨[(.int IntKind.i64 ((0 : Int))), (.int IntKind.i64 ((0 : Int))), (.int IntKind.i64 ((1 : Int)))]⟩))))) ∧
((decide ((0 : Int) ≤ p)) = false → R (.ret (.tuple ⟨[(.int IntKind.i64 ((0 : Int))), (.int IntKind.i64 ((0 : Int))), (.int IntKind.i64 ((1 : Int)))]⟩)))))) := by kernel_rfl

theorem e12nn (p : Int) (R : ARes → Prop)  : (vx.call 12 [hN p, nilS] (retK R) md ([(28, .split ([(3, .split ((135, Hint.again) :: []) ([]))]) ([]))])) =
((((decide ((0 : Int) ≤ p)) = true → (((decide (p ≤ (3 : Int))) = true → ((((((2 : Nat) ≤ (2 : Nat))) ∧ (((.agg ⟨[(.int IntKind.i64 (p)), (.slice .none ((0 : Nat)) ((0 : Nat)))]⟩) : Value) = (.agg ⟨[(.int IntKind.i64 (p)), (.slice .none ((0 : Nat)) ((0 : Nat)))]⟩))) ∧ (True)) ∧ 
R (.ret (.tuple ⟨[(.slice .none ((0 : Nat)) ((0 : Nat))), (.int IntKind.i64 ((0 : Int)))]⟩)))) ∧
((decide (p ≤ (3 : Int))) = false → R (.ret (.tuple ⟨[(.slice .none ((0 : Nat)) ((0 : Nat))), (.int IntKind.i64 ((1 : Int)))]⟩))))) ∧
((decide ((0 : Int) ≤ p)) = false → R (.ret (.tuple ⟨[(.slice .none ((0 : Nat)) ((0 : Nat))), (.int IntKind.i64 ((1 : Int)))]⟩))))) := by kernel_rfl

theorem e13nn (p : Int) (R : ARes → Prop)  : (vx.call 13 [hN p, nilS] (retK R) md ((24, Hint.again) :: [(13, .split ([(3, .split ([]) ([]))]) ([]))])) =
(((((((2 : Nat) ≤ (2 : Nat))) ∧ (((.agg ⟨[(.int IntKind.i64 (p)), (.slice .none ((0 : Nat)) ((0 : Nat)))]⟩) : Value) = (.agg ⟨[(.int IntKind.i64 (p)), (.slice .none ((0 : Nat)) ((0 : Nat)))]⟩))) ∧ (True)) ∧ 
(((decide ((0 : Int) ≤ p)) = true → (((decide (p ≤ (3 : Int))) = true → R (.ret (.tuple ⟨[(.slice .none ((0 : Nat)) ((0 : Nat))), (.int IntKind.i64 ((0 : Int)))]⟩))) ∧
((decide (p ≤ (3 : Int))) = false → R (.ret (.tuple ⟨[(.slice .none ((0 : Nat)) ((0 : Nat))), (.int IntKind.i64 ((1 : Int)))]⟩))))) ∧
((decide ((0 : Int) ≤ p)) = false → R (.ret (.tuple ⟨[(.slice .none ((0 : Nat)) ((0 : Nat))), (.int IntKind.i64 ((1 : Int)))]⟩)))))) := by kernel_rfl

theorem e10n0 (p : Int) (s : Bool) (d : Nat) (ps : List Value) (R : ARes → Prop)  : (vx.call 10 [hN p, slV 1 0 d, .bool s] (retK R) (mdp ps) ([(30, .split ([(3, .split ([(53, .split ((7, Hint.again) :: (28, Hint.again) :: []) ((7, Hint.again) :: (28, Hint.again) :: []))]) ([]))]) ([]))])) =
((((decide ((0 : Int) ≤ p)) = true → (((decide (p ≤ (3 : Int))) = true → (((s) = true → ((((((2 : Nat) ≤ (2 : Nat))) ∧ (((.agg ⟨[(.int IntKind.i64 (p)), (.slice .none ((0 : Nat)) ((0 : Nat)))]⟩) : Value) = (.agg ⟨[(.int IntKind.i64 (p)), (.slice .none ((0 : Nat)) ((0 : Nat)))]⟩))) ∧ ((((some (.slice (.some ⟨((1 : Nat)), ((0 : Nat)), .none⟩) ((0 : Nat)) (d)) : Option Value) = some (.slice (.some ⟨((1 : Nat)), ((0 : Nat)), .none⟩) ((0 : Nat)) (d)))) ∧ (((((2 : Nat) ≤ (2 : Nat))) ∧ (((.agg ⟨[(.int IntKind.i64 (p)), (.slice .none ((0 : Nat)) ((0 : Nat)))]⟩) : Value) = (.agg ⟨[(.int IntKind.i64 (p)), (.slice .none ((0 : Nat)) ((0 : Nat)))]⟩))) ∧ (True)))) ∧ 
(((((some (.slice (.some ⟨((1 : Nat)), ((0 : Nat)), .none⟩) ((0 : Nat)) (d)) : Option Value) = some (.slice (.some ⟨((1 : Nat)), ((0 : Nat)), .none⟩) ((0 : Nat)) (d)))) ∧ (((((2 : Nat) ≤ (2 : Nat))) ∧ (((.agg ⟨[(.int IntKind.i64 (p)), (.slice .none ((0 : Nat)) ((0 : Nat)))]⟩) : Value) = (.agg ⟨[(.int IntKind.i64 (p)), (.slice .none ((0 : Nat)) ((0 : Nat)))]⟩))) ∧ (True))) ∧ 
R (.ret (.tuple ⟨[(.int IntKind.i64 ((0 : Int))), (.int IntKind.i64 ((0 : Int))), (.int IntKind.i64 ((4 : Int)))]⟩))))) ∧
((s) = false → ((((((2 : Nat) ≤ (2 : Nat))) ∧ (((.agg ⟨[(.int IntKind.i64 (p)), (.slice .none ((0 : Nat)) ((0 : Nat)))]⟩) : Value) = (.agg ⟨[(.int IntKind.i64 (p)), (.slice .none ((0 : Nat)) ((0 : Nat)))]⟩))) ∧ ((((some (.slice (.some ⟨((1 : Nat)), ((0 : Nat)), .none⟩) ((0 : Nat)) (d)) : Option Value) = some (.slice (.some ⟨((1 : Nat)), ((0 : Nat)), .none⟩) ((0 : Nat)) (d)))) ∧ (((((2 : Nat) ≤ (2 : Nat))) ∧ (((.agg ⟨[(.int IntKind.i64 (p)), (.slice .none ((0 : Nat)) ((0 : Nat)))]⟩) : Value) = (.agg ⟨[(.int IntKind.i64 (p)), (.slice .none ((0 : Nat)) ((0 : Nat)))]⟩))) ∧ (True)))) ∧ 
(((((some (.slice (.some ⟨((1 : Nat)), ((0 : Nat)), .none⟩) ((0 : Nat)) (d)) : Option Value) = some (.slice (.some ⟨((1 : Nat)), ((0 : Nat)), .none⟩) ((0 : Nat)) (d)))) ∧ (((((2 : Nat) ≤ (2 : Nat))) ∧ (((.agg ⟨[(.int IntKind.i64 (p)), (.slice .none ((0 : Nat)) ((0 : Nat)))]⟩) : Value) = (.agg ⟨[(.int IntKind.i64 (p)), (.slice .none ((0 : Nat)) ((0 : Nat)))]⟩))) ∧ (True))) ∧ 
R (.ret (.tuple ⟨[(.int IntKind.i64 ((0 : Int))), (.int IntKind.i64 ((0 : Int))), (.int IntKind.i64 ((4 : Int)))]⟩))))))) ∧
((decide (p ≤ (3 : Int))) = false → R (.ret (.tuple ⟨[(.int IntKind.i64 ((0 : Int))), (.int IntKind.i64 ((0 : Int))), (.int IntKind.i64 ((1 : Int)))]⟩))))) ∧
((decide ((0 : Int) ≤ p)) = false → R (.ret (.tuple ⟨[(.int IntKind.i64 ((0 : Int))), (.int IntKind.i64 ((0 : Int))), (.int IntKind.i64 ((1 : Int)))]⟩))))) := by kernel_rfl

theorem e11n0 (p : Int) (s : Bool) (d : Nat) (ps : List Value) (R : ARes → Prop)  : (vx.call 11 [hN p, slV 1 0 d, .bool s] (retK R) (mdp ps) ((25, Hint.again) :: [(13, .split ([(3, .split ([]) ([]))]) ([]))])) =
(((((((2 : Nat) ≤ (2 : Nat))) ∧ (((.agg ⟨[(.int IntKind.i64 (p)), (.slice .none ((0 : Nat)) ((0 : Nat)))]⟩) : Value) = (.agg ⟨[(.int IntKind.i64 (p)), (.slice .none ((0 : Nat)) ((0 : Nat)))]⟩))) ∧ (True)) ∧ 
(((decide ((0 : Int) ≤ p)) = true → (((decide (p ≤ (3 : Int))) = true → R (.ret (.tuple ⟨[(.int IntKind.i64 ((0 : Int))), (.int IntKind.i64 ((0 : Int))), (.int IntKind.i64 ((4 : Int)))]⟩))) ∧
((decide (p ≤ (3 : Int))) = false → R (.ret (.tuple ⟨[(.int IntKind.i64 ((0 : Int))), (.int IntKind.i64 ((0 : Int))), (.int IntKind.i64 ((1 : Int)))]⟩))))) ∧
((decide ((0 : Int) ≤ p)) = false → R (.ret (.tuple ⟨[(.int IntKind.i64 ((0 : Int))), (.int IntKind.i64 ((0 : Int))), (.int IntKind.i64 ((1 : Int)))]⟩)))))) := by kernel_rfl

theorem e12n0 (p : Int) (d : Nat) (ps : List Value) (R : ARes → Prop)  : (vx.call 12 [hN p, slV 1 0 d] (retK R) (mdp ps) ([(28, .split ([(3, .split ((135, Hint.again) :: []) ([]))]) ([]))])) =
((((decide ((0 : Int) ≤ p)) = true → (((decide (p ≤ (3 : Int))) = true → ((((((2 : Nat) ≤ (2 : Nat))) ∧ (((.agg ⟨[(.int IntKind.i64 (p)), (.slice .none ((0 : Nat)) ((0 : Nat)))]⟩) : Value) = (.agg ⟨[(.int IntKind.i64 (p)), (.slice .none ((0 : Nat)) ((0 : Nat)))]⟩))) ∧ (True)) ∧ 
R (.ret (.tuple ⟨[(.slice .none ((0 : Nat)) ((0 : Nat))), (.int IntKind.i64 ((0 : Int)))]⟩)))) ∧
((decide (p ≤ (3 : Int))) = false → R (.ret (.tuple ⟨[(.slice .none ((0 : Nat)) ((0 : Nat))), (.int IntKind.i64 ((1 : Int)))]⟩))))) ∧
((decide ((0 : Int) ≤ p)) = false → R (.ret (.tuple ⟨[(.slice .none ((0 : Nat)) ((0 : Nat))), (.int IntKind.i64 ((1 : Int)))]⟩))))) := by kernel_rfl

theorem e13n0 (p : Int) (d : Nat) (ps : List Value) (R : ARes → Prop)  : (vx.call 13 [hN p, slV 1 0 d] (retK R) (mdp ps) ((24, Hint.again) :: [(13, .split ([(3, .split ([]) ([]))]) ([]))])) =
(((((((2 : Nat) ≤ (2 : Nat))) ∧ (((.agg ⟨[(.int IntKind.i64 (p)), (.slice .none ((0 : Nat)) ((0 : Nat)))]⟩) : Value) = (.agg ⟨[(.int IntKind.i64 (p)), (.slice .none ((0 : Nat)) ((0 : Nat)))]⟩))) ∧ (True)) ∧ 
(((decide ((0 : Int) ≤ p)) = true → (((decide (p ≤ (3 : Int))) = true → R (.ret (.tuple ⟨[(.slice .none ((0 : Nat)) ((0 : Nat))), (.int IntKind.i64 ((0 : Int)))]⟩))) ∧
((decide (p ≤ (3 : Int))) = false → R (.ret (.tuple ⟨[(.slice .none ((0 : Nat)) ((0 : Nat))), (.int IntKind.i64 ((1 : Int)))]⟩))))) ∧
((decide ((0 : Int) ≤ p)) = false → R (.ret (.tuple ⟨[(.slice .none ((0 : Nat)) ((0 : Nat))), (.int IntKind.i64 ((1 : Int)))]⟩)))))) := by kernel_rfl

theorem e10nk (p : Int) (s : Bool) (k d : Nat) (g : Nat → Int) (R : ARes → Prop)  : (vx.call 10 [hN p, slV 1 (k + 1) d, .bool s] (retK R) (mdp (ints (k + 1) g)) ([(30, .split ([(3, .split ([]) ([]))]) ([]))])) =
((((decide ((0 : Int) ≤ p)) = true → (((decide (p ≤ (3 : Int))) = true → R (.ret (.tuple ⟨[(.int IntKind.i64 ((0 : Int))), (.int IntKind.i64 ((0 : Int))), (.int IntKind.i64 ((2 : Int)))]⟩))) ∧
((decide (p ≤ (3 : Int))) = false → R (.ret (.tuple ⟨[(.int IntKind.i64 ((0 : Int))), (.int IntKind.i64 ((0 : Int))), (.int IntKind.i64 ((1 : Int)))]⟩))))) ∧
((decide ((0 : Int) ≤ p)) = false → R (.ret (.tuple ⟨[(.int IntKind.i64 ((0 : Int))), (.int IntKind.i64 ((0 : Int))), (.int IntKind.i64 ((1 : Int)))]⟩))))) := by kernel_rfl

theorem e12nk (p : Int) (k d : Nat) (g : Nat → Int) (R : ARes → Prop)  : (vx.call 12 [hN p, slV 1 (k + 1) d] (retK R) (mdp (ints (k + 1) g)) ([(28, .split ([(3, .split ([]) ([]))]) ([]))])) =
((((decide ((0 : Int) ≤ p)) = true → (((decide (p ≤ (3 : Int))) = true → R (.ret (.tuple ⟨[(.slice .none ((0 : Nat)) ((0 : Nat))), (.int IntKind.i64 ((2 : Int)))]⟩))) ∧
((decide (p ≤ (3 : Int))) = false → R (.ret (.tuple ⟨[(.slice .none ((0 : Nat)) ((0 : Nat))), (.int IntKind.i64 ((1 : Int)))]⟩))))) ∧
((decide ((0 : Int) ≤ p)) = false → R (.ret (.tuple ⟨[(.slice .none ((0 : Nat)) ((0 : Nat))), (.int IntKind.i64 ((1 : Int)))]⟩))))) := by kernel_rfl

theorem b43n (p : Int) (i k d : Nat) (ps : List Value) (g : Nat → Int) (R : Nat → AExit → Hw → Prop)  : (vx.code none (.l p43z) (leafW [T43n, R43z] R) (T43n.inst ⟨⟨[I i, I p], [(k, d)]⟩, [ps], []⟩) ([(3, .split ((3, .val (.pointer (.some ⟨((1 : Nat)), ((0 : Nat) + i * (1 : Nat)), .none⟩))) :: (0, .val (.int IntKind.i64 (g i))) :: [(4, .split ([(3, .split ([(7, Hint.tm (0 : Nat) [])]) ([(5, Hint.tm (1 : Nat) [])]))]) ([(6, Hint.tm (1 : Nat) [])]))]) ([(1, Hint.tm (0 : Nat) [])]))])) =
((((decide ((↑i : Int) < (↑k : Int))) = true → ((((((0 : Int) ≤ (↑i : Int))) ∧ (((↑i : Int) < (↑k : Int)))) ∧ (((.pointer (.some ⟨((1 : Nat)), ((0 : Nat) + i * (1 : Nat)), .none⟩)) : Value) = (.pointer (.some ⟨((1 : Nat)), ((0 : Nat) + i * (1 : Nat)), .none⟩)))) ∧
(((ps[(0 : Nat) + i * (1 : Nat)]? = some (.int IntKind.i64 (g i)))) ∧
(((decide ((0 : Int) ≤ g i)) = true → (((decide (g i ≤ (6 : Int))) = true → R ((0 : Nat)) .normal ⟨⟨[(.int IntKind.i64 (IntKind.i64.wrap ((↑i : Int) + (1 : Int)))), (.int IntKind.i64 (p))], [⟨(k), (d)⟩]⟩, [(ps)], []⟩) ∧
((decide (g i ≤ (6 : Int))) = false → R ((1 : Nat)) .ret ⟨⟨[(.bool false)], []⟩, [], []⟩))) ∧
((decide ((0 : Int) ≤ g i)) = false → R ((1 : Nat)) .ret ⟨⟨[(.bool false)], []⟩, [], []⟩))))) ∧
((decide ((↑i : Int) < (↑k : Int))) = false → R ((0 : Nat)) (.exit ((0 : Nat))) ⟨⟨[(.int IntKind.i64 ((↑i : Int))), (.int IntKind.i64 (p))], [⟨(k), (d)⟩]⟩, [(ps)], []⟩))) := by kernel_rfl

theorem f43nt (p : Int) (k d : Nat) (ps : List Value) (R : ARes → Prop)  : (vx.call 43 [hN p, slV 1 k d] (retK R) (mdp ps) ((4, Hint.loopW T43n (AExit.exit (0 : Nat)) T43n fun _ =>   { hs := { vs := [I (↑k : Int), I p], ns := [(k, d)] }, ls := [ps], es := [] }) :: [(5, .split ([]) ([]))])) =
(((ClW ⟨⟨[(.int IntKind.i64 ((0 : Int))), (.int IntKind.i64 (p))], [⟨(k), (d)⟩]⟩, [(ps)], []⟩) ∧ (LoopOW Tryz.prog .none p43z (T43n) ⟨⟨[(.int IntKind.i64 ((0 : Int))), (.int IntKind.i64 (p))], [⟨(k), (d)⟩]⟩, [(ps)], []⟩ (.exit ((0 : Nat))) (T43n) ⟨⟨[(.int IntKind.i64 ((↑k : Int))), (.int IntKind.i64 (p))], [⟨(k), (d)⟩]⟩, [(ps)], []⟩) ∧ 
((((↑k : Int) == (↑(0 : Nat) : Int)) = true → R (.ret (.bool true))) ∧
(((↑k : Int) == (↑(0 : Nat) : Int)) = false → R (.ret (.bool false)))))) := by kernel_rfl

theorem f43nf (p : Int) (k d : Nat) (ps : List Value) (R : ARes → Prop)  : (vx.call 43 [hN p, slV 1 k d] (retK R) (mdp ps) ((4, Hint.loopW T43n AExit.ret R43z fun _ => { hs := { vs := [Value.bool false], ns := [] }, ls := [], es := [] }) :: [])) =
(((ClW ⟨⟨[(.int IntKind.i64 ((0 : Int))), (.int IntKind.i64 (p))], [⟨(k), (d)⟩]⟩, [(ps)], []⟩) ∧ (LoopOW Tryz.prog .none p43z (T43n) ⟨⟨[(.int IntKind.i64 ((0 : Int))), (.int IntKind.i64 (p))], [⟨(k), (d)⟩]⟩, [(ps)], []⟩ .ret (R43z) ⟨⟨[(.bool false)], []⟩, [], []⟩) ∧ 
R (.ret (.bool false)))) := by kernel_rfl

theorem e11nk (p : Int) (s : Bool) (k d : Nat) (g : Nat → Int) (R : ARes → Prop)  : (vx.call 11 [hN p, slV 1 k d, .bool s] (retK R) (mdp (ints k g)) ((8, Hint.con ((N39 p k d g).when (ARes.ret (Value.bool false)))) :: (0, Hint.again) :: [(13, .split ([(3, .split ([]) ([]))]) ([]))])) =
(((ConOK Tryz.prog ((43 : Nat)) ((N39 p k d g).when (ARes.ret (Value.bool false)))) ∧ (Con.pre ((N39 p k d g).when (ARes.ret (Value.bool false))) ⟨⟨[(.int IntKind.i64 (p))], [⟨(k), (d)⟩]⟩, [(ints k g)]⟩) ∧ 
((((((2 : Nat) ≤ (2 : Nat))) ∧ (((.agg ⟨[(.int IntKind.i64 (p)), (.slice .none ((0 : Nat)) ((0 : Nat)))]⟩) : Value) = (.agg ⟨[(.int IntKind.i64 (p)), (.slice .none ((0 : Nat)) ((0 : Nat)))]⟩))) ∧ (True)) ∧ 
(((decide ((0 : Int) ≤ p)) = true → (((decide (p ≤ (3 : Int))) = true → R (.ret (.tuple ⟨[(.int IntKind.i64 ((0 : Int))), (.int IntKind.i64 ((0 : Int))), (.int IntKind.i64 ((2 : Int)))]⟩))) ∧
((decide (p ≤ (3 : Int))) = false → R (.ret (.tuple ⟨[(.int IntKind.i64 ((0 : Int))), (.int IntKind.i64 ((0 : Int))), (.int IntKind.i64 ((1 : Int)))]⟩))))) ∧
((decide ((0 : Int) ≤ p)) = false → R (.ret (.tuple ⟨[(.int IntKind.i64 ((0 : Int))), (.int IntKind.i64 ((0 : Int))), (.int IntKind.i64 ((1 : Int)))]⟩))))))) := by kernel_rfl

theorem e13nk (p : Int) (k d : Nat) (g : Nat → Int) (R : ARes → Prop)  : (vx.call 13 [hN p, slV 1 k d] (retK R) (mdp (ints k g)) ((7, Hint.con ((N39 p k d g).when (ARes.ret (Value.bool false)))) :: (0, Hint.again) :: [(13, .split ([(3, .split ([]) ([]))]) ([]))])) =
(((ConOK Tryz.prog ((43 : Nat)) ((N39 p k d g).when (ARes.ret (Value.bool false)))) ∧ (Con.pre ((N39 p k d g).when (ARes.ret (Value.bool false))) ⟨⟨[(.int IntKind.i64 (p))], [⟨(k), (d)⟩]⟩, [(ints k g)]⟩) ∧ 
((((((2 : Nat) ≤ (2 : Nat))) ∧ (((.agg ⟨[(.int IntKind.i64 (p)), (.slice .none ((0 : Nat)) ((0 : Nat)))]⟩) : Value) = (.agg ⟨[(.int IntKind.i64 (p)), (.slice .none ((0 : Nat)) ((0 : Nat)))]⟩))) ∧ (True)) ∧ 
(((decide ((0 : Int) ≤ p)) = true → (((decide (p ≤ (3 : Int))) = true → R (.ret (.tuple ⟨[(.slice .none ((0 : Nat)) ((0 : Nat))), (.int IntKind.i64 ((2 : Int)))]⟩))) ∧
((decide (p ≤ (3 : Int))) = false → R (.ret (.tuple ⟨[(.slice .none ((0 : Nat)) ((0 : Nat))), (.int IntKind.i64 ((1 : Int)))]⟩))))) ∧
((decide ((0 : Int) ≤ p)) = false → R (.ret (.tuple ⟨[(.slice .none ((0 : Nat)) ((0 : Nat))), (.int IntKind.i64 ((1 : Int)))]⟩))))))) := by kernel_rfl

theorem e10zn (p : Int) (s : Bool) (c : Nat) (ms : List Value) (R : ARes → Prop)  : (vx.call 10 [hV p 0 c, nilS, .bool s] (retK R) (m1 ms) ([(30, .split ([(3, .split ([(53, .split ((7, Hint.again) :: (28, Hint.again) :: []) ((7, Hint.again) :: (28, Hint.again) :: []))]) ([]))]) ([]))])) =
((((decide ((0 : Int) ≤ p)) = true → (((decide (p ≤ (3 : Int))) = true → (((s) = true → ((((((2 : Nat) ≤ (2 : Nat))) ∧ (((.agg ⟨[(.int IntKind.i64 (p)), (.slice (.some ⟨((0 : Nat)), ((0 : Nat)), .none⟩) ((0 : Nat)) (c))]⟩) : Value) = (.agg ⟨[(.int IntKind.i64 (p)), (.slice (.some ⟨((0 : Nat)), ((0 : Nat)), .none⟩) ((0 : Nat)) (c))]⟩))) ∧ ((((some (.slice .none ((0 : Nat)) ((0 : Nat))) : Option Value) = some (.slice .none ((0 : Nat)) ((0 : Nat))))) ∧ (((((2 : Nat) ≤ (2 : Nat))) ∧ (((.agg ⟨[(.int IntKind.i64 (p)), (.slice (.some ⟨((0 : Nat)), ((0 : Nat)), .none⟩) ((0 : Nat)) (c))]⟩) : Value) = (.agg ⟨[(.int IntKind.i64 (p)), (.slice (.some ⟨((0 : Nat)), ((0 : Nat)), .none⟩) ((0 : Nat)) (c))]⟩))) ∧ (True)))) ∧ 
(((((some (.slice .none ((0 : Nat)) ((0 : Nat))) : Option Value) = some (.slice .none ((0 : Nat)) ((0 : Nat))))) ∧ (((((2 : Nat) ≤ (2 : Nat))) ∧ (((.agg ⟨[(.int IntKind.i64 (p)), (.slice (.some ⟨((0 : Nat)), ((0 : Nat)), .none⟩) ((0 : Nat)) (c))]⟩) : Value) = (.agg ⟨[(.int IntKind.i64 (p)), (.slice (.some ⟨((0 : Nat)), ((0 : Nat)), .none⟩) ((0 : Nat)) (c))]⟩))) ∧ (True))) ∧ 
R (.ret (.tuple ⟨[(.int IntKind.i64 ((0 : Int))), (.int IntKind.i64 ((0 : Int))), (.int IntKind.i64 ((4 : Int)))]⟩))))) ∧
((s) = false → ((((((2 : Nat) ≤ (2 : Nat))) ∧ (((.agg ⟨[(.int IntKind.i64 (p)), (.slice (.some ⟨((0 : Nat)), ((0 : Nat)), .none⟩) ((0 : Nat)) (c))]⟩) : Value) = (.agg ⟨[(.int IntKind.i64 (p)), (.slice (.some ⟨((0 : Nat)), ((0 : Nat)), .none⟩) ((0 : Nat)) (c))]⟩))) ∧ ((((some (.slice .none ((0 : Nat)) ((0 : Nat))) : Option Value) = some (.slice .none ((0 : Nat)) ((0 : Nat))))) ∧ (((((2 : Nat) ≤ (2 : Nat))) ∧ (((.agg ⟨[(.int IntKind.i64 (p)), (.slice (.some ⟨((0 : Nat)), ((0 : Nat)), .none⟩) ((0 : Nat)) (c))]⟩) : Value) = (.agg ⟨[(.int IntKind.i64 (p)), (.slice (.some ⟨((0 : Nat)), ((0 : Nat)), .none⟩) ((0 : Nat)) (c))]⟩))) ∧ (True)))) ∧ 
(((((some (.slice .none ((0 : Nat)) ((0 : Nat))) : Option Value) = some (.slice .none ((0 : Nat)) ((0 : Nat))))) ∧ (((((2 : Nat) ≤ (2 : Nat))) ∧ (((.agg ⟨[(.int IntKind.i64 (p)), (.slice (.some ⟨((0 : Nat)), ((0 : Nat)), .none⟩) ((0 : Nat)) (c))]⟩) : Value) = (.agg ⟨[(.int IntKind.i64 (p)), (.slice (.some ⟨((0 : Nat)), ((0 : Nat)), .none⟩) ((0 : Nat)) (c))]⟩))) ∧ (True))) ∧ 
R (.ret (.tuple ⟨[(.int IntKind.i64 ((0 : Int))), (.int IntKind.i64 ((0 : Int))), (.int IntKind.i64 ((4 : Int)))]⟩))))))) ∧
((decide (p ≤ (3 : Int))) = false → R (.ret (.tuple ⟨[(.int IntKind.i64 ((0 : Int))), (.int IntKind.i64 ((0 : Int))), (.int IntKind.i64 ((1 : Int)))]⟩))))) ∧
((decide ((0 : Int) ≤ p)) = false → R (.ret (.tuple ⟨[(.int IntKind.i64 ((0 : Int))), (.int IntKind.i64 ((0 : Int))), (.int IntKind.i64 ((1 : Int)))]⟩))))) := by kernel_rfl

theorem e11zn (p : Int) (s : Bool) (c : Nat) (ms : List Value) (R : ARes → Prop)  : (vx.call 11 [hV p 0 c, nilS, .bool s] (retK R) (m1 ms) ((25, Hint.again) :: [(13, .split ([(3, .split ([]) ([]))]) ([]))])) =
(((((((2 : Nat) ≤ (2 : Nat))) ∧ (((.agg ⟨[(.int IntKind.i64 (p)), (.slice (.some ⟨((0 : Nat)), ((0 : Nat)), .none⟩) ((0 : Nat)) (c))]⟩) : Value) = (.agg ⟨[(.int IntKind.i64 (p)), (.slice (.some ⟨((0 : Nat)), ((0 : Nat)), .none⟩) ((0 : Nat)) (c))]⟩))) ∧ (True)) ∧ 
(((decide ((0 : Int) ≤ p)) = true → (((decide (p ≤ (3 : Int))) = true → R (.ret (.tuple ⟨[(.int IntKind.i64 ((0 : Int))), (.int IntKind.i64 ((0 : Int))), (.int IntKind.i64 ((4 : Int)))]⟩))) ∧
((decide (p ≤ (3 : Int))) = false → R (.ret (.tuple ⟨[(.int IntKind.i64 ((0 : Int))), (.int IntKind.i64 ((0 : Int))), (.int IntKind.i64 ((1 : Int)))]⟩))))) ∧
((decide ((0 : Int) ≤ p)) = false → R (.ret (.tuple ⟨[(.int IntKind.i64 ((0 : Int))), (.int IntKind.i64 ((0 : Int))), (.int IntKind.i64 ((1 : Int)))]⟩)))))) := by kernel_rfl

theorem e12zn (p : Int) (c : Nat) (ms : List Value) (R : ARes → Prop)  : (vx.call 12 [hV p 0 c, nilS] (retK R) (m1 ms) ([(28, .split ([(3, .split ((135, Hint.again) :: []) ([]))]) ([]))])) =
((((decide ((0 : Int) ≤ p)) = true → (((decide (p ≤ (3 : Int))) = true → ((((((2 : Nat) ≤ (2 : Nat))) ∧ (((.agg ⟨[(.int IntKind.i64 (p)), (.slice (.some ⟨((0 : Nat)), ((0 : Nat)), .none⟩) ((0 : Nat)) (c))]⟩) : Value) = (.agg ⟨[(.int IntKind.i64 (p)), (.slice (.some ⟨((0 : Nat)), ((0 : Nat)), .none⟩) ((0 : Nat)) (c))]⟩))) ∧ (True)) ∧ 
R (.ret (.tuple ⟨[(.slice .none ((0 : Nat)) ((0 : Nat))), (.int IntKind.i64 ((0 : Int)))]⟩)))) ∧
((decide (p ≤ (3 : Int))) = false → R (.ret (.tuple ⟨[(.slice .none ((0 : Nat)) ((0 : Nat))), (.int IntKind.i64 ((1 : Int)))]⟩))))) ∧
((decide ((0 : Int) ≤ p)) = false → R (.ret (.tuple ⟨[(.slice .none ((0 : Nat)) ((0 : Nat))), (.int IntKind.i64 ((1 : Int)))]⟩))))) := by kernel_rfl

theorem e12z0 (p : Int) (c d : Nat) (ms ps : List Value) (R : ARes → Prop)  : (vx.call 12 [hV p 0 c, slV 1 0 d] (retK R) (m2 ms ps) ([(28, .split ([(3, .split ((135, Hint.again) :: []) ([]))]) ([]))])) =
((((decide ((0 : Int) ≤ p)) = true → (((decide (p ≤ (3 : Int))) = true → ((((((2 : Nat) ≤ (2 : Nat))) ∧ (((.agg ⟨[(.int IntKind.i64 (p)), (.slice (.some ⟨((0 : Nat)), ((0 : Nat)), .none⟩) ((0 : Nat)) (c))]⟩) : Value) = (.agg ⟨[(.int IntKind.i64 (p)), (.slice (.some ⟨((0 : Nat)), ((0 : Nat)), .none⟩) ((0 : Nat)) (c))]⟩))) ∧ (True)) ∧ 
R (.ret (.tuple ⟨[(.slice .none ((0 : Nat)) ((0 : Nat))), (.int IntKind.i64 ((0 : Int)))]⟩)))) ∧
((decide (p ≤ (3 : Int))) = false → R (.ret (.tuple ⟨[(.slice .none ((0 : Nat)) ((0 : Nat))), (.int IntKind.i64 ((1 : Int)))]⟩))))) ∧
((decide ((0 : Int) ≤ p)) = false → R (.ret (.tuple ⟨[(.slice .none ((0 : Nat)) ((0 : Nat))), (.int IntKind.i64 ((1 : Int)))]⟩))))) := by kernel_rfl

theorem e13zn (p : Int) (c : Nat) (ms : List Value) (R : ARes → Prop)  : (vx.call 13 [hV p 0 c, nilS] (retK R) (m1 ms) ((24, Hint.again) :: [(13, .split ([(3, .split ([]) ([]))]) ([]))])) =
(((((((2 : Nat) ≤ (2 : Nat))) ∧ (((.agg ⟨[(.int IntKind.i64 (p)), (.slice (.some ⟨((0 : Nat)), ((0 : Nat)), .none⟩) ((0 : Nat)) (c))]⟩) : Value) = (.agg ⟨[(.int IntKind.i64 (p)), (.slice (.some ⟨((0 : Nat)), ((0 : Nat)), .none⟩) ((0 : Nat)) (c))]⟩))) ∧ (True)) ∧ 
(((decide ((0 : Int) ≤ p)) = true → (((decide (p ≤ (3 : Int))) = true → R (.ret (.tuple ⟨[(.slice .none ((0 : Nat)) ((0 : Nat))), (.int IntKind.i64 ((0 : Int)))]⟩))) ∧
((decide (p ≤ (3 : Int))) = false → R (.ret (.tuple ⟨[(.slice .none ((0 : Nat)) ((0 : Nat))), (.int IntKind.i64 ((1 : Int)))]⟩))))) ∧
((decide ((0 : Int) ≤ p)) = false → R (.ret (.tuple ⟨[(.slice .none ((0 : Nat)) ((0 : Nat))), (.int IntKind.i64 ((1 : Int)))]⟩)))))) := by kernel_rfl

theorem e13z0 (p : Int) (c d : Nat) (ms ps : List Value) (R : ARes → Prop)  : (vx.call 13 [hV p 0 c, slV 1 0 d] (retK R) (m2 ms ps) ((24, Hint.again) :: [(13, .split ([(3, .split ([]) ([]))]) ([]))])) =
(((((((2 : Nat) ≤ (2 : Nat))) ∧ (((.agg ⟨[(.int IntKind.i64 (p)), (.slice (.some ⟨((0 : Nat)), ((0 : Nat)), .none⟩) ((0 : Nat)) (c))]⟩) : Value) = (.agg ⟨[(.int IntKind.i64 (p)), (.slice (.some ⟨((0 : Nat)), ((0 : Nat)), .none⟩) ((0 : Nat)) (c))]⟩))) ∧ (True)) ∧ 
(((decide ((0 : Int) ≤ p)) = true → (((decide (p ≤ (3 : Int))) = true → R (.ret (.tuple ⟨[(.slice .none ((0 : Nat)) ((0 : Nat))), (.int IntKind.i64 ((0 : Int)))]⟩))) ∧
((decide (p ≤ (3 : Int))) = false → R (.ret (.tuple ⟨[(.slice .none ((0 : Nat)) ((0 : Nat))), (.int IntKind.i64 ((1 : Int)))]⟩))))) ∧
((decide ((0 : Int) ≤ p)) = false → R (.ret (.tuple ⟨[(.slice .none ((0 : Nat)) ((0 : Nat))), (.int IntKind.i64 ((1 : Int)))]⟩)))))) := by kernel_rfl

def okp (p : Int) : Bool := decide (0 ≤ p) && decide (p ≤ 3)
def okm (m : Int) : Bool := decide (0 ≤ m) && decide (m ≤ 220)
def e04 (p : Int) : Int := if okp p then 4 else 1
theorem okH0 (p : Int) (f : Nat → Mv) : okH p 0 f = okp p := by
  simp only [okH, okp, allFrom]
  cases decide (0 ≤ p) <;> cases decide (p ≤ 3) <;> rfl
theorem no_at : Atoms ([] : List (List Value)) := fun cs hcs => by cases hcs
theorem N8_ok (p a b : Int) : ConOK Tryz.prog 8 (N8 p a b (.tuple ⟨[I 0, I (errI (okp p) false)]⟩)) := by
  refine con_of vx_sound ⟨⟨[I p, I a, I b], []⟩, []⟩ (fun x hx => ?_) rfl (fun _ _ => rfl) (fun x hx => by cases hx; exact no_at) rfl (Nat.le_of_ble_eq_true rfl) (by rw [nglob]; exact Nat.zero_le _)
  cases hx
  have key : ∀ R : ARes → Prop, (∀ e, errI (okp p) false = e → R (.ret (.tuple ⟨[I 0, I e]⟩))) → ∃ hs, vx.call 8 [hN p, I a, I b] (retK R) md hs := by
    intro R hR
    refine ⟨_, (e8n p a b R).mpr ?_⟩
    repeat' (first | with_reducible apply And.intro | with_reducible intro)
    all_goals first
      | trivial
      | omega
      | rfl
      | (simp; omega)
      | (simp only [show IntKind.i64.wrap (((0 : Nat) : Int) - 1) = -1 from rfl, Option.some.injEq, Value.bool.injEq, decide_eq_false_iff_not, decide_eq_true_eq] at *; omega)
      | (refine hR _ ?_; simp [okp, errI, *]; done)
  obtain ⟨hs, h⟩ := key (fun r => r = (N8 p a b (.tuple ⟨[I 0, I (errI (okp p) false)]⟩)).res ⟨⟨[I p, I a, I b], []⟩, []⟩) fun e he => by subst he; rfl
  exact ⟨hs, h⟩
theorem N9_ok (p a b : Int) : ConOK Tryz.prog 9 (N8 p a b (.tuple ⟨[I 0, I (errI (okp p) false)]⟩)) := by
  refine con_of vx_sound ⟨⟨[I p, I a, I b], []⟩, []⟩ (fun x hx => ?_) rfl (fun _ _ => rfl) (fun x hx => by cases hx; exact no_at) rfl (Nat.le_of_ble_eq_true rfl) (by rw [nglob]; exact Nat.zero_le _)
  cases hx
  have key : ∀ R : ARes → Prop, (∀ e, errI (okp p) false = e → R (.ret (.tuple ⟨[I 0, I e]⟩))) → ∃ hs, vx.call 9 [hN p, I a, I b] (retK R) md hs := by
    intro R hR
    refine ⟨_, (e9n p a b R).mpr ?_⟩
    repeat' (first | with_reducible apply And.intro | with_reducible intro)
    all_goals first
      | trivial
      | omega
      | rfl
      | (simp; omega)
      | (simp only [show IntKind.i64.wrap (((0 : Nat) : Int) - 1) = -1 from rfl, Option.some.injEq, Value.bool.injEq, decide_eq_false_iff_not, decide_eq_true_eq] at *; omega)
      | (refine hR _ ?_; simp [okp, errI, *]; done)
  obtain ⟨hs, h⟩ := key (fun r => r = (N8 p a b (.tuple ⟨[I 0, I (errI (okp p) false)]⟩)).res ⟨⟨[I p, I a, I b], []⟩, []⟩) fun e he => by subst he; rfl
  exact ⟨hs, h⟩
theorem N14_ok (p m : Int) : ConOK Tryz.prog 14 (N14 p m (.tuple ⟨[.agg ⟨[I 0, I 0]⟩, I (errI (okp p) (okm m))]⟩)) := by
  refine con_of vx_sound ⟨⟨[I p, I m], []⟩, []⟩ (fun x hx => ?_) rfl (fun _ _ => rfl) (fun x hx => by cases hx; exact no_at) rfl (Nat.le_of_ble_eq_true rfl) (by rw [nglob]; exact Nat.zero_le _)
  cases hx
  have key : ∀ R : ARes → Prop, (∀ e, errI (okp p) (okm m) = e → R (.ret (.tuple ⟨[.agg ⟨[I 0, I 0]⟩, I e]⟩))) → ∃ hs, vx.call 14 [hN p, I m] (retK R) md hs := by
    intro R hR
    refine ⟨_, (e14n p m R).mpr ?_⟩
    repeat' (first | with_reducible apply And.intro | with_reducible intro)
    all_goals first
      | trivial
      | omega
      | rfl
      | (simp; omega)
      | (refine hR _ ?_; simp [okp, okm, errI, *]; done)
  obtain ⟨hs, h⟩ := key (fun r => r = (N14 p m (.tuple ⟨[.agg ⟨[I 0, I 0]⟩, I (errI (okp p) (okm m))]⟩)).res ⟨⟨[I p, I m], []⟩, []⟩) fun e he => by subst he; rfl
  exact ⟨hs, h⟩
theorem N15_ok (p m : Int) : ConOK Tryz.prog 15 (N14 p m (.tuple ⟨[.agg ⟨[I 0, I 0]⟩, I (errI (okp p) (okm m))]⟩)) := by
  refine con_of vx_sound ⟨⟨[I p, I m], []⟩, []⟩ (fun x hx => ?_) rfl (fun _ _ => rfl) (fun x hx => by cases hx; exact no_at) rfl (Nat.le_of_ble_eq_true rfl) (by rw [nglob]; exact Nat.zero_le _)
  cases hx
  have key : ∀ R : ARes → Prop, (∀ e, errI (okp p) (okm m) = e → R (.ret (.tuple ⟨[.agg ⟨[I 0, I 0]⟩, I e]⟩))) → ∃ hs, vx.call 15 [hN p, I m] (retK R) md hs := by
    intro R hR
    refine ⟨_, (e15n p m R).mpr ?_⟩
    repeat' (first | with_reducible apply And.intro | with_reducible intro)
    all_goals first
      | trivial
      | omega
      | rfl
      | (simp; omega)
      | (refine hR _ ?_; simp [okp, okm, errI, *]; done)
  obtain ⟨hs, h⟩ := key (fun r => r = (N14 p m (.tuple ⟨[.agg ⟨[I 0, I 0]⟩, I (errI (okp p) (okm m))]⟩)).res ⟨⟨[I p, I m], []⟩, []⟩) fun e he => by subst he; rfl
  exact ⟨hs, h⟩
theorem N10_ok (s : Bool) (p : Int) : ConOK Tryz.prog 10 (N10 s p (e04 p)) := by
  refine con_of vx_sound ⟨⟨[I p, .bool s], []⟩, []⟩ (fun x hx => ?_) rfl (fun _ _ => rfl) (fun x hx => by cases hx; exact no_at) rfl (Nat.le_of_ble_eq_true rfl) (by rw [nglob]; exact Nat.zero_le _)
  cases hx
  have key : ∀ R : ARes → Prop, (∀ e, e04 p = e → R (.ret (.tuple ⟨[I 0, I 0, I e]⟩))) → ∃ hs, vx.call 10 [hN p, nilS, .bool s] (retK R) md hs := by
    intro R hR
    refine ⟨_, (e10nn p s R).mpr ?_⟩
    repeat' (first | with_reducible apply And.intro | with_reducible intro)
    all_goals first
      | trivial
      | omega
      | rfl
      | (simp; omega)
      | (refine hR _ ?_; simp [e04, okp, *]; done)
  obtain ⟨hs, h⟩ := key (fun r => r = (N10 s p (e04 p)).res ⟨⟨[I p, .bool s], []⟩, []⟩) fun e he => by subst he; rfl
  exact ⟨hs, h⟩
theorem M100_ok (s : Bool) (p : Int) (d : Nat) (g : Nat → Int) : ConOK Tryz.prog 10 (M10 s p 0 d (ints 0 g) (e04 p)) := by
  refine con_of vx_sound ⟨⟨[I p, .bool s], [(0, d)]⟩, [ints 0 g]⟩ (fun x hx => ?_) rfl (fun _ _ => rfl) (fun x hx => by cases hx; exact ints_atoms 0 g) rfl (Nat.le_of_ble_eq_true rfl) (by rw [nglob]; exact Nat.zero_le _)
  cases hx
  have key : ∀ R : ARes → Prop, (∀ e, e04 p = e → R (.ret (.tuple ⟨[I 0, I 0, I e]⟩))) → ∃ hs, vx.call 10 [hN p, slV 1 0 d, .bool s] (retK R) (mdp (ints 0 g)) hs := by
    intro R hR
    refine ⟨_, (e10n0 p s d (ints 0 g) R).mpr ?_⟩
    repeat' (first | with_reducible apply And.intro | with_reducible intro)
    all_goals first
      | trivial
      | omega
      | rfl
      | (simp; omega)
      | (refine hR _ ?_; simp [e04, okp, *]; done)
  obtain ⟨hs, h⟩ := key (fun r => r = (M10 s p 0 d (ints 0 g) (e04 p)).res ⟨⟨[I p, .bool s], [(0, d)]⟩, [ints 0 g]⟩) fun e he => by subst he; rfl
  exact ⟨hs, h⟩
theorem N11_ok (s : Bool) (p : Int) : ConOK Tryz.prog 11 (N10 s p (e04 p)) := by
  refine con_of vx_sound ⟨⟨[I p, .bool s], []⟩, []⟩ (fun x hx => ?_) rfl (fun _ _ => rfl) (fun x hx => by cases hx; exact no_at) rfl (Nat.le_of_ble_eq_true rfl) (by rw [nglob]; exact Nat.zero_le _)
  cases hx
  have key : ∀ R : ARes → Prop, (∀ e, e04 p = e → R (.ret (.tuple ⟨[I 0, I 0, I e]⟩))) → ∃ hs, vx.call 11 [hN p, nilS, .bool s] (retK R) md hs := by
    intro R hR
    refine ⟨_, (e11nn p s R).mpr ?_⟩
    repeat' (first | with_reducible apply And.intro | with_reducible intro)
    all_goals first
      | trivial
      | omega
      | rfl
      | (simp; omega)
      | (refine hR _ ?_; simp [e04, okp, *]; done)
  obtain ⟨hs, h⟩ := key (fun r => r = (N10 s p (e04 p)).res ⟨⟨[I p, .bool s], []⟩, []⟩) fun e he => by subst he; rfl
  exact ⟨hs, h⟩
theorem M110_ok (s : Bool) (p : Int) (d : Nat) (g : Nat → Int) : ConOK Tryz.prog 11 (M10 s p 0 d (ints 0 g) (e04 p)) := by
  refine con_of vx_sound ⟨⟨[I p, .bool s], [(0, d)]⟩, [ints 0 g]⟩ (fun x hx => ?_) rfl (fun _ _ => rfl) (fun x hx => by cases hx; exact ints_atoms 0 g) rfl (Nat.le_of_ble_eq_true rfl) (by rw [nglob]; exact Nat.zero_le _)
  cases hx
  have key : ∀ R : ARes → Prop, (∀ e, e04 p = e → R (.ret (.tuple ⟨[I 0, I 0, I e]⟩))) → ∃ hs, vx.call 11 [hN p, slV 1 0 d, .bool s] (retK R) (mdp (ints 0 g)) hs := by
    intro R hR
    refine ⟨_, (e11n0 p s d (ints 0 g) R).mpr ?_⟩
    repeat' (first | with_reducible apply And.intro | with_reducible intro)
    all_goals first
      | trivial
      | omega
      | rfl
      | (simp; omega)
      | (refine hR _ ?_; simp [e04, okp, *]; done)
  obtain ⟨hs, h⟩ := key (fun r => r = (M10 s p 0 d (ints 0 g) (e04 p)).res ⟨⟨[I p, .bool s], [(0, d)]⟩, [ints 0 g]⟩) fun e he => by subst he; rfl
  exact ⟨hs, h⟩
theorem N12_ok (p : Int) : ConOK Tryz.prog 12 (N12 p (errI (okp p) true)) := by
  refine con_of vx_sound ⟨⟨[I p], []⟩, []⟩ (fun x hx => ?_) rfl (fun _ _ => rfl) (fun x hx => by cases hx; exact no_at) rfl (Nat.le_of_ble_eq_true rfl) (by rw [nglob]; exact Nat.zero_le _)
  cases hx
  have key : ∀ R : ARes → Prop, (∀ e, errI (okp p) true = e → R (.ret (.tuple ⟨[nilS, I e]⟩))) → ∃ hs, vx.call 12 [hN p, nilS] (retK R) md hs := by
    intro R hR
    refine ⟨_, (e12nn p R).mpr ?_⟩
    repeat' (first | with_reducible apply And.intro | with_reducible intro)
    all_goals first
      | trivial
      | omega
      | rfl
      | (simp; omega)
      | (refine hR _ ?_; simp [okp, errI, *]; done)
  obtain ⟨hs, h⟩ := key (fun r => r = (N12 p (errI (okp p) true)).res ⟨⟨[I p], []⟩, []⟩) fun e he => by subst he; rfl
  exact ⟨hs, h⟩
theorem M120_ok (p : Int) (d : Nat) (g : Nat → Int) : ConOK Tryz.prog 12 (M12 p 0 d (ints 0 g) (errI (okp p) true)) := by
  refine con_of vx_sound ⟨⟨[I p], [(0, d)]⟩, [ints 0 g]⟩ (fun x hx => ?_) rfl (fun _ _ => rfl) (fun x hx => by cases hx; exact ints_atoms 0 g) rfl (Nat.le_of_ble_eq_true rfl) (by rw [nglob]; exact Nat.zero_le _)
  cases hx
  have key : ∀ R : ARes → Prop, (∀ e, errI (okp p) true = e → R (.ret (.tuple ⟨[nilS, I e]⟩))) → ∃ hs, vx.call 12 [hN p, slV 1 0 d] (retK R) (mdp (ints 0 g)) hs := by
    intro R hR
    refine ⟨_, (e12n0 p d (ints 0 g) R).mpr ?_⟩
    repeat' (first | with_reducible apply And.intro | with_reducible intro)
    all_goals first
      | trivial
      | omega
      | rfl
      | (simp; omega)
      | (refine hR _ ?_; simp [okp, errI, *]; done)
  obtain ⟨hs, h⟩ := key (fun r => r = (M12 p 0 d (ints 0 g) (errI (okp p) true)).res ⟨⟨[I p], [(0, d)]⟩, [ints 0 g]⟩) fun e he => by subst he; rfl
  exact ⟨hs, h⟩
theorem N13_ok (p : Int) : ConOK Tryz.prog 13 (N12 p (errI (okp p) true)) := by
  refine con_of vx_sound ⟨⟨[I p], []⟩, []⟩ (fun x hx => ?_) rfl (fun _ _ => rfl) (fun x hx => by cases hx; exact no_at) rfl (Nat.le_of_ble_eq_true rfl) (by rw [nglob]; exact Nat.zero_le _)
  cases hx
  have key : ∀ R : ARes → Prop, (∀ e, errI (okp p) true = e → R (.ret (.tuple ⟨[nilS, I e]⟩))) → ∃ hs, vx.call 13 [hN p, nilS] (retK R) md hs := by
    intro R hR
    refine ⟨_, (e13nn p R).mpr ?_⟩
    repeat' (first | with_reducible apply And.intro | with_reducible intro)
    all_goals first
      | trivial
      | omega
      | rfl
      | (simp; omega)
      | (refine hR _ ?_; simp [okp, errI, *]; done)
  obtain ⟨hs, h⟩ := key (fun r => r = (N12 p (errI (okp p) true)).res ⟨⟨[I p], []⟩, []⟩) fun e he => by subst he; rfl
  exact ⟨hs, h⟩
theorem M130_ok (p : Int) (d : Nat) (g : Nat → Int) : ConOK Tryz.prog 13 (M12 p 0 d (ints 0 g) (errI (okp p) true)) := by
  refine con_of vx_sound ⟨⟨[I p], [(0, d)]⟩, [ints 0 g]⟩ (fun x hx => ?_) rfl (fun _ _ => rfl) (fun x hx => by cases hx; exact ints_atoms 0 g) rfl (Nat.le_of_ble_eq_true rfl) (by rw [nglob]; exact Nat.zero_le _)
  cases hx
  have key : ∀ R : ARes → Prop, (∀ e, errI (okp p) true = e → R (.ret (.tuple ⟨[nilS, I e]⟩))) → ∃ hs, vx.call 13 [hN p, slV 1 0 d] (retK R) (mdp (ints 0 g)) hs := by
    intro R hR
    refine ⟨_, (e13n0 p d (ints 0 g) R).mpr ?_⟩
    repeat' (first | with_reducible apply And.intro | with_reducible intro)
    all_goals first
      | trivial
      | omega
      | rfl
      | (simp; omega)
      | (refine hR _ ?_; simp [okp, errI, *]; done)
  obtain ⟨hs, h⟩ := key (fun r => r = (M12 p 0 d (ints 0 g) (errI (okp p) true)).res ⟨⟨[I p], [(0, d)]⟩, [ints 0 g]⟩) fun e he => by subst he; rfl
  exact ⟨hs, h⟩
theorem M10k_ok (s : Bool) (p : Int) (k d : Nat) (g : Nat → Int) : ConOK Tryz.prog 10 (M10 s p (k + 1) d (ints (k + 1) g) (errI (okp p) false)) := by
  refine con_of vx_sound ⟨⟨[I p, .bool s], [(k + 1, d)]⟩, [ints (k + 1) g]⟩ (fun x hx => ?_) rfl (fun _ _ => rfl) (fun x hx => by cases hx; exact ints_atoms (k + 1) g) rfl (Nat.le_of_ble_eq_true rfl) (by rw [nglob]; exact Nat.zero_le _)
  cases hx
  have key : ∀ R : ARes → Prop, (∀ e, errI (okp p) false = e → R (.ret (.tuple ⟨[I 0, I 0, I e]⟩))) → ∃ hs, vx.call 10 [hN p, slV 1 (k + 1) d, .bool s] (retK R) (mdp (ints (k + 1) g)) hs := by
    intro R hR
    refine ⟨_, (e10nk p s k d g R).mpr ?_⟩
    repeat' (first | with_reducible apply And.intro | with_reducible intro)
    all_goals first
      | trivial
      | omega
      | rfl
      | (simp; omega)
      | (refine hR _ ?_; simp [okp, errI, *]; done)
  obtain ⟨hs, h⟩ := key (fun r => r = (M10 s p (k + 1) d (ints (k + 1) g) (errI (okp p) false)).res ⟨⟨[I p, .bool s], [(k + 1, d)]⟩, [ints (k + 1) g]⟩) fun e he => by subst he; rfl
  exact ⟨hs, h⟩
theorem M12k_ok (p : Int) (k d : Nat) (g : Nat → Int) : ConOK Tryz.prog 12 (M12 p (k + 1) d (ints (k + 1) g) (errI (okp p) false)) := by
  refine con_of vx_sound ⟨⟨[I p], [(k + 1, d)]⟩, [ints (k + 1) g]⟩ (fun x hx => ?_) rfl (fun _ _ => rfl) (fun x hx => by cases hx; exact ints_atoms (k + 1) g) rfl (Nat.le_of_ble_eq_true rfl) (by rw [nglob]; exact Nat.zero_le _)
  cases hx
  have key : ∀ R : ARes → Prop, (∀ e, errI (okp p) false = e → R (.ret (.tuple ⟨[nilS, I e]⟩))) → ∃ hs, vx.call 12 [hN p, slV 1 (k + 1) d] (retK R) (mdp (ints (k + 1) g)) hs := by
    intro R hR
    refine ⟨_, (e12nk p k d g R).mpr ?_⟩
    repeat' (first | with_reducible apply And.intro | with_reducible intro)
    all_goals first
      | trivial
      | omega
      | rfl
      | (simp; omega)
      | (refine hR _ ?_; simp [okp, errI, *]; done)
  obtain ⟨hs, h⟩ := key (fun r => r = (M12 p (k + 1) d (ints (k + 1) g) (errI (okp p) false)).res ⟨⟨[I p], [(k + 1, d)]⟩, [ints (k + 1) g]⟩) fun e he => by subst he; rfl
  exact ⟨hs, h⟩
noncomputable def h43n (p : Int) (k d : Nat) (g : Nat → Int) (i : Nat) : Hw := ⟨⟨[I i, I p], [(k, d)]⟩, [ints k g], []⟩
theorem loop43n (p : Int) (k d : Nat) (g : Nat → Int) (hk : k ≤ 1000000) :
    LoopOW Tryz.prog none p43z T43n (h43n p k d g 0) (if allFrom (fun i => okN (g i)) k 0 then ((.exit 0 : AExit), 0, h43n p k d g k) else o43z).1 (if allFrom (fun i => okN (g i)) k 0 then T43n else R43z) (if allFrom (fun i => okN (g i)) k 0 then ((.exit 0 : AExit), 0, h43n p k d g k) else o43z).2.2 := by
  have hr := runX_all (b := fun i => okN (g i)) (o := o43z) (z := (.exit 0, 0, h43n p k d g k)) k 0
  have := loop_untilW (P := Tryz.prog) (ro := none) (p := p43z) (Ts := [T43n, R43z]) (k := 3) (n := k) (st := fun i => (0, h43n p k d g i)) (e := .exit 0) (ex := fun i => if okN (g i) then none else some o43z) rfl vx_sound (by intro T hT; simp only [List.mem_cons, List.not_mem_nil, or_false] at hT; rcases hT with rfl | rfl <;> rfl) (by rw [nglob]; omega) ⟨by simp, trivial⟩ (fun i hi => cl1 (ints_atom k g))
    (fun i o hi ho => by
      by_cases h : okN (g i) = true
      · rw [if_pos h] at ho; cases ho
      · rw [if_neg h] at ho; cases ho; exact ⟨by simp [o43z], trivial, clL (fun cs h => by cases h)⟩)
    (fun i hi R h1 h2 => ?_) (fun R hR => ⟨T43n, _, rfl, (b43n p k k d (ints k g) g R).mpr ⟨fun h => absurd (of_decide_eq_true h) (by omega), fun _ => hR⟩⟩) (s := 0) (Nat.zero_le k) (T0 := T43n) (T1 := if allFrom (fun i => okN (g i)) k 0 then T43n else R43z) rfl (Nat.le_of_ble_eq_true rfl) (by decide) (by
      rw [Nat.sub_zero, hr]; split <;> rfl)
  · rw [Nat.sub_zero, hr] at this
    exact this
  · refine ⟨T43n, _, rfl, (b43n p i k d (ints k g) g R).mpr ⟨fun _ => ⟨⟨⟨by omega, by omega⟩, rfl⟩, ints_get g hi, ?_⟩, fun h => absurd hi (by simpa using h)⟩⟩
    have hw : IntKind.i64.wrap ((i : Int) + 1) = ((i + 1 : Nat) : Int) := wrapI (by omega) (by omega)
    rw [hw]
    have hN : okN (g i) = (decide (0 ≤ g i) && decide (g i ≤ 6)) := rfl
    refine ⟨fun a => ⟨fun b => h1 (by rw [hN, a, b]; rfl), fun b => h2 o43z (by rw [hN, a, b]; rfl)⟩, fun a => h2 o43z (by rw [hN, a]; rfl)⟩
theorem N39_ok (p : Int) (k d : Nat) (g : Nat → Int) (hk : k ≤ 1000000) : ConOK Tryz.prog 43 (N39 p k d g) := by
  refine con_of vx_sound ⟨⟨[I p], [(k, d)]⟩, [ints k g]⟩ (fun x hx => ?_) rfl (fun _ _ => rfl) (fun x hx => by cases hx; exact ints_atoms k g) rfl (Nat.le_of_ble_eq_true rfl) (by rw [nglob]; exact Nat.zero_le _)
  cases hx
  have hl := loop43n p k d g hk
  have hres : ∀ b, okP 0 k g = b → (ARes.ret (.bool b) = ((N39 p k d g).res ⟨⟨[I p], [(k, d)]⟩, [ints k g]⟩)) := fun b hb => by subst hb; rfl
  cases hb : allFrom (fun i => okN (g i)) k 0 with
  | true =>
    simp only [hb, if_true] at hl
    refine ⟨_, (f43nt p k d (ints k g) _).mpr ⟨cl1 (ints_atom k g), hl, fun h => hres _ ?_, fun h => hres _ ?_⟩⟩
    · simp only [okP, hb, Bool.and_true]
      show (!(!((k : Int) == ((0 : Nat) : Int)))) = true
      rw [h]; rfl
    · simp only [okP, hb, Bool.and_true]
      show (!(!((k : Int) == ((0 : Nat) : Int)))) = false
      rw [h]; rfl
  | false =>
    simp only [hb, Bool.false_eq_true, if_false] at hl
    exact ⟨_, (f43nf p k d (ints k g) _).mpr ⟨cl1 (ints_atom k g), hl, hres _ (by simp only [okP, hb, Bool.and_false])⟩⟩
theorem okP0k (k : Nat) (g : Nat → Int) : okP 0 (k + 1) g = false := by
  cases h : okP 0 (k + 1) g with
  | false => rfl
  | true => exact absurd (okP_len h) (by omega)
theorem M11k_ok (s : Bool) (p : Int) (k d : Nat) (g : Nat → Int) (hk : k + 1 ≤ 1000000) : ConOK Tryz.prog 11 (M10 s p (k + 1) d (ints (k + 1) g) (errI (okp p) false)) := by
  refine con_of vx_sound ⟨⟨[I p, .bool s], [(k + 1, d)]⟩, [ints (k + 1) g]⟩ (fun x hx => ?_) rfl (fun _ _ => rfl) (fun x hx => by cases hx; exact ints_atoms (k + 1) g) rfl (Nat.le_of_ble_eq_true rfl) (by rw [nglob]; exact Nat.zero_le _)
  cases hx
  have key : ∀ R : ARes → Prop, (∀ e, errI (okp p) false = e → R (.ret (.tuple ⟨[I 0, I 0, I e]⟩))) → ∃ hs, vx.call 11 [hN p, slV 1 (k + 1) d, .bool s] (retK R) (mdp (ints (k + 1) g)) hs := by
    intro R hR
    refine ⟨_, (e11nk p s (k + 1) d g R).mpr ?_⟩
    repeat' (first | with_reducible apply And.intro | with_reducible intro)
    all_goals first
      | exact con_when (N39_ok p (k + 1) d g hk) _
      | exact ⟨rfl, by show ARes.ret (.bool (okP 0 (k + 1) g)) = _; rw [okP0k]⟩
      | trivial
      | omega
      | rfl
      | (simp; omega)
      | (refine hR _ ?_; simp [okp, errI, *]; done)
  obtain ⟨hs, h⟩ := key (fun r => r = (M10 s p (k + 1) d (ints (k + 1) g) (errI (okp p) false)).res ⟨⟨[I p, .bool s], [(k + 1, d)]⟩, [ints (k + 1) g]⟩) fun e he => by subst he; rfl
  exact ⟨hs, h⟩
theorem M13k_ok (p : Int) (k d : Nat) (g : Nat → Int) (hk : k + 1 ≤ 1000000) : ConOK Tryz.prog 13 (M12 p (k + 1) d (ints (k + 1) g) (errI (okp p) false)) := by
  refine con_of vx_sound ⟨⟨[I p], [(k + 1, d)]⟩, [ints (k + 1) g]⟩ (fun x hx => ?_) rfl (fun _ _ => rfl) (fun x hx => by cases hx; exact ints_atoms (k + 1) g) rfl (Nat.le_of_ble_eq_true rfl) (by rw [nglob]; exact Nat.zero_le _)
  cases hx
  have key : ∀ R : ARes → Prop, (∀ e, errI (okp p) false = e → R (.ret (.tuple ⟨[nilS, I e]⟩))) → ∃ hs, vx.call 13 [hN p, slV 1 (k + 1) d] (retK R) (mdp (ints (k + 1) g)) hs := by
    intro R hR
    refine ⟨_, (e13nk p (k + 1) d g R).mpr ?_⟩
    repeat' (first | with_reducible apply And.intro | with_reducible intro)
    all_goals first
      | exact con_when (N39_ok p (k + 1) d g hk) _
      | exact ⟨rfl, by show ARes.ret (.bool (okP 0 (k + 1) g)) = _; rw [okP0k]⟩
      | trivial
      | omega
      | rfl
      | (simp; omega)
      | (refine hR _ ?_; simp [okp, errI, *]; done)
  obtain ⟨hs, h⟩ := key (fun r => r = (M12 p (k + 1) d (ints (k + 1) g) (errI (okp p) false)).res ⟨⟨[I p], [(k + 1, d)]⟩, [ints (k + 1) g]⟩) fun e he => by subst he; rfl
  exact ⟨hs, h⟩
theorem Z10n_ok (s : Bool) (p : Int) (c : Nat) (f : Nat → Mv) : ConOK Tryz.prog 10 (D16x s p 0 c f (e04 p)) := by
  refine con_of vx_sound ⟨⟨[I p, .bool s], [(0, c)]⟩, [mvs 0 f]⟩ (fun x hx => ?_) rfl (fun _ _ => rfl) (fun x hx => by cases hx; exact mvs_atoms 0 f) rfl (Nat.le_of_ble_eq_true rfl) (by rw [nglob]; exact Nat.zero_le _)
  cases hx
  have key : ∀ R : ARes → Prop, (∀ e, e04 p = e → R (.ret (.tuple ⟨[I 0, I 0, I e]⟩))) → ∃ hs, vx.call 10 [hV p 0 c, nilS, .bool s] (retK R) (m1 (mvs 0 f)) hs := by
    intro R hR
    refine ⟨_, (e10zn p s c (mvs 0 f) R).mpr ?_⟩
    repeat' (first | with_reducible apply And.intro | with_reducible intro)
    all_goals first
      | trivial
      | omega
      | rfl
      | (simp; omega)
      | (refine hR _ ?_; simp [e04, okp, *]; done)
  obtain ⟨hs, h⟩ := key (fun r => r = (D16x s p 0 c f (e04 p)).res ⟨⟨[I p, .bool s], [(0, c)]⟩, [mvs 0 f]⟩) fun e he => by subst he; rfl
  exact ⟨hs, h⟩
theorem Z11n_ok (s : Bool) (p : Int) (c : Nat) (f : Nat → Mv) : ConOK Tryz.prog 11 (D16x s p 0 c f (e04 p)) := by
  refine con_of vx_sound ⟨⟨[I p, .bool s], [(0, c)]⟩, [mvs 0 f]⟩ (fun x hx => ?_) rfl (fun _ _ => rfl) (fun x hx => by cases hx; exact mvs_atoms 0 f) rfl (Nat.le_of_ble_eq_true rfl) (by rw [nglob]; exact Nat.zero_le _)
  cases hx
  have key : ∀ R : ARes → Prop, (∀ e, e04 p = e → R (.ret (.tuple ⟨[I 0, I 0, I e]⟩))) → ∃ hs, vx.call 11 [hV p 0 c, nilS, .bool s] (retK R) (m1 (mvs 0 f)) hs := by
    intro R hR
    refine ⟨_, (e11zn p s c (mvs 0 f) R).mpr ?_⟩
    repeat' (first | with_reducible apply And.intro | with_reducible intro)
    all_goals first
      | trivial
      | omega
      | rfl
      | (simp; omega)
      | (refine hR _ ?_; simp [e04, okp, *]; done)
  obtain ⟨hs, h⟩ := key (fun r => r = (D16x s p 0 c f (e04 p)).res ⟨⟨[I p, .bool s], [(0, c)]⟩, [mvs 0 f]⟩) fun e he => by subst he; rfl
  exact ⟨hs, h⟩
theorem Z12n_ok (p : Int) (c : Nat) (f : Nat → Mv) : ConOK Tryz.prog 12 (D15x p 0 c f (errI (okp p) true)) := by
  refine con_of vx_sound ⟨⟨[I p], [(0, c)]⟩, [mvs 0 f]⟩ (fun x hx => ?_) rfl (fun _ _ => rfl) (fun x hx => by cases hx; exact mvs_atoms 0 f) rfl (Nat.le_of_ble_eq_true rfl) (by rw [nglob]; exact Nat.zero_le _)
  cases hx
  have key : ∀ R : ARes → Prop, (∀ e, errI (okp p) true = e → R (.ret (.tuple ⟨[nilS, I e]⟩))) → ∃ hs, vx.call 12 [hV p 0 c, nilS] (retK R) (m1 (mvs 0 f)) hs := by
    intro R hR
    refine ⟨_, (e12zn p c (mvs 0 f) R).mpr ?_⟩
    repeat' (first | with_reducible apply And.intro | with_reducible intro)
    all_goals first
      | trivial
      | omega
      | rfl
      | (simp; omega)
      | (refine hR _ ?_; simp [okp, errI, *]; done)
  obtain ⟨hs, h⟩ := key (fun r => r = (D15x p 0 c f (errI (okp p) true)).res ⟨⟨[I p], [(0, c)]⟩, [mvs 0 f]⟩) fun e he => by subst he; rfl
  exact ⟨hs, h⟩
theorem Z120_ok (p : Int) (c d : Nat) (f : Nat → Mv) (g : Nat → Int) (hp : okp p = true) : ConOK Tryz.prog 12 (C15x p 0 c 0 d f g 0) := by
  refine con_of vx_sound ⟨⟨[I p], [(0, c), (0, d)]⟩, [mvs 0 f, ints 0 g]⟩ (fun x hx => ?_) rfl (fun _ _ => rfl) (fun x hx => by cases hx; exact two_at) rfl (Nat.le_of_ble_eq_true rfl) (by rw [nglob]; exact Nat.zero_le _)
  cases hx
  have key : ∀ R : ARes → Prop, (∀ e, errI (okp p) true = e → R (.ret (.tuple ⟨[nilS, I e]⟩))) → ∃ hs, vx.call 12 [hV p 0 c, slV 1 0 d] (retK R) (m2 (mvs 0 f) (ints 0 g)) hs := by
    intro R hR
    refine ⟨_, (e12z0 p c d (mvs 0 f) (ints 0 g) R).mpr ?_⟩
    repeat' (first | with_reducible apply And.intro | with_reducible intro)
    all_goals first
      | trivial
      | omega
      | rfl
      | (simp; omega)
      | (refine hR _ ?_; simp [okp, errI, *]; done)
  obtain ⟨hs, h⟩ := key (fun r => r = (C15x p 0 c 0 d f g 0).res ⟨⟨[I p], [(0, c), (0, d)]⟩, [mvs 0 f, ints 0 g]⟩) fun e he => by rw [hp] at he; subst he; rfl
  exact ⟨hs, h⟩
theorem Z13n_ok (p : Int) (c : Nat) (f : Nat → Mv) : ConOK Tryz.prog 13 (D15x p 0 c f (errI (okp p) true)) := by
  refine con_of vx_sound ⟨⟨[I p], [(0, c)]⟩, [mvs 0 f]⟩ (fun x hx => ?_) rfl (fun _ _ => rfl) (fun x hx => by cases hx; exact mvs_atoms 0 f) rfl (Nat.le_of_ble_eq_true rfl) (by rw [nglob]; exact Nat.zero_le _)
  cases hx
  have key : ∀ R : ARes → Prop, (∀ e, errI (okp p) true = e → R (.ret (.tuple ⟨[nilS, I e]⟩))) → ∃ hs, vx.call 13 [hV p 0 c, nilS] (retK R) (m1 (mvs 0 f)) hs := by
    intro R hR
    refine ⟨_, (e13zn p c (mvs 0 f) R).mpr ?_⟩
    repeat' (first | with_reducible apply And.intro | with_reducible intro)
    all_goals first
      | trivial
      | omega
      | rfl
      | (simp; omega)
      | (refine hR _ ?_; simp [okp, errI, *]; done)
  obtain ⟨hs, h⟩ := key (fun r => r = (D15x p 0 c f (errI (okp p) true)).res ⟨⟨[I p], [(0, c)]⟩, [mvs 0 f]⟩) fun e he => by subst he; rfl
  exact ⟨hs, h⟩
theorem Z130_ok (p : Int) (c d : Nat) (f : Nat → Mv) (g : Nat → Int) (hp : okp p = true) : ConOK Tryz.prog 13 (C15x p 0 c 0 d f g 0) := by
  refine con_of vx_sound ⟨⟨[I p], [(0, c), (0, d)]⟩, [mvs 0 f, ints 0 g]⟩ (fun x hx => ?_) rfl (fun _ _ => rfl) (fun x hx => by cases hx; exact two_at) rfl (Nat.le_of_ble_eq_true rfl) (by rw [nglob]; exact Nat.zero_le _)
  cases hx
  have key : ∀ R : ARes → Prop, (∀ e, errI (okp p) true = e → R (.ret (.tuple ⟨[nilS, I e]⟩))) → ∃ hs, vx.call 13 [hV p 0 c, slV 1 0 d] (retK R) (m2 (mvs 0 f) (ints 0 g)) hs := by
    intro R hR
    refine ⟨_, (e13z0 p c d (mvs 0 f) (ints 0 g) R).mpr ?_⟩
    repeat' (first | with_reducible apply And.intro | with_reducible intro)
    all_goals first
      | trivial
      | omega
      | rfl
      | (simp; omega)
      | (refine hR _ ?_; simp [okp, errI, *]; done)
  obtain ⟨hs, h⟩ := key (fun r => r = (C15x p 0 c 0 d f g 0).res ⟨⟨[I p], [(0, c), (0, d)]⟩, [mvs 0 f, ints 0 g]⟩) fun e he => by rw [hp] at he; subst he; rfl
  exact ⟨hs, h⟩
end Go.Ab

/- the law, with no moves; too much of anything. -/
set_option maxRecDepth 100000
namespace Go.Ab
open Go Go.RowKit Go.Proofs
theorem l3nt (p a b m x1 x2 z w x5 x6 x7 : Int) (R : ARes → Prop)  : (vx.call 3 [hN p, nilS, I a, I b, I m, .bool true] (retK R) mdd ((20, Hint.con (N8 p a b (Value.tuple { toList := [I x1, I x2] }))) :: (8, Hint.con (N8 p a b (Value.tuple { toList := [I x1, I x2] }))) :: (8, Hint.con (N10 true p z)) :: (10, Hint.con (N10 true p z)) :: (9, Hint.con (N12 p w)) :: (7, Hint.con (N12 p w)) :: (7, Hint.con (N14 p m (Value.tuple { toList := [Value.agg { toList := [I x5, I x6] }, I x7] }))) :: (8, Hint.con (N14 p m (Value.tuple { toList := [Value.agg { toList := [I x5, I x6] }, I x7] }))) :: (8, .val (.bool true)) :: (3, .val (.bool true)) :: (14, .val (.bool true)) :: (24, .val (.bool true)) :: (4, .val (.bool true)) :: (4, .val (.bool true)) :: (2, Hint.con C12) :: [])) =
(((ConOK Tryz.prog ((8 : Nat)) (N8 p a b (Value.tuple { toList := [I x1, I x2] }))) ∧ (Con.pre (N8 p a b (Value.tuple { toList := [I x1, I x2] })) ⟨⟨[(.int IntKind.i64 (p)), (.int IntKind.i64 (a)), (.int IntKind.i64 (b))], []⟩, []⟩) ∧ 
((ConOK Tryz.prog ((9 : Nat)) (N8 p a b (Value.tuple { toList := [I x1, I x2] }))) ∧ (Con.pre (N8 p a b (Value.tuple { toList := [I x1, I x2] })) ⟨⟨[(.int IntKind.i64 (p)), (.int IntKind.i64 (a)), (.int IntKind.i64 (b))], []⟩, []⟩) ∧ 
((ConOK Tryz.prog ((10 : Nat)) (N10 true p z)) ∧ (Con.pre (N10 true p z) ⟨⟨[(.int IntKind.i64 (p)), (.bool true)], []⟩, []⟩) ∧ 
((ConOK Tryz.prog ((11 : Nat)) (N10 true p z)) ∧ (Con.pre (N10 true p z) ⟨⟨[(.int IntKind.i64 (p)), (.bool true)], []⟩, []⟩) ∧ 
((ConOK Tryz.prog ((12 : Nat)) (N12 p w)) ∧ (Con.pre (N12 p w) ⟨⟨[(.int IntKind.i64 (p))], []⟩, []⟩) ∧ 
((ConOK Tryz.prog ((13 : Nat)) (N12 p w)) ∧ (Con.pre (N12 p w) ⟨⟨[(.int IntKind.i64 (p))], []⟩, []⟩) ∧ 
((ConOK Tryz.prog ((14 : Nat)) (N14 p m (Value.tuple { toList := [Value.agg { toList := [I x5, I x6] }, I x7] }))) ∧ (Con.pre (N14 p m (Value.tuple { toList := [Value.agg { toList := [I x5, I x6] }, I x7] })) ⟨⟨[(.int IntKind.i64 (p)), (.int IntKind.i64 (m))], []⟩, []⟩) ∧ 
((ConOK Tryz.prog ((15 : Nat)) (N14 p m (Value.tuple { toList := [Value.agg { toList := [I x5, I x6] }, I x7] }))) ∧ (Con.pre (N14 p m (Value.tuple { toList := [Value.agg { toList := [I x5, I x6] }, I x7] })) ⟨⟨[(.int IntKind.i64 (p)), (.int IntKind.i64 (m))], []⟩, []⟩) ∧ 
((((some (.bool (x1 == x1)) : Option Value) = some (.bool true))) ∧
((((some (.bool (x2 == x2)) : Option Value) = some (.bool true))) ∧
((((some (.bool (z == z)) : Option Value) = some (.bool true))) ∧
((((some (.bool (w == w)) : Option Value) = some (.bool true))) ∧
((((some (.bool (x5 == x5 && (fun c => x6 == x6 && c) true)) : Option Value) = some (.bool true))) ∧
((((some (.bool (x7 == x7)) : Option Value) = some (.bool true))) ∧
((ConOK Tryz.prog ((7 : Nat)) (C12)) ∧ (Con.pre (C12) ⟨⟨[], []⟩, []⟩) ∧ 
R (.ret (.bool true)))))))))))))))))) := by kernel_rfl

theorem l3nf (p a b m x1 x2 z w x5 x6 x7 : Int) (R : ARes → Prop)  : (vx.call 3 [hN p, nilS, I a, I b, I m, .bool false] (retK R) mdd ((20, Hint.con (N8 p a b (Value.tuple { toList := [I x1, I x2] }))) :: (8, Hint.con (N8 p a b (Value.tuple { toList := [I x1, I x2] }))) :: (8, Hint.con (N10 false p z)) :: (10, Hint.con (N10 false p z)) :: (9, Hint.con (N12 p w)) :: (7, Hint.con (N12 p w)) :: (7, Hint.con (N14 p m (Value.tuple { toList := [Value.agg { toList := [I x5, I x6] }, I x7] }))) :: (8, Hint.con (N14 p m (Value.tuple { toList := [Value.agg { toList := [I x5, I x6] }, I x7] }))) :: (8, .val (.bool true)) :: (3, .val (.bool true)) :: (14, .val (.bool true)) :: (24, .val (.bool true)) :: (4, .val (.bool true)) :: (4, .val (.bool true)) :: (2, Hint.con C12) :: [])) =
(((ConOK Tryz.prog ((8 : Nat)) (N8 p a b (Value.tuple { toList := [I x1, I x2] }))) ∧ (Con.pre (N8 p a b (Value.tuple { toList := [I x1, I x2] })) ⟨⟨[(.int IntKind.i64 (p)), (.int IntKind.i64 (a)), (.int IntKind.i64 (b))], []⟩, []⟩) ∧ 
((ConOK Tryz.prog ((9 : Nat)) (N8 p a b (Value.tuple { toList := [I x1, I x2] }))) ∧ (Con.pre (N8 p a b (Value.tuple { toList := [I x1, I x2] })) ⟨⟨[(.int IntKind.i64 (p)), (.int IntKind.i64 (a)), (.int IntKind.i64 (b))], []⟩, []⟩) ∧ 
((ConOK Tryz.prog ((10 : Nat)) (N10 false p z)) ∧ (Con.pre (N10 false p z) ⟨⟨[(.int IntKind.i64 (p)), (.bool false)], []⟩, []⟩) ∧ 
((ConOK Tryz.prog ((11 : Nat)) (N10 false p z)) ∧ (Con.pre (N10 false p z) ⟨⟨[(.int IntKind.i64 (p)), (.bool false)], []⟩, []⟩) ∧ 
((ConOK Tryz.prog ((12 : Nat)) (N12 p w)) ∧ (Con.pre (N12 p w) ⟨⟨[(.int IntKind.i64 (p))], []⟩, []⟩) ∧ 
((ConOK Tryz.prog ((13 : Nat)) (N12 p w)) ∧ (Con.pre (N12 p w) ⟨⟨[(.int IntKind.i64 (p))], []⟩, []⟩) ∧ 
((ConOK Tryz.prog ((14 : Nat)) (N14 p m (Value.tuple { toList := [Value.agg { toList := [I x5, I x6] }, I x7] }))) ∧ (Con.pre (N14 p m (Value.tuple { toList := [Value.agg { toList := [I x5, I x6] }, I x7] })) ⟨⟨[(.int IntKind.i64 (p)), (.int IntKind.i64 (m))], []⟩, []⟩) ∧ 
((ConOK Tryz.prog ((15 : Nat)) (N14 p m (Value.tuple { toList := [Value.agg { toList := [I x5, I x6] }, I x7] }))) ∧ (Con.pre (N14 p m (Value.tuple { toList := [Value.agg { toList := [I x5, I x6] }, I x7] })) ⟨⟨[(.int IntKind.i64 (p)), (.int IntKind.i64 (m))], []⟩, []⟩) ∧ 
((((some (.bool (x1 == x1)) : Option Value) = some (.bool true))) ∧
((((some (.bool (x2 == x2)) : Option Value) = some (.bool true))) ∧
((((some (.bool (z == z)) : Option Value) = some (.bool true))) ∧
((((some (.bool (w == w)) : Option Value) = some (.bool true))) ∧
((((some (.bool (x5 == x5 && (fun c => x6 == x6 && c) true)) : Option Value) = some (.bool true))) ∧
((((some (.bool (x7 == x7)) : Option Value) = some (.bool true))) ∧
((ConOK Tryz.prog ((7 : Nat)) (C12)) ∧ (Con.pre (C12) ⟨⟨[], []⟩, []⟩) ∧ 
R (.ret (.bool true)))))))))))))))))) := by kernel_rfl

theorem l3mt (p a b m x1 x2 z w x5 x6 x7 : Int) (k d : Nat) (ps : List Value) (R : ARes → Prop)  : (vx.call 3 [hN p, slV 1 k d, I a, I b, I m, .bool true] (retK R) (mdp ps) ((14, .val (.bool false)) :: (5, Hint.con (N8 p a b (Value.tuple { toList := [I x1, I x2] }))) :: (8, Hint.con (N8 p a b (Value.tuple { toList := [I x1, I x2] }))) :: (8, Hint.con (M10 true p k d ps z)) :: (10, Hint.con (M10 true p k d ps z)) :: (9, Hint.con (M12 p k d ps w)) :: (7, Hint.con (M12 p k d ps w)) :: (7, Hint.con (N14 p m (Value.tuple { toList := [Value.agg { toList := [I x5, I x6] }, I x7] }))) :: (8, Hint.con (N14 p m (Value.tuple { toList := [Value.agg { toList := [I x5, I x6] }, I x7] }))) :: (8, .val (.bool true)) :: (3, .val (.bool true)) :: (14, .val (.bool true)) :: (24, .val (.bool true)) :: (4, .val (.bool true)) :: (4, .val (.bool true)) :: (2, Hint.con C12) :: [])) =
(((((some (.bool (decide ((if (↑k : Int) > (↑(0 : Nat) : Int) then (↑k : Int) else (↑(0 : Nat) : Int)) > (40 : Int)))) : Option Value) = some (.bool false))) ∧
((ConOK Tryz.prog ((8 : Nat)) (N8 p a b (Value.tuple { toList := [I x1, I x2] }))) ∧ (Con.pre (N8 p a b (Value.tuple { toList := [I x1, I x2] })) ⟨⟨[(.int IntKind.i64 (p)), (.int IntKind.i64 (a)), (.int IntKind.i64 (b))], []⟩, []⟩) ∧ 
((ConOK Tryz.prog ((9 : Nat)) (N8 p a b (Value.tuple { toList := [I x1, I x2] }))) ∧ (Con.pre (N8 p a b (Value.tuple { toList := [I x1, I x2] })) ⟨⟨[(.int IntKind.i64 (p)), (.int IntKind.i64 (a)), (.int IntKind.i64 (b))], []⟩, []⟩) ∧ 
((ConOK Tryz.prog ((10 : Nat)) (M10 true p k d ps z)) ∧ (Con.pre (M10 true p k d ps z) ⟨⟨[(.int IntKind.i64 (p)), (.bool true)], [⟨(k), (d)⟩]⟩, [(ps)]⟩) ∧ 
((ConOK Tryz.prog ((11 : Nat)) (M10 true p k d ps z)) ∧ (Con.pre (M10 true p k d ps z) ⟨⟨[(.int IntKind.i64 (p)), (.bool true)], [⟨(k), (d)⟩]⟩, [(ps)]⟩) ∧ 
((ConOK Tryz.prog ((12 : Nat)) (M12 p k d ps w)) ∧ (Con.pre (M12 p k d ps w) ⟨⟨[(.int IntKind.i64 (p))], [⟨(k), (d)⟩]⟩, [(ps)]⟩) ∧ 
((ConOK Tryz.prog ((13 : Nat)) (M12 p k d ps w)) ∧ (Con.pre (M12 p k d ps w) ⟨⟨[(.int IntKind.i64 (p))], [⟨(k), (d)⟩]⟩, [(ps)]⟩) ∧ 
((ConOK Tryz.prog ((14 : Nat)) (N14 p m (Value.tuple { toList := [Value.agg { toList := [I x5, I x6] }, I x7] }))) ∧ (Con.pre (N14 p m (Value.tuple { toList := [Value.agg { toList := [I x5, I x6] }, I x7] })) ⟨⟨[(.int IntKind.i64 (p)), (.int IntKind.i64 (m))], []⟩, []⟩) ∧ 
((ConOK Tryz.prog ((15 : Nat)) (N14 p m (Value.tuple { toList := [Value.agg { toList := [I x5, I x6] }, I x7] }))) ∧ (Con.pre (N14 p m (Value.tuple { toList := [Value.agg { toList := [I x5, I x6] }, I x7] })) ⟨⟨[(.int IntKind.i64 (p)), (.int IntKind.i64 (m))], []⟩, []⟩) ∧ 
((((some (.bool (x1 == x1)) : Option Value) = some (.bool true))) ∧
((((some (.bool (x2 == x2)) : Option Value) = some (.bool true))) ∧
((((some (.bool (z == z)) : Option Value) = some (.bool true))) ∧
((((some (.bool (w == w)) : Option Value) = some (.bool true))) ∧
((((some (.bool (x5 == x5 && (fun c => x6 == x6 && c) true)) : Option Value) = some (.bool true))) ∧
((((some (.bool (x7 == x7)) : Option Value) = some (.bool true))) ∧
((ConOK Tryz.prog ((7 : Nat)) (C12)) ∧ (Con.pre (C12) ⟨⟨[], []⟩, []⟩) ∧ 
R (.ret (.bool true))))))))))))))))))) := by kernel_rfl

theorem l3mf (p a b m x1 x2 z w x5 x6 x7 : Int) (k d : Nat) (ps : List Value) (R : ARes → Prop)  : (vx.call 3 [hN p, slV 1 k d, I a, I b, I m, .bool false] (retK R) (mdp ps) ((14, .val (.bool false)) :: (5, Hint.con (N8 p a b (Value.tuple { toList := [I x1, I x2] }))) :: (8, Hint.con (N8 p a b (Value.tuple { toList := [I x1, I x2] }))) :: (8, Hint.con (M10 false p k d ps z)) :: (10, Hint.con (M10 false p k d ps z)) :: (9, Hint.con (M12 p k d ps w)) :: (7, Hint.con (M12 p k d ps w)) :: (7, Hint.con (N14 p m (Value.tuple { toList := [Value.agg { toList := [I x5, I x6] }, I x7] }))) :: (8, Hint.con (N14 p m (Value.tuple { toList := [Value.agg { toList := [I x5, I x6] }, I x7] }))) :: (8, .val (.bool true)) :: (3, .val (.bool true)) :: (14, .val (.bool true)) :: (24, .val (.bool true)) :: (4, .val (.bool true)) :: (4, .val (.bool true)) :: (2, Hint.con C12) :: [])) =
(((((some (.bool (decide ((if (↑k : Int) > (↑(0 : Nat) : Int) then (↑k : Int) else (↑(0 : Nat) : Int)) > (40 : Int)))) : Option Value) = some (.bool false))) ∧
((ConOK Tryz.prog ((8 : Nat)) (N8 p a b (Value.tuple { toList := [I x1, I x2] }))) ∧ (Con.pre (N8 p a b (Value.tuple { toList := [I x1, I x2] })) ⟨⟨[(.int IntKind.i64 (p)), (.int IntKind.i64 (a)), (.int IntKind.i64 (b))], []⟩, []⟩) ∧ 
((ConOK Tryz.prog ((9 : Nat)) (N8 p a b (Value.tuple { toList := [I x1, I x2] }))) ∧ (Con.pre (N8 p a b (Value.tuple { toList := [I x1, I x2] })) ⟨⟨[(.int IntKind.i64 (p)), (.int IntKind.i64 (a)), (.int IntKind.i64 (b))], []⟩, []⟩) ∧ 
((ConOK Tryz.prog ((10 : Nat)) (M10 false p k d ps z)) ∧ (Con.pre (M10 false p k d ps z) ⟨⟨[(.int IntKind.i64 (p)), (.bool false)], [⟨(k), (d)⟩]⟩, [(ps)]⟩) ∧ 
((ConOK Tryz.prog ((11 : Nat)) (M10 false p k d ps z)) ∧ (Con.pre (M10 false p k d ps z) ⟨⟨[(.int IntKind.i64 (p)), (.bool false)], [⟨(k), (d)⟩]⟩, [(ps)]⟩) ∧ 
((ConOK Tryz.prog ((12 : Nat)) (M12 p k d ps w)) ∧ (Con.pre (M12 p k d ps w) ⟨⟨[(.int IntKind.i64 (p))], [⟨(k), (d)⟩]⟩, [(ps)]⟩) ∧ 
((ConOK Tryz.prog ((13 : Nat)) (M12 p k d ps w)) ∧ (Con.pre (M12 p k d ps w) ⟨⟨[(.int IntKind.i64 (p))], [⟨(k), (d)⟩]⟩, [(ps)]⟩) ∧ 
((ConOK Tryz.prog ((14 : Nat)) (N14 p m (Value.tuple { toList := [Value.agg { toList := [I x5, I x6] }, I x7] }))) ∧ (Con.pre (N14 p m (Value.tuple { toList := [Value.agg { toList := [I x5, I x6] }, I x7] })) ⟨⟨[(.int IntKind.i64 (p)), (.int IntKind.i64 (m))], []⟩, []⟩) ∧ 
((ConOK Tryz.prog ((15 : Nat)) (N14 p m (Value.tuple { toList := [Value.agg { toList := [I x5, I x6] }, I x7] }))) ∧ (Con.pre (N14 p m (Value.tuple { toList := [Value.agg { toList := [I x5, I x6] }, I x7] })) ⟨⟨[(.int IntKind.i64 (p)), (.int IntKind.i64 (m))], []⟩, []⟩) ∧ 
((((some (.bool (x1 == x1)) : Option Value) = some (.bool true))) ∧
((((some (.bool (x2 == x2)) : Option Value) = some (.bool true))) ∧
((((some (.bool (z == z)) : Option Value) = some (.bool true))) ∧
((((some (.bool (w == w)) : Option Value) = some (.bool true))) ∧
((((some (.bool (x5 == x5 && (fun c => x6 == x6 && c) true)) : Option Value) = some (.bool true))) ∧
((((some (.bool (x7 == x7)) : Option Value) = some (.bool true))) ∧
((ConOK Tryz.prog ((7 : Nat)) (C12)) ∧ (Con.pre (C12) ⟨⟨[], []⟩, []⟩) ∧ 
R (.ret (.bool true))))))))))))))))))) := by kernel_rfl

theorem l3x (p a b m : Int) (s : Bool) (n c k d : Nat) (ms ps : List Value) (R : ARes → Prop)  : (vx.call 3 [hV p n c, slV 1 k d, I a, I b, I m, .bool s] (retK R) (m2 ms ps) ((14, .val (.bool true)) :: (2, Hint.con C12) :: [])) =
(((((some (.bool (decide ((if (↑k : Int) > (↑n : Int) then (↑k : Int) else (↑n : Int)) > (40 : Int)))) : Option Value) = some (.bool true))) ∧
((ConOK Tryz.prog ((7 : Nat)) (C12)) ∧ (Con.pre (C12) ⟨⟨[], []⟩, []⟩) ∧ 
R (.ret (.bool true))))) := by kernel_rfl

theorem l3y (p a b m : Int) (s : Bool) (n c : Nat) (ms : List Value) (R : ARes → Prop)  : (vx.call 3 [hV p n c, nilS, I a, I b, I m, .bool s] (retK R) (m2n ms) ((14, .val (.bool true)) :: (2, Hint.con C12) :: [])) =
(((((some (.bool (decide ((if (↑(0 : Nat) : Int) > (↑n : Int) then (↑(0 : Nat) : Int) else (↑n : Int)) > (40 : Int)))) : Option Value) = some (.bool true))) ∧
((ConOK Tryz.prog ((7 : Nat)) (C12)) ∧ (Con.pre (C12) ⟨⟨[], []⟩, []⟩) ∧ 
R (.ret (.bool true))))) := by kernel_rfl

theorem l3w (p a b m : Int) (s : Bool) (k d : Nat) (ps : List Value) (R : ARes → Prop)  : (vx.call 3 [hN p, slV 1 k d, I a, I b, I m, .bool s] (retK R) (mdp ps) ((14, .val (.bool true)) :: (2, Hint.con C12) :: [])) =
(((((some (.bool (decide ((if (↑k : Int) > (↑(0 : Nat) : Int) then (↑k : Int) else (↑(0 : Nat) : Int)) > (40 : Int)))) : Option Value) = some (.bool true))) ∧
((ConOK Tryz.prog ((7 : Nat)) (C12)) ∧ (Con.pre (C12) ⟨⟨[], []⟩, []⟩) ∧ 
R (.ret (.bool true))))) := by kernel_rfl

theorem far_yes {x y : Nat} (h : 40 < x ∨ 40 < y) : decide ((if (x : Int) > (y : Int) then (x : Int) else (y : Int)) > (40 : Int)) = true := decide_eq_true (by split <;> omega)
theorem l3_slices_far (p a b m : Int) (s : Bool) (n c k d : Nat) (ms ps : List Value) (h : 40 < k ∨ 40 < n) :
    ∃ hs, vx.call 3 [hV p n c, slV 1 k d, I a, I b, I m, .bool s] (retK fun r => r = .ret (.bool true)) (m2 ms ps) hs := by
  have key : ∀ R : ARes → Prop, R (.ret (.bool true)) → ∃ hs, vx.call 3 [hV p n c, slV 1 k d, I a, I b, I m, .bool s] (retK R) (m2 ms ps) hs := by
    intro R hR
    refine ⟨_, (l3x p a b m s n c k d ms ps R).mpr ?_⟩
    rw [far_yes h]
    exact ⟨rfl, C12_ok, rfl, hR⟩
  exact key _ rfl
theorem l3_noplan_far (p a b m : Int) (s : Bool) (n c : Nat) (ms : List Value) (h : 40 < n) :
    ∃ hs, vx.call 3 [hV p n c, nilS, I a, I b, I m, .bool s] (retK fun r => r = .ret (.bool true)) (m2n ms) hs := by
  have key : ∀ R : ARes → Prop, R (.ret (.bool true)) → ∃ hs, vx.call 3 [hV p n c, nilS, I a, I b, I m, .bool s] (retK R) (m2n ms) hs := by
    intro R hR
    refine ⟨_, (l3y p a b m s n c ms R).mpr ?_⟩
    rw [far_yes (x := 0) (.inr h)]
    exact ⟨rfl, C12_ok, rfl, hR⟩
  exact key _ rfl
theorem l3_nomoves_far (p a b m : Int) (s : Bool) (k d : Nat) (ps : List Value) (h : 40 < k) :
    ∃ hs, vx.call 3 [hN p, slV 1 k d, I a, I b, I m, .bool s] (retK fun r => r = .ret (.bool true)) (mdp ps) hs := by
  have key : ∀ R : ARes → Prop, R (.ret (.bool true)) → ∃ hs, vx.call 3 [hN p, slV 1 k d, I a, I b, I m, .bool s] (retK R) (mdp ps) hs := by
    intro R hR
    refine ⟨_, (l3w p a b m s k d ps R).mpr ?_⟩
    rw [far_yes (y := 0) (.inl h)]
    exact ⟨rfl, C12_ok, rfl, hR⟩
  exact key _ rfl
theorem l3_nothing (p a b m : Int) (s : Bool) : ∃ hs, vx.call 3 [hN p, nilS, I a, I b, I m, .bool s] (retK fun r => r = .ret (.bool true)) mdd hs := by
  have key : ∀ R : ARes → Prop, R (.ret (.bool true)) → ∃ hs, vx.call 3 [hN p, nilS, I a, I b, I m, .bool s] (retK R) mdd hs := by
    intro R hR
    have q8 := N8_ok p a b
    have q9 := N9_ok p a b
    have q10 := N10_ok s p
    have q11 := N11_ok s p
    have q12 := N12_ok p
    have q13 := N13_ok p
    have q14 := N14_ok p m
    have q15 := N15_ok p m
    cases s with
    | true =>
      refine ⟨_, (l3nt p a b m 0 (errI (okp p) false) (e04 p) (errI (okp p) true) 0 0 (errI (okp p) (okm m)) R).mpr ?_⟩
      repeat' (first | with_reducible apply And.intro | with_reducible intro)
      all_goals first | exact q8 | exact q9 | exact q10 | exact q11 | exact q12 | exact q13 | exact q14 | exact q15 | exact C12_ok | exact hR | rfl | (simp; done)
    | false =>
      refine ⟨_, (l3nf p a b m 0 (errI (okp p) false) (e04 p) (errI (okp p) true) 0 0 (errI (okp p) (okm m)) R).mpr ?_⟩
      repeat' (first | with_reducible apply And.intro | with_reducible intro)
      all_goals first | exact q8 | exact q9 | exact q10 | exact q11 | exact q12 | exact q13 | exact q14 | exact q15 | exact C12_ok | exact hR | rfl | (simp; done)
  exact key _ rfl
theorem l3_nomoves (p a b m : Int) (s : Bool) (k d : Nat) (g : Nat → Int) (hk : k ≤ 40) : ∃ hs, vx.call 3 [hN p, slV 1 k d, I a, I b, I m, .bool s] (retK fun r => r = .ret (.bool true)) (mdp (ints k g)) hs := by
  have key : ∀ R : ARes → Prop, R (.ret (.bool true)) → ∃ hs, vx.call 3 [hN p, slV 1 k d, I a, I b, I m, .bool s] (retK R) (mdp (ints k g)) hs := by
    intro R hR
    have q8 := N8_ok p a b
    have q9 := N9_ok p a b
    have q14 := N14_ok p m
    have q15 := N15_ok p m
    have hf := far_no (y := 0) hk (Nat.zero_le _)
    have hE : ∃ z w, ConOK Tryz.prog 10 (M10 s p k d (ints k g) z) ∧ ConOK Tryz.prog 11 (M10 s p k d (ints k g) z) ∧ ConOK Tryz.prog 12 (M12 p k d (ints k g) w) ∧ ConOK Tryz.prog 13 (M12 p k d (ints k g) w) := by
      cases k with
      | zero => exact ⟨_, _, M100_ok s p d g, M110_ok s p d g, M120_ok p d g, M130_ok p d g⟩
      | succ k => exact ⟨_, _, M10k_ok s p k d g, M11k_ok s p k d g (by omega), M12k_ok p k d g, M13k_ok p k d g (by omega)⟩
    obtain ⟨z, w, q10, q11, q12, q13⟩ := hE
    cases s with
    | true =>
      refine ⟨_, (l3mt p a b m 0 (errI (okp p) false) z w 0 0 (errI (okp p) (okm m)) k d (ints k g) R).mpr ?_⟩
      rw [hf]
      repeat' (first | with_reducible apply And.intro | with_reducible intro)
      all_goals first | exact q8 | exact q9 | exact q10 | exact q11 | exact q12 | exact q13 | exact q14 | exact q15 | exact C12_ok | exact hR | rfl | (simp; done)
    | false =>
      refine ⟨_, (l3mf p a b m 0 (errI (okp p) false) z w 0 0 (errI (okp p) (okm m)) k d (ints k g) R).mpr ?_⟩
      rw [hf]
      repeat' (first | with_reducible apply And.intro | with_reducible intro)
      all_goals first | exact q8 | exact q9 | exact q10 | exact q11 | exact q12 | exact q13 | exact q14 | exact q15 | exact C12_ok | exact hR | rfl | (simp; done)
  exact key _ rfl
/-- Any horses in a slice, any plan in one. -/
theorem any_slices (p a b m : Int) (s : Bool) (n c k d : Nat) (f : Nat → Mv) (g : Nat → Int) :
    ∃ hs, vx.call 3 [hV p n c, slV 1 k d, I a, I b, I m, .bool s] (retK fun r => r = .ret (.bool true)) (m2 (mvs n f) (ints k g)) hs := by
  by_cases h : 40 < k ∨ 40 < n
  · exact l3_slices_far p a b m s n c k d _ _ h
  · refine l3_slices p a b m s n c k d f g (by omega) (by omega) fun h0 h1 h2 => ?_
    subst h0
    obtain rfl := okP_len h2
    rw [okH0] at h1
    exact ⟨Z120_ok p c d f g h1, Z130_ok p c d f g h1⟩
theorem any_noplan (p a b m : Int) (s : Bool) (n c : Nat) (f : Nat → Mv) :
    ∃ hs, vx.call 3 [hV p n c, nilS, I a, I b, I m, .bool s] (retK fun r => r = .ret (.bool true)) (m2n (mvs n f)) hs := by
  by_cases h : 40 < n
  · exact l3_noplan_far p a b m s n c _ h
  · by_cases h0 : 0 < n
    · exact l3_noplan_moves p a b m s n c f h0 (by omega)
    · obtain rfl : n = 0 := by omega
      exact l3_noplan p a b m s 0 c f (by omega) ⟨_, _, Z10n_ok s p c f, Z11n_ok s p c f, Z12n_ok p c f, Z13n_ok p c f⟩
theorem any_nomoves (p a b m : Int) (s : Bool) (k d : Nat) (g : Nat → Int) :
    ∃ hs, vx.call 3 [hN p, slV 1 k d, I a, I b, I m, .bool s] (retK fun r => r = .ret (.bool true)) (mdp (ints k g)) hs := by
  by_cases h : 40 < k
  · exact l3_nomoves_far p a b m s k d _ h
  · exact l3_nomoves p a b m s k d g (by omega)
end Go.Ab

/- no moves, no plan: slices of length 0, of which nothing is known. -/
set_option maxRecDepth 100000
namespace Go.Ab
open Go Go.RowKit Go.Proofs
noncomputable def KK (A : TL) (bs : List TB) (x0 : Hx) (v : Value) : Con := ⟨A, bs, fun x => x = x0, fun _ => .ret v⟩
/-- Slices of length 0 (moves; plan). -/
noncomputable def Q8 (p a b : Int) (c : Nat) (v : Value) : Con := KK (.agg (.hole (.slice 0 0 .nil)) (.hole (.hole .nil))) [.dead] ⟨⟨[I p, I a, I b], [(0, c)]⟩, []⟩ v
noncomputable def Q14 (p m : Int) (c : Nat) (v : Value) : Con := KK (.agg (.hole (.slice 0 0 .nil)) (.hole .nil)) [.dead] ⟨⟨[I p, I m], [(0, c)]⟩, []⟩ v
noncomputable def QA10 (s : Bool) (p : Int) (c : Nat) (e : Int) : Con := KK (.agg (.hole (.slice 0 0 .nil)) (.val nilS (.hole .nil))) [.dead] ⟨⟨[I p, .bool s], [(0, c)]⟩, []⟩ (.tuple ⟨[I 0, I 0, I e]⟩)
noncomputable def QA12 (p : Int) (c : Nat) (e : Int) : Con := KK (.agg (.hole (.slice 0 0 .nil)) (.val nilS .nil)) [.dead] ⟨⟨[I p], [(0, c)]⟩, []⟩ (.tuple ⟨[nilS, I e]⟩)
noncomputable def QB10 (s : Bool) (p : Int) (c d : Nat) (e : Int) : Con := KK (.agg (.hole (.slice 0 0 .nil)) (.slice 1 0 (.hole .nil))) [.dead, .dead] ⟨⟨[I p, .bool s], [(0, c), (0, d)]⟩, []⟩ (.tuple ⟨[I 0, I 0, I e]⟩)
noncomputable def QB12 (p : Int) (c d : Nat) (e : Int) : Con := KK (.agg (.hole (.slice 0 0 .nil)) (.slice 1 0 .nil)) [.dead, .dead] ⟨⟨[I p], [(0, c), (0, d)]⟩, []⟩ (.tuple ⟨[nilS, I e]⟩)
noncomputable def QC10 (s : Bool) (p : Int) (d : Nat) (e : Int) : Con := KK (.agg (.hole (.val nilS .nil)) (.slice 1 0 (.hole .nil))) [.dead, .dead] ⟨⟨[I p, .bool s], [(0, d)]⟩, []⟩ (.tuple ⟨[I 0, I 0, I e]⟩)
noncomputable def QC12 (p : Int) (d : Nat) (e : Int) : Con := KK (.agg (.hole (.val nilS .nil)) (.slice 1 0 .nil)) [.dead, .dead] ⟨⟨[I p], [(0, d)]⟩, []⟩ (.tuple ⟨[nilS, I e]⟩)
end Go.Ab

