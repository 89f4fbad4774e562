/- package surf: forms of the look whether a surf is valid, of any surf. -/
import Derived.Test.YtoelpblmhmhglaaDoorPE
import Derived.Test.YtoelpblmhmhglaaDoorPF
import Derived.Test.YtoelpblmhmhglaaDoorPJ
import Derived.Test.YtoelpblmhmhglaaDoorPK
set_option maxRecDepth 100000
namespace Go.Ab
open Go Go.RowKit Go.Proofs
noncomputable def T79aN : Tw := ⟨85, mkS 85 [(1, .ptr 5 0 .nil), (37, .hole .nil), (38, .hole .nil)], 6, [.dead, .dead, .list 1 .ro, .list 1 .ro, .dead, .cells SuTN 25 .var]⟩
noncomputable def h79N (rw st : Int) (n cw n2 cv : Nat) (ws vs : List Value) (i : Nat) : Hw := ⟨⟨[I n, I i, I rw, I st], [(n, cw), (n2, cv)]⟩, [ws, vs], []⟩
noncomputable def R79 : Tw := ⟨85, mkS 85 [(2, .hole .nil)], 6, [.dead, .dead, .dead, .dead, .dead, .dead]⟩
noncomputable def CWI (x a b : Int) (r : Bool) : Con where
 A := .hole (.hole (.hole .nil))
 bs := [.dead, .dead]
 pre y := y = ⟨⟨[I x, I a, I b], []⟩, []⟩
 res _ := .ret (.bool r)
noncomputable def CNA (lo hi most : Int) (r : Bool) : Con where
 A := .agg (.hole (.hole .nil)) (.hole .nil)
 bs := [.dead, .dead]
 pre y := y = ⟨⟨[I lo, I hi, I most], []⟩, []⟩
 res _ := .ret (.bool r)
end Go.Ab
set_option maxRecDepth 100000
namespace Go.Ab
open Go Go.RowKit Go.Proofs
end Go.Ab
set_option maxRecDepth 100000
namespace Go.Ab
open Go Go.RowKit Go.Proofs
noncomputable def mD5 : Mem := ⟨fillX [.dead, .dead, .dead, .dead, .dead] 0 .nil, 5⟩
noncomputable def CX (A : TL) (rw st : Int) (sl : List (Nat × Nat)) (r : Bool) : Con where
 A := A
 bs := [.dead, .dead, .dead, .dead, .dead]
 pre x := x = ⟨⟨[I rw, I st], sl⟩, []⟩
 res _ := .ret (.bool r)
end Go.Ab
set_option maxRecDepth 100000
namespace Go.Ab
open Go Go.RowKit Go.Proofs
end Go.Ab
set_option maxRecDepth 100000
namespace Go.Ab
open Go Go.RowKit Go.Proofs
end Go.Ab
set_option maxRecDepth 100000
namespace Go.Ab
open Go Go.RowKit Go.Proofs
def p9a : Loc := .l (.r (.l (.r (.r (.r (.r (.r (.top 9))))))))
noncomputable def T9n : Tw := ⟨347, mkS 347 [(1, .hole .nil), (3, .ptr 5 0 .nil), (7, .hole .nil), (8, .hole .nil), (9, .ptr 8 0 .nil), (66, .hole .nil), (67, .hole .nil)], 9, [.dead, .list 1 .ro, .list 1 .ro, .list 1 .ro, .list 1 .ro, .cells SuL 25 .var, .dead, .dead, .cells (.hole (.hole (.slice 2 0 (.slice 3 0 (.val (.slice none 0 0) .nil))))) 25 .var]⟩
noncomputable def T9l : Tw := ⟨347, mkS 347 [(1, .hole .nil), (3, .ptr 5 0 .nil), (7, .hole .nil), (8, .hole .nil), (9, .ptr 8 0 .nil), (66, .hole .nil), (67, .hole .nil)], 9, [.dead, .list 1 .ro, .list 1 .ro, .list 1 .ro, .list 1 .ro, .cells SuL 25 .var, .dead, .dead, .cells (.hole (.hole (.slice 2 0 (.slice 3 0 (.slice 9 0 .nil))))) 25 .var, .list 36 .row]⟩
noncomputable def h9n (rw st wh mz : Int) (n cw cv m cu : Nat) (tb ws vs us : List Value) : Hw := ⟨⟨[.int .u8 wh, I m, I mz, I m, I 0, I rw, I st, I rw, I st], [(n, cw), (n, cv), (m, cu), (n, cw), (n, cv)]⟩, [tb, ws, vs, us], []⟩
noncomputable def h9l (rw st wh mz : Int) (n cw cv m cu i c : Nat) (tb ws vs us us2 : List Value) : Hw := ⟨⟨[.int .u8 wh, I m, I mz, I m, I i, I rw, I st, I rw, I st], [(n, cw), (n, cv), (m, cu), (n, cw), (n, cv), (i, c)]⟩, [tb, ws, vs, us, us2], []⟩
def p9b : Loc := .l (.r (.l (.r (.r (.r (.r (.r (.r (.r (.r (.r (.r (.r (.top 9))))))))))))))
def p9c : Loc := .l (.r (.l (.r (.r (.r (.r (.r (.r (.r (.r (.r (.r (.r (.r (.r (.r (.top 9)))))))))))))))))
def p9d : Loc := .l (.r (.l (.r (.r (.r (.r (.r (.r (.r (.r (.r (.r (.r (.r (.r (.r (.r (.r (.r (.top 9))))))))))))))))))))
def p9e : Loc := .l (.r (.l (.r (.r (.r (.r (.r (.r (.r (.r (.r (.r (.r (.r (.r (.r (.r (.r (.r (.r (.top 9)))))))))))))))))))))
noncomputable def T9b : Tw := ⟨347, mkS 347 [(1, .hole .nil), (3, .ptr 5 0 .nil), (7, .hole .nil), (8, .hole .nil), (9, .ptr 8 0 .nil), (11, .slice 12 0 .nil), (12, .slice 13 0 .nil), (13, .slice 14 0 .nil), (131, .hole .nil), (132, .hole .nil)], 16, [.dead, .list 1 .ro, .list 1 .ro, .list 1 .ro, .list 1 .ro, .cells SuL 25 .var, .dead, .dead, .cells (.hole (.hole (.slice 2 0 (.slice 3 0 (.slice 9 0 .nil))))) 25 .var, .list 36 .row, .dead, .dead, .list 45 .row, .list 36 .row, .list 3 .row, .dead]⟩
noncomputable def h9b (rw st wh mz : Int) (n cw cv m cu : Nat) (tb ws vs us xs ls : List Value) (i : Nat) : Hw := ⟨⟨[.int .u8 wh, I m, I mz, I m, I i, I rw, I st, I rw, I st], [(n, n), (m, m), (m, m), (n, cw), (n, cv), (m, cu), (n, cw), (n, cv), (m, m)]⟩, [tb, ws, vs, us, xs, ws, us, ls], []⟩
abbrev jx (m : Nat) (i : Int) : Int := IntKind.i64.wrap (IntKind.i64.wrap ((m : Int) - 1) - i)
theorem jx_eq {m i : Nat} (h5 : m ≤ 5) (hi : i < m) : jx m i = ((m - 1 - i : Nat) : Int) := by
 unfold jx; rw [wrapI (x := (m : Int) - 1) (by omega) (by omega), wrapI (by omega) (by omega)]; omega
end Go.Ab
set_option maxRecDepth 100000
namespace Go.Ab
open Go Go.RowKit Go.Proofs
noncomputable def T9c : Tw := ⟨347, mkS 347 [(3, .ptr 5 0 .nil), (8, .hole .nil), (11, .slice 12 0 .nil), (12, .slice 13 0 .nil), (13, .slice 14 0 .nil), (45, .slice 22 0 .nil), (291, .hole .nil), (292, .hole .nil)], 23, [.dead, .list 1 .ro, .list 1 .ro, .list 1 .ro, .list 1 .ro, .cells SuL 25 .var, .dead, .dead, .dead, .dead, .dead, .dead, .list 45 .row, .list 36 .row, .list 3 .row, .dead, .dead, .dead, .dead, .dead, .dead, .dead, .list 3 .row]⟩
noncomputable def h9c (rw st mz : Int) (n cw cv m cu : Nat) (tb ws vs us ls ks : List Value) (i : Nat) : Hw := ⟨⟨[I mz, I m, I i, I rw, I st], [(n, n), (m, m), (m, m), (m, m), (n, cw), (n, cv), (m, cu)]⟩, [tb, ws, vs, us, ws, us, ls, ks], []⟩
def p30 : Loc := .l (.r (.l (.r (.r (.top 30)))))
noncomputable def T30 : Tw := ⟨26, mkS 26 [(0, .slice 2 0 .nil), (1, .slice 3 0 .nil), (5, .hole .nil)], 4, [.dead, .dead, .list 3 .ro, .list 3 .ro]⟩
noncomputable def h30 (n c d : Nat) (o : Nat → Int) (i : Nat) : Hw := ⟨⟨[I i], [(n, c), (n, d)]⟩, [ints n o, ints n o], []⟩
noncomputable def C30 (n c d : Nat) (o : Nat → Int) : Con where
 A := .slice 2 0 (.slice 3 0 .nil)
 bs := [.dead, .dead, .list 3 .ro, .list 3 .ro]
 pre x := x = ⟨⟨[], [(n, c), (n, d)]⟩, [ints n o, ints n o]⟩
 res _ := .ret (.bool true)
noncomputable def mL2 (a b : List Value) : Mem := ⟨fillX [.dead, .dead, .cells a 3 .ro, .cells b 3 .ro] 0 .nil, 4⟩
end Go.Ab
set_option maxRecDepth 100000
namespace Go.Ab
open Go Go.RowKit Go.Proofs
noncomputable def T9nn : Tw := ⟨347, mkS 347 [(1, .hole .nil), (3, .ptr 5 0 .nil), (7, .hole .nil), (8, .hole .nil), (9, .ptr 8 0 .nil), (66, .hole .nil), (67, .hole .nil)], 9, [.dead, .list 1 .ro, .dead, .dead, .list 1 .ro, .cells (.hole (.hole (.val nilS (.val nilS (.slice 4 0 .nil))))) 25 .var, .dead, .dead, .cells (.hole (.hole (.val nilS (.val nilS (.val (.slice none 0 0) .nil))))) 25 .var]⟩
noncomputable def T9ln : Tw := ⟨347, mkS 347 [(1, .hole .nil), (3, .ptr 5 0 .nil), (7, .hole .nil), (8, .hole .nil), (9, .ptr 8 0 .nil), (66, .hole .nil), (67, .hole .nil)], 9, [.dead, .list 1 .ro, .dead, .dead, .list 1 .ro, .cells (.hole (.hole (.val nilS (.val nilS (.slice 4 0 .nil))))) 25 .var, .dead, .dead, .cells (.hole (.hole (.val nilS (.val nilS (.slice 9 0 .nil))))) 25 .var, .list 36 .row]⟩
noncomputable def h9nn (rw st wh mz : Int) (c1 m cu : Nat) (tb us : List Value) : Hw := ⟨⟨[.int .u8 wh, I m, I mz, I m, I 0, I rw, I st, I rw, I st], [(m, cu)]⟩, [tb, us], []⟩
noncomputable def h9ln (rw st wh mz : Int) (c1 m cu i c : Nat) (tb us us2 : List Value) : Hw := ⟨⟨[.int .u8 wh, I m, I mz, I m, I i, I rw, I st, I rw, I st], [(m, cu), (i, c)]⟩, [tb, us, us2], []⟩
noncomputable def T9nv : Tw := ⟨347, mkS 347 [(1, .hole .nil), (3, .ptr 5 0 .nil), (7, .hole .nil), (8, .hole .nil), (9, .ptr 8 0 .nil), (66, .hole .nil), (67, .hole .nil)], 9, [.dead, .list 1 .ro, .dead, .dead, .list 1 .ro, .cells (.hole (.hole (.val nilS (.slice 3 0 (.slice 4 0 .nil))))) 25 .var, .dead, .dead, .cells (.hole (.hole (.val nilS (.slice 3 0 (.val (.slice none 0 0) .nil))))) 25 .var]⟩
noncomputable def T9lv : Tw := ⟨347, mkS 347 [(1, .hole .nil), (3, .ptr 5 0 .nil), (7, .hole .nil), (8, .hole .nil), (9, .ptr 8 0 .nil), (66, .hole .nil), (67, .hole .nil)], 9, [.dead, .list 1 .ro, .dead, .dead, .list 1 .ro, .cells (.hole (.hole (.val nilS (.slice 3 0 (.slice 4 0 .nil))))) 25 .var, .dead, .dead, .cells (.hole (.hole (.val nilS (.slice 3 0 (.slice 9 0 .nil))))) 25 .var, .list 36 .row]⟩
noncomputable def h9nv (rw st wh mz : Int) (c1 m cu : Nat) (tb us : List Value) : Hw := ⟨⟨[.int .u8 wh, I m, I mz, I m, I 0, I rw, I st, I rw, I st], [(0, c1), (m, cu), (0, c1)]⟩, [tb, us], []⟩
noncomputable def h9lv (rw st wh mz : Int) (c1 m cu i c : Nat) (tb us us2 : List Value) : Hw := ⟨⟨[.int .u8 wh, I m, I mz, I m, I i, I rw, I st, I rw, I st], [(0, c1), (m, cu), (0, c1), (i, c)]⟩, [tb, us, us2], []⟩
noncomputable def T9nw : Tw := ⟨347, mkS 347 [(1, .hole .nil), (3, .ptr 5 0 .nil), (7, .hole .nil), (8, .hole .nil), (9, .ptr 8 0 .nil), (66, .hole .nil), (67, .hole .nil)], 9, [.dead, .list 1 .ro, .dead, .dead, .list 1 .ro, .cells (.hole (.hole (.slice 2 0 (.val nilS (.slice 4 0 .nil))))) 25 .var, .dead, .dead, .cells (.hole (.hole (.slice 2 0 (.val nilS (.val (.slice none 0 0) .nil))))) 25 .var]⟩
noncomputable def T9lw : Tw := ⟨347, mkS 347 [(1, .hole .nil), (3, .ptr 5 0 .nil), (7, .hole .nil), (8, .hole .nil), (9, .ptr 8 0 .nil), (66, .hole .nil), (67, .hole .nil)], 9, [.dead, .list 1 .ro, .dead, .dead, .list 1 .ro, .cells (.hole (.hole (.slice 2 0 (.val nilS (.slice 4 0 .nil))))) 25 .var, .dead, .dead, .cells (.hole (.hole (.slice 2 0 (.val nilS (.slice 9 0 .nil))))) 25 .var, .list 36 .row]⟩
noncomputable def h9nw (rw st wh mz : Int) (c1 m cu : Nat) (tb us : List Value) : Hw := ⟨⟨[.int .u8 wh, I m, I mz, I m, I 0, I rw, I st, I rw, I st], [(0, c1), (m, cu), (0, c1)]⟩, [tb, us], []⟩
noncomputable def h9lw (rw st wh mz : Int) (c1 m cu i c : Nat) (tb us us2 : List Value) : Hw := ⟨⟨[.int .u8 wh, I m, I mz, I m, I i, I rw, I st, I rw, I st], [(0, c1), (m, cu), (0, c1), (i, c)]⟩, [tb, us, us2], []⟩
noncomputable def T9d : Tw := ⟨347, mkS 347 [(3, .ptr 5 0 .nil), (11, .slice 12 0 .nil), (12, .slice 13 0 .nil), (315, .hole .nil), (316, .hole .nil)], 24, [.dead, .list 1 .ro, .list 1 .ro, .list 1 .ro, .list 1 .ro, .cells (.hole (.hole (.slice 2 0 (.slice 3 0 (.slice 4 0 .nil))))) 25 .var, .dead, .dead, .dead, .dead, .dead, .dead, .list 45 .row, .list 36 .row, .dead, .dead, .dead, .dead, .dead, .dead, .dead, .dead, .dead, .dead]⟩
noncomputable def h9d (rw st : Int) (n cw cv m cu : Nat) (tb ws vs us : List Value) (i : Nat) : Hw := ⟨⟨[I n, I i, I rw, I st], [(n, n), (m, m), (n, cw), (n, cv), (m, cu)]⟩, [tb, ws, vs, us, ws, us], []⟩
noncomputable def T9e : Tw := ⟨347, mkS 347 [(3, .ptr 5 0 .nil), (12, .slice 13 0 .nil), (331, .hole .nil), (332, .hole .nil)], 24, [.dead, .list 1 .ro, .list 1 .ro, .list 1 .ro, .list 1 .ro, .cells (.hole (.hole (.slice 2 0 (.slice 3 0 (.slice 4 0 .nil))))) 25 .var, .dead, .dead, .dead, .dead, .dead, .dead, .dead, .list 36 .row, .dead, .dead, .dead, .dead, .dead, .dead, .dead, .dead, .dead, .dead]⟩
noncomputable def h9e (rw st : Int) (n cw cv m cu : Nat) (tb ws vs us : List Value) (i : Nat) : Hw := ⟨⟨[I m, I i, I rw, I st], [(m, m), (n, cw), (n, cv), (m, cu)]⟩, [tb, ws, vs, us, us], []⟩
noncomputable def T9bz : Tw := ⟨347, mkS 347 [(1, .hole .nil), (3, .ptr 5 0 .nil), (7, .hole .nil), (8, .hole .nil), (9, .ptr 8 0 .nil), (11, .slice 10 0 .nil), (12, .slice 12 0 .nil), (13, .slice 13 0 .nil), (131, .hole .nil), (132, .hole .nil)], 15, [.dead, .list 1 .ro, .list 1 .ro, .list 1 .ro, .list 1 .ro, .cells (.hole (.hole (.slice 2 0 (.slice 3 0 (.slice 4 0 .nil))))) 25 .var, .dead, .dead, .cells (.hole (.hole (.slice 2 0 (.slice 3 0 (.slice 9 0 .nil))))) 25 .var, .list 36 .row, .dead, .dead, .list 36 .row, .list 3 .row, .dead]⟩
noncomputable def h9bz (rw st wh mz : Int) (cw cv m cu : Nat) (tb ws vs us xs ls : List Value) (i : Nat) : Hw := ⟨⟨[.int .u8 wh, I m, I mz, I m, I i, I rw, I st, I rw, I st], [(0, 0), (m, m), (m, m), (0, cw), (0, cv), (m, cu), (0, cw), (0, cv), (m, m)]⟩, [tb, ws, vs, us, xs, us, ls], []⟩
noncomputable def T9cz : Tw := ⟨347, mkS 347 [(3, .ptr 5 0 .nil), (8, .hole .nil), (11, .slice 10 0 .nil), (12, .slice 12 0 .nil), (13, .slice 13 0 .nil), (45, .slice 21 0 .nil), (291, .hole .nil), (292, .hole .nil)], 22, [.dead, .list 1 .ro, .list 1 .ro, .list 1 .ro, .list 1 .ro, .cells (.hole (.hole (.slice 2 0 (.slice 3 0 (.slice 4 0 .nil))))) 25 .var, .dead, .dead, .dead, .dead, .dead, .dead, .list 36 .row, .list 3 .row, .dead, .dead, .dead, .dead, .dead, .dead, .dead, .list 3 .row]⟩
noncomputable def h9cz (rw st mz : Int) (cw cv m cu : Nat) (tb ws vs us ls ks : List Value) (i : Nat) : Hw := ⟨⟨[I mz, I m, I i, I rw, I st], [(0, 0), (m, m), (m, m), (m, m), (0, cw), (0, cv), (m, cu)]⟩, [tb, ws, vs, us, us, ls, ks], []⟩
noncomputable def T9ez : Tw := ⟨347, mkS 347 [(3, .ptr 5 0 .nil), (12, .slice 12 0 .nil), (331, .hole .nil), (332, .hole .nil)], 23, [.dead, .list 1 .ro, .list 1 .ro, .list 1 .ro, .list 1 .ro, .cells (.hole (.hole (.slice 2 0 (.slice 3 0 (.slice 4 0 .nil))))) 25 .var, .dead, .dead, .dead, .dead, .dead, .dead, .list 36 .row, .dead, .dead, .dead, .dead, .dead, .dead, .dead, .dead, .dead, .dead]⟩
noncomputable def h9ez (rw st : Int) (cw cv m cu : Nat) (tb ws vs us : List Value) (i : Nat) : Hw := ⟨⟨[I m, I i, I rw, I st], [(m, m), (0, cw), (0, cv), (m, cu)]⟩, [tb, ws, vs, us, us], []⟩
noncomputable def T9bn : Tw := ⟨347, mkS 347 [(1, .hole .nil), (3, .ptr 5 0 .nil), (7, .hole .nil), (8, .hole .nil), (9, .ptr 8 0 .nil), (11, .slice 10 0 .nil), (12, .slice 12 0 .nil), (13, .slice 13 0 .nil), (131, .hole .nil), (132, .hole .nil)], 15, [.dead, .list 1 .ro, .dead, .dead, .list 1 .ro, .cells (.hole (.hole (.val nilS (.val nilS (.slice 4 0 .nil))))) 25 .var, .dead, .dead, .cells (.hole (.hole (.val nilS (.val nilS (.slice 9 0 .nil))))) 25 .var, .list 36 .row, .dead, .dead, .list 36 .row, .list 3 .row, .dead]⟩
noncomputable def h9bn (rw st wh mz : Int) (c1 m cu : Nat) (tb us xs ls : List Value) (i : Nat) : Hw := ⟨⟨[.int .u8 wh, I m, I mz, I m, I i, I rw, I st, I rw, I st], [(0, 0), (m, m), (m, m), (m, cu), (m, m)]⟩, [tb, us, xs, us, ls], []⟩
noncomputable def T9cn : Tw := ⟨347, mkS 347 [(3, .ptr 5 0 .nil), (8, .hole .nil), (11, .slice 10 0 .nil), (12, .slice 12 0 .nil), (13, .slice 13 0 .nil), (45, .slice 21 0 .nil), (291, .hole .nil), (292, .hole .nil)], 22, [.dead, .list 1 .ro, .dead, .dead, .list 1 .ro, .cells (.hole (.hole (.val nilS (.val nilS (.slice 4 0 .nil))))) 25 .var, .dead, .dead, .dead, .dead, .dead, .dead, .list 36 .row, .list 3 .row, .dead, .dead, .dead, .dead, .dead, .dead, .dead, .list 3 .row]⟩
noncomputable def h9cn (rw st mz : Int) (c1 m cu : Nat) (tb us ls ks : List Value) (i : Nat) : Hw := ⟨⟨[I mz, I m, I i, I rw, I st], [(0, 0), (m, m), (m, m), (m, m), (m, cu)]⟩, [tb, us, us, ls, ks], []⟩
noncomputable def T9en : Tw := ⟨347, mkS 347 [(3, .ptr 5 0 .nil), (12, .slice 12 0 .nil), (331, .hole .nil), (332, .hole .nil)], 23, [.dead, .list 1 .ro, .dead, .dead, .list 1 .ro, .cells (.hole (.hole (.val nilS (.val nilS (.slice 4 0 .nil))))) 25 .var, .dead, .dead, .dead, .dead, .dead, .dead, .list 36 .row, .dead, .dead, .dead, .dead, .dead, .dead, .dead, .dead, .dead, .dead]⟩
noncomputable def h9en (rw st : Int) (c1 m cu : Nat) (tb us : List Value) (i : Nat) : Hw := ⟨⟨[I m, I i, I rw, I st], [(m, m), (m, cu)]⟩, [tb, us, us], []⟩
noncomputable def T9bv : Tw := ⟨347, mkS 347 [(1, .hole .nil), (3, .ptr 5 0 .nil), (7, .hole .nil), (8, .hole .nil), (9, .ptr 8 0 .nil), (11, .slice 10 0 .nil), (12, .slice 12 0 .nil), (13, .slice 13 0 .nil), (131, .hole .nil), (132, .hole .nil)], 15, [.dead, .list 1 .ro, .dead, .dead, .list 1 .ro, .cells (.hole (.hole (.val nilS (.slice 3 0 (.slice 4 0 .nil))))) 25 .var, .dead, .dead, .cells (.hole (.hole (.val nilS (.slice 3 0 (.slice 9 0 .nil))))) 25 .var, .list 36 .row, .dead, .dead, .list 36 .row, .list 3 .row, .dead]⟩
noncomputable def h9bv (rw st wh mz : Int) (c1 m cu : Nat) (tb us xs ls : List Value) (i : Nat) : Hw := ⟨⟨[.int .u8 wh, I m, I mz, I m, I i, I rw, I st, I rw, I st], [(0, 0), (m, m), (m, m), (0, c1), (m, cu), (0, c1), (m, m)]⟩, [tb, us, xs, us, ls], []⟩
noncomputable def T9cv : Tw := ⟨347, mkS 347 [(3, .ptr 5 0 .nil), (8, .hole .nil), (11, .slice 10 0 .nil), (12, .slice 12 0 .nil), (13, .slice 13 0 .nil), (45, .slice 21 0 .nil), (291, .hole .nil), (292, .hole .nil)], 22, [.dead, .list 1 .ro, .dead, .dead, .list 1 .ro, .cells (.hole (.hole (.val nilS (.slice 3 0 (.slice 4 0 .nil))))) 25 .var, .dead, .dead, .dead, .dead, .dead, .dead, .list 36 .row, .list 3 .row, .dead, .dead, .dead, .dead, .dead, .dead, .dead, .list 3 .row]⟩
noncomputable def h9cv (rw st mz : Int) (c1 m cu : Nat) (tb us ls ks : List Value) (i : Nat) : Hw := ⟨⟨[I mz, I m, I i, I rw, I st], [(0, 0), (m, m), (m, m), (m, m), (0, c1), (m, cu)]⟩, [tb, us, us, ls, ks], []⟩
noncomputable def T9ev : Tw := ⟨347, mkS 347 [(3, .ptr 5 0 .nil), (12, .slice 12 0 .nil), (331, .hole .nil), (332, .hole .nil)], 23, [.dead, .list 1 .ro, .dead, .dead, .list 1 .ro, .cells (.hole (.hole (.val nilS (.slice 3 0 (.slice 4 0 .nil))))) 25 .var, .dead, .dead, .dead, .dead, .dead, .dead, .list 36 .row, .dead, .dead, .dead, .dead, .dead, .dead, .dead, .dead, .dead, .dead]⟩
noncomputable def h9ev (rw st : Int) (c1 m cu : Nat) (tb us : List Value) (i : Nat) : Hw := ⟨⟨[I m, I i, I rw, I st], [(m, m), (0, c1), (m, cu)]⟩, [tb, us, us], []⟩
noncomputable def T9bw : Tw := ⟨347, mkS 347 [(1, .hole .nil), (3, .ptr 5 0 .nil), (7, .hole .nil), (8, .hole .nil), (9, .ptr 8 0 .nil), (11, .slice 10 0 .nil), (12, .slice 12 0 .nil), (13, .slice 13 0 .nil), (131, .hole .nil), (132, .hole .nil)], 15, [.dead, .list 1 .ro, .dead, .dead, .list 1 .ro, .cells (.hole (.hole (.slice 2 0 (.val nilS (.slice 4 0 .nil))))) 25 .var, .dead, .dead, .cells (.hole (.hole (.slice 2 0 (.val nilS (.slice 9 0 .nil))))) 25 .var, .list 36 .row, .dead, .dead, .list 36 .row, .list 3 .row, .dead]⟩
noncomputable def h9bw (rw st wh mz : Int) (c1 m cu : Nat) (tb us xs ls : List Value) (i : Nat) : Hw := ⟨⟨[.int .u8 wh, I m, I mz, I m, I i, I rw, I st, I rw, I st], [(0, 0), (m, m), (m, m), (0, c1), (m, cu), (0, c1), (m, m)]⟩, [tb, us, xs, us, ls], []⟩
noncomputable def T9cw : Tw := ⟨347, mkS 347 [(3, .ptr 5 0 .nil), (8, .hole .nil), (11, .slice 10 0 .nil), (12, .slice 12 0 .nil), (13, .slice 13 0 .nil), (45, .slice 21 0 .nil), (291, .hole .nil), (292, .hole .nil)], 22, [.dead, .list 1 .ro, .dead, .dead, .list 1 .ro, .cells (.hole (.hole (.slice 2 0 (.val nilS (.slice 4 0 .nil))))) 25 .var, .dead, .dead, .dead, .dead, .dead, .dead, .list 36 .row, .list 3 .row, .dead, .dead, .dead, .dead, .dead, .dead, .dead, .list 3 .row]⟩
noncomputable def h9cw (rw st mz : Int) (c1 m cu : Nat) (tb us ls ks : List Value) (i : Nat) : Hw := ⟨⟨[I mz, I m, I i, I rw, I st], [(0, 0), (m, m), (m, m), (m, m), (0, c1), (m, cu)]⟩, [tb, us, us, ls, ks], []⟩
noncomputable def T9ew : Tw := ⟨347, mkS 347 [(3, .ptr 5 0 .nil), (12, .slice 12 0 .nil), (331, .hole .nil), (332, .hole .nil)], 23, [.dead, .list 1 .ro, .dead, .dead, .list 1 .ro, .cells (.hole (.hole (.slice 2 0 (.val nilS (.slice 4 0 .nil))))) 25 .var, .dead, .dead, .dead, .dead, .dead, .dead, .list 36 .row, .dead, .dead, .dead, .dead, .dead, .dead, .dead, .dead, .dead, .dead]⟩
noncomputable def h9ew (rw st : Int) (c1 m cu : Nat) (tb us : List Value) (i : Nat) : Hw := ⟨⟨[I m, I i, I rw, I st], [(m, m), (0, c1), (m, cu)]⟩, [tb, us, us], []⟩
end Go.Ab
set_option maxRecDepth 100000
namespace Go.Ab
open Go Go.RowKit Go.Proofs
theorem cntL_front (h : Nat) : ∀ i (L : Nat → Int), cntL L (i + 1) h = (if L 0 = (h : Int) then 1 else 0) + cntL (fun j => L (j + 1)) i h := by
 intro i
 induction i with
 | zero => intro L; simp [cntL]
 | succ i ih =>
  intro L
  show cntL L (i + 1) h + (if L (i + 1) = (h : Int) then 1 else 0) = _
  rw [ih L]
  simp only [cntL]
  omega
theorem cntL_rev (h : Nat) : ∀ m (L : Nat → Int), cntL (fun i => L (m - 1 - i)) m h = cntL L m h := by
 intro m
 induction m with
 | zero => intro L; rfl
 | succ m ih =>
  intro L
  rw [cntL_front]
  have e : (fun j => L (m + 1 - 1 - (j + 1))) = fun j => L (m - 1 - j) := funext fun j => by
   rw [show m + 1 - 1 - (j + 1) = m - 1 - j by omega]
  rw [e, ih L]
  show (if L (m + 1 - 1 - 0) = (h : Int) then 1 else 0) + cntL L m h = cntL L m h + (if L m = (h : Int) then 1 else 0)
  rw [show m + 1 - 1 - 0 = m by omega]
  omega
theorem pop_tab : ((List.range 6).all fun m => (List.range 32).all fun s => !Nat.blt s (2 ^ m) || Nat.beq (popN s) (cntL (fun i => if s.testBit i = true then 0 else -1) m 0)) = true := by kernel_rfl
theorem pop_cnt {m s : Nat} (hm : m ≤ 5) (hs : s < 2 ^ m) : popN s = cntL (fun i => if s.testBit i = true then 0 else -1) m 0 := by
 have h5 : s < 32 := Nat.lt_of_lt_of_le hs (Nat.pow_le_pow_right (n := 2) (by omega) hm)
 have h := List.all_eq_true.1 (List.all_eq_true.1 pop_tab m (List.mem_range.2 (by omega))) s (List.mem_range.2 h5)
 rw [show Nat.blt s (2 ^ m) = true from Nat.ble_eq_true_of_le hs] at h
 exact Nat.eq_of_beq_eq_true h
section
variable {y y' : Nat → Nat} {many m : Nat}
theorem best_rev_le (hm : m ≤ 5) (hy : ∀ i, i < m → y' i = y (m - 1 - i)) : popN (bestQ y' many m) ≤ popN (bestQ y many m) := by
 obtain ⟨h1, h2⟩ := best_right y many m
 have hk := okA_at h1
 have hV := (right_vl h1).1
 have hr : okA y' many (fun i => bestL y many m (m - 1 - i)) m = true := okA_of fun i hi => by
  have ho := hk (m - 1 - i) (by omega)
  unfold okR at ho ⊢
  by_cases hl : bestL y many m (m - 1 - i) < 0
  · rw [if_pos hl] at ho ⊢; exact ho
  · rw [if_neg hl, Bool.and_eq_true, Bool.and_eq_true, ← hy i hi] at ho
    rw [if_neg hl, ho.1, ho.2.1, Bool.true_and, Bool.true_and]
    have hc : cntL (fun i => bestL y many m (m - 1 - i)) (i + 1) (bestL y many m (m - 1 - i)).toNat ≤ many := by
     refine Nat.le_trans (cntL_mono m (by omega)) ?_
     rw [cntL_rev]
     exact hV.few _
    simp only [cntL] at hc
    rw [if_pos (Int.toNat_of_nonneg (by omega)).symm] at hc
    exact decide_eq_true hc
 have hs : popN (outR y' (fun i => bestL y many m (m - 1 - i)) m) = popN (bestQ y many m) := by
  rw [pop_cnt hm (outR_lt _ _ m), ← h2, pop_cnt hm (outR_lt y (bestL y many m) m), ← cntL_rev 0 m fun i => if (outR y (bestL y many m) m).testBit i = true then 0 else -1]
  refine cntL_congr m fun i hi => ?_
  simp only [outR_bit]
  rw [decide_eq_true hi, decide_eq_true (show m - 1 - i < m by omega), hy i hi]
 have := best_least hr
 omega
theorem best_rev (hm : m ≤ 5) (hy : ∀ i, i < m → y' i = y (m - 1 - i)) : popN (bestQ y' many m) = popN (bestQ y many m) :=
 Nat.le_antisymm (best_rev_le hm hy) (best_rev_le hm fun i hi => by rw [hy (m - 1 - i) (by omega), show m - 1 - (m - 1 - i) = i by omega])
end
end Go.Ab
set_option maxRecDepth 100000
namespace Go.Ab
open Go Go.RowKit Go.Proofs
noncomputable def B96d : List TBw := [.dead, .dead, .dead, .dead, .dead, .dead, .dead, .cells Zp 99 .var, .cells Z1 37 .var, .cells Zp 99 .var, .dead, .dead, .dead, .dead, .dead, .cells Zp 99 .var, .cells (.func 84 .nil .nil .nil) 130 .var, .cells Zp 99 .var, .cells Zp 99 .var, .defs, .loop 15 (mkS 15 [(2, .ptr 16 0 .nil), (4, .ptr 17 0 .nil), (5, .ptr 18 0 .nil)]) #[8] p83, .list 104 .var, .cells (.yield 20 .nil) 128 .var, .defs, .loop 15 (mkS 15 [(2, .ptr 21 0 .nil), (3, .ptr 22 0 .nil)]) #[8] p85]
noncomputable def T96od : Tw := ⟨35, mkS 35 [(0, .hole .nil), (1, .yield 24 .nil), (8, .hole .nil), (9, .hole .nil)], 25, B96d⟩
noncomputable def T96id : Tw := ⟨35, mkS 35 [(0, .hole .nil), (1, .yield 24 .nil), (4, .hole .nil), (8, .hole .nil), (9, .hole .nil), (13, .hole .nil), (14, .hole .nil)], 25, B96d⟩
noncomputable def h96od (s : Nat) (rl : List Value) (lim : Int) (i : Nat) : Hw := ⟨⟨[I s, I lim, I i], []⟩, [rl], []⟩
noncomputable def h96id (s size : Nat) (rl : List Value) (lim : Int) (i : Nat) (lim2 : Int) (p : Nat) : Hw := ⟨⟨[I s, I size, I lim, I i, I lim2, I p], []⟩, [rl], []⟩
end Go.Ab
set_option maxRecDepth 100000
namespace Go.Ab
open Go Go.RowKit Go.Proofs
noncomputable def mH6 (us : List Value) : Mem := ⟨fillX [.dead, .dead, .dead, .dead, .cells us 1 .ro, .dead] 0 .nil, 6⟩
noncomputable def mD6 : Mem := ⟨fillX [.dead, .dead, .dead, .dead, .dead, .dead] 0 .nil, 6⟩
noncomputable def sh_n (rw st : Int) (c1 m cu : Nat) : Value := .agg ⟨[I rw, I st, nilS, nilS, slV 4 m cu, .map (some 5)]⟩
noncomputable def ShLn : TL := .hole (.hole (.val nilS (.val nilS (.slice 4 0 (.map 5 .nil)))))
noncomputable def C57n (rw st : Int) (c1 m cu : Nat) (us : List Value) (many : Int) : Con where
 A := .agg ShLn (.hole .nil)
 bs := [.dead, .dead, .dead, .dead, .list 1 .ro, .dead]
 pre y := y = ⟨⟨[I rw, I st, I many], [(m, cu)]⟩, [us]⟩
 res _ := .ret (.agg ⟨[I many, I m, I 0, I 0, I 0, I 0, I 0, I 0]⟩)
noncomputable def C21n (rw st : Int) (c1 m cu : Nat) (us : List Value) (many : Int) (r : List Value) (left : Int) : ConN where
 A := .agg SuTn (.hole .nil)
 bs := [.dead, .dead, .dead, .dead, .list 1 .ro]
 pre x := x = ⟨⟨[I rw, I st, I many], [(m, cu)]⟩, [us]⟩
 news _ := [(r, 3)]
 one := false
 res _ := [.sl 0 m, .cv (I left), .cv (I 0)]
noncomputable def sh_v (rw st : Int) (c1 m cu : Nat) : Value := .agg ⟨[I rw, I st, nilS, slV 3 0 c1, slV 4 m cu, .map (some 5)]⟩
noncomputable def ShLv : TL := .hole (.hole (.val nilS (.slice 3 0 (.slice 4 0 (.map 5 .nil)))))
noncomputable def C57v (rw st : Int) (c1 m cu : Nat) (us : List Value) (many : Int) : Con where
 A := .agg ShLv (.hole .nil)
 bs := [.dead, .dead, .dead, .dead, .list 1 .ro, .dead]
 pre y := y = ⟨⟨[I rw, I st, I many], [(0, c1), (m, cu)]⟩, [us]⟩
 res _ := .ret (.agg ⟨[I many, I m, I 0, I 0, I 0, I 0, I 0, I 0]⟩)
noncomputable def C21v (rw st : Int) (c1 m cu : Nat) (us : List Value) (many : Int) (r : List Value) (left : Int) : ConN where
 A := .agg SuTv (.hole .nil)
 bs := [.dead, .dead, .dead, .dead, .list 1 .ro]
 pre x := x = ⟨⟨[I rw, I st, I many], [(0, c1), (m, cu)]⟩, [us]⟩
 news _ := [(r, 3)]
 one := false
 res _ := [.sl 0 m, .cv (I left), .cv (I 0)]
noncomputable def sh_w (rw st : Int) (c1 m cu : Nat) : Value := .agg ⟨[I rw, I st, slV 2 0 c1, nilS, slV 4 m cu, .map (some 5)]⟩
noncomputable def ShLw : TL := .hole (.hole (.slice 2 0 (.val nilS (.slice 4 0 (.map 5 .nil)))))
noncomputable def C57w (rw st : Int) (c1 m cu : Nat) (us : List Value) (many : Int) : Con where
 A := .agg ShLw (.hole .nil)
 bs := [.dead, .dead, .dead, .dead, .list 1 .ro, .dead]
 pre y := y = ⟨⟨[I rw, I st, I many], [(0, c1), (m, cu)]⟩, [us]⟩
 res _ := .ret (.agg ⟨[I many, I m, I 0, I 0, I 0, I 0, I 0, I 0]⟩)
noncomputable def C21w (rw st : Int) (c1 m cu : Nat) (us : List Value) (many : Int) (r : List Value) (left : Int) : ConN where
 A := .agg SuTw (.hole .nil)
 bs := [.dead, .dead, .dead, .dead, .list 1 .ro]
 pre x := x = ⟨⟨[I rw, I st, I many], [(0, c1), (m, cu)]⟩, [us]⟩
 news _ := [(r, 3)]
 one := false
 res _ := [.sl 0 m, .cv (I left), .cv (I 0)]
noncomputable def sh_N (rw st : Int) (n cw n2 cv : Nat) : Value := .agg ⟨[I rw, I st, slV 2 n cw, slV 3 n2 cv, nilS, .map (some 5)]⟩
noncomputable def ShLN : TL := .hole (.hole (.slice 2 0 (.slice 3 0 (.val nilS (.map 5 .nil)))))
noncomputable def C57N (rw st : Int) (n cw n2 cv : Nat) (many : Int) : Con where
 A := .agg ShLN (.hole .nil)
 bs := [.dead, .dead, .dead, .dead, .dead, .dead]
 pre y := y = ⟨⟨[I rw, I st, I many], [(n, cw), (n2, cv)]⟩, []⟩
 res _ := .ret (.agg ⟨[I many, I 0, I 0, I 0, I 0, I 0, I 0, I 0]⟩)
noncomputable def C21N (rw st : Int) (n cw n2 cv : Nat) (ws vs : List Value) (many : Int) (r : List Value) (left : Int) : ConN where
 A := .agg SuTN (.hole .nil)
 bs := [.dead, .dead, .list 1 .ro, .list 1 .ro, .dead]
 pre x := x = ⟨⟨[I rw, I st, I many], [(n, cw), (n2, cv)]⟩, [ws, vs]⟩
 news _ := [(r, 3)]
 one := false
 res _ := [.sl 0 0, .cv (I left), .cv (I 0)]
noncomputable def sh_nnN (rw st : Int) : Value := .agg ⟨[I rw, I st, nilS, nilS, nilS, .map (some 5)]⟩
noncomputable def ShLnnN : TL := .hole (.hole (.val nilS (.val nilS (.val nilS (.map 5 .nil)))))
noncomputable def C57nnN (rw st : Int) (many : Int) : Con where
 A := .agg ShLnnN (.hole .nil)
 bs := [.dead, .dead, .dead, .dead, .dead, .dead]
 pre y := y = ⟨⟨[I rw, I st, I many], []⟩, []⟩
 res _ := .ret (.agg ⟨[I many, I 0, I 0, I 0, I 0, I 0, I 0, I 0]⟩)
noncomputable def C21nnN (rw st : Int) (many : Int) (r : List Value) (left : Int) : ConN where
 A := .agg (.hole (.hole (.val nilS (.val nilS (.val nilS .nil))))) (.hole .nil)
 bs := [.dead, .dead, .dead, .dead, .dead]
 pre x := x = ⟨⟨[I rw, I st, I many], []⟩, []⟩
 news _ := [(r, 3)]
 one := false
 res _ := [.sl 0 0, .cv (I left), .cv (I 0)]
noncomputable def sh_nvN (rw st : Int) (c1 : Nat) : Value := .agg ⟨[I rw, I st, nilS, slV 3 0 c1, nilS, .map (some 5)]⟩
noncomputable def ShLnvN : TL := .hole (.hole (.val nilS (.slice 3 0 (.val nilS (.map 5 .nil)))))
noncomputable def C57nvN (rw st : Int) (c1 : Nat) (many : Int) : Con where
 A := .agg ShLnvN (.hole .nil)
 bs := [.dead, .dead, .dead, .dead, .dead, .dead]
 pre y := y = ⟨⟨[I rw, I st, I many], [(0, c1)]⟩, []⟩
 res _ := .ret (.agg ⟨[I many, I 0, I 0, I 0, I 0, I 0, I 0, I 0]⟩)
noncomputable def C21nvN (rw st : Int) (c1 : Nat) (many : Int) (r : List Value) (left : Int) : ConN where
 A := .agg (.hole (.hole (.val nilS (.slice 3 0 (.val nilS .nil))))) (.hole .nil)
 bs := [.dead, .dead, .dead, .dead, .dead]
 pre x := x = ⟨⟨[I rw, I st, I many], [(0, c1)]⟩, []⟩
 news _ := [(r, 3)]
 one := false
 res _ := [.sl 0 0, .cv (I left), .cv (I 0)]
noncomputable def sh_wnN (rw st : Int) (c1 : Nat) : Value := .agg ⟨[I rw, I st, slV 2 0 c1, nilS, nilS, .map (some 5)]⟩
noncomputable def ShLwnN : TL := .hole (.hole (.slice 2 0 (.val nilS (.val nilS (.map 5 .nil)))))
noncomputable def C57wnN (rw st : Int) (c1 : Nat) (many : Int) : Con where
 A := .agg ShLwnN (.hole .nil)
 bs := [.dead, .dead, .dead, .dead, .dead, .dead]
 pre y := y = ⟨⟨[I rw, I st, I many], [(0, c1)]⟩, []⟩
 res _ := .ret (.agg ⟨[I many, I 0, I 0, I 0, I 0, I 0, I 0, I 0]⟩)
noncomputable def C21wnN (rw st : Int) (c1 : Nat) (many : Int) (r : List Value) (left : Int) : ConN where
 A := .agg (.hole (.hole (.slice 2 0 (.val nilS (.val nilS .nil))))) (.hole .nil)
 bs := [.dead, .dead, .dead, .dead, .dead]
 pre x := x = ⟨⟨[I rw, I st, I many], [(0, c1)]⟩, []⟩
 news _ := [(r, 3)]
 one := false
 res _ := [.sl 0 0, .cv (I left), .cv (I 0)]
noncomputable def T57n : Tw := ⟨44, mkS 44 [(2, .ptr 6 0 .nil), (4, .ptr 7 0 .nil), (5, .ptr 8 0 .nil), (17, .slice 4 0 .nil), (18, .hole .nil), (19, .hole .nil)], 9, [.dead, .dead, .dead, .dead, .list 1 .ro, .dead, .cells ShLn 77 .var, .cells Z8 104 .var, .list 104 .var]⟩
noncomputable def h57n (rw st : Int) (c1 m cu : Nat) (us cs : List Value) (i : Nat) : Hw := ⟨⟨[I m, I i, I rw, I st], [(m, cu), (m, cu)]⟩, [us, cs], []⟩
noncomputable def T57v : Tw := ⟨44, mkS 44 [(2, .ptr 6 0 .nil), (4, .ptr 7 0 .nil), (5, .ptr 8 0 .nil), (17, .slice 4 0 .nil), (18, .hole .nil), (19, .hole .nil)], 9, [.dead, .dead, .dead, .dead, .list 1 .ro, .dead, .cells ShLv 77 .var, .cells Z8 104 .var, .list 104 .var]⟩
noncomputable def h57v (rw st : Int) (c1 m cu : Nat) (us cs : List Value) (i : Nat) : Hw := ⟨⟨[I m, I i, I rw, I st], [(m, cu), (0, c1), (m, cu)]⟩, [us, cs], []⟩
noncomputable def T57w : Tw := ⟨44, mkS 44 [(2, .ptr 6 0 .nil), (4, .ptr 7 0 .nil), (5, .ptr 8 0 .nil), (17, .slice 4 0 .nil), (18, .hole .nil), (19, .hole .nil)], 9, [.dead, .dead, .dead, .dead, .list 1 .ro, .dead, .cells ShLw 77 .var, .cells Z8 104 .var, .list 104 .var]⟩
noncomputable def h57w (rw st : Int) (c1 m cu : Nat) (us cs : List Value) (i : Nat) : Hw := ⟨⟨[I m, I i, I rw, I st], [(m, cu), (0, c1), (m, cu)]⟩, [us, cs], []⟩
end Go.Ab
