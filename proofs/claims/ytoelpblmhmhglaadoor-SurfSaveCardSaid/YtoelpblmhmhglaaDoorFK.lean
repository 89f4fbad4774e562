/- package surf: forms of the look whether a surf is valid, of any surf. -/
import Derived.Test.YtoelpblmhmhglaaDoorFE
import Derived.Test.YtoelpblmhmhglaaDoorFF
import Derived.Test.YtoelpblmhmhglaaDoorFJ
set_option maxRecDepth 100000
namespace Go.Ab
open Go Go.RowKit Go.Proofs
noncomputable def T79aN : Tw := ⟨85, mkS 85 [(1, .ptr 5 0 .nil), (37, .hole .nil), (38, .hole .nil)], 6, [.dead, .dead, .list 1 .ro, .list 1 .ro, .dead, .cells SuTN 25 .var]⟩
noncomputable def h79N (rw st : Int) (n cw n2 cv : Nat) (ws vs : List Value) (i : Nat) : Hw := ⟨⟨[I n, I i, I rw, I st], [(n, cw), (n2, cv)]⟩, [ws, vs], []⟩
noncomputable def R79 : Tw := ⟨85, mkS 85 [(2, .hole .nil)], 6, [.dead, .dead, .dead, .dead, .dead, .dead]⟩
noncomputable def CWI (x a b : Int) (r : Bool) : Con where
 A := .hole (.hole (.hole .nil))
 bs := [.dead, .dead]
 pre y := y = ⟨⟨[I x, I a, I b], []⟩, []⟩
 res _ := .ret (.bool r)
noncomputable def CNA (lo hi most : Int) (r : Bool) : Con where
 A := .agg (.hole (.hole .nil)) (.hole .nil)
 bs := [.dead, .dead]
 pre y := y = ⟨⟨[I lo, I hi, I most], []⟩, []⟩
 res _ := .ret (.bool r)
end Go.Ab
set_option maxRecDepth 100000
namespace Go.Ab
open Go Go.RowKit Go.Proofs
def p4 : Loc := .l (.r (.l (.r (.r (.r (.r (.r (.r (.r (.r (.r (.r (.r (.r (.r (.r (.top 4)))))))))))))))))
noncomputable def h4 (rw st : Int) (n cw cv m cu hut : Nat) (tb ws vs us xs ys : List Value) (ro : Nat → Int) (fo : Nat → Bool) (want : Int) (gone : Bool) (fst : Int) (i : Nat) : Hw :=
 ⟨⟨[I hut, I want, .bool gone, I fst, I n, I i, I rw, I st, I rw, I st], [(n, n), (n, n), (n, cw), (n, cv), (m, cu), (n, n), (n, n), (m, cu)]⟩, [tb, ws, vs, us, xs, ys, ints n ro, boolsL n fo], []⟩
end Go.Ab
set_option maxRecDepth 100000
namespace Go.Ab
open Go Go.RowKit Go.Proofs
noncomputable def mD5 : Mem := ⟨fillX [.dead, .dead, .dead, .dead, .dead] 0 .nil, 5⟩
noncomputable def CX (A : TL) (rw st : Int) (sl : List (Nat × Nat)) (r : Bool) : Con where
 A := A
 bs := [.dead, .dead, .dead, .dead, .dead]
 pre x := x = ⟨⟨[I rw, I st], sl⟩, []⟩
 res _ := .ret (.bool r)
end Go.Ab
set_option maxRecDepth 100000
namespace Go.Ab
open Go Go.RowKit Go.Proofs
noncomputable def slM (rw st : Int) (n cw cv m cu : Nat) : List Value := [I rw, I st, slV 2 n cw, slV 3 n cv, slV 4 m cu]
noncomputable def m26 (tb ws vs us su ls : List Value) (mz : Int) : Mem := ⟨fillX [.dead, .cells tb 1 .ro, .cells ws 1 .ro, .cells vs 1 .ro, .cells us 1 .ro, .cells su 25 .ro, .cells [I mz] 3 .ro, .cells ls 3 .ro] 0 .nil, 8⟩
noncomputable def C26 (rw st : Int) (n cw cv m cu : Nat) (tb ws vs us ls : List Value) (mz : Int) (k kc : Nat) (out : Int) (ok : Bool) : Con where
 A := .slice 7 0 (.ptr 5 0 (.ptr 6 0 .nil))
 bs := [.dead, .list 1 .ro, .list 1 .ro, .list 1 .ro, .list 1 .ro, .cells SuL 25 .ro, .cells (.hole .nil) 3 .ro, .list 3 .ro]
 pre x := x = ⟨⟨[I rw, I st, I mz], [(k, kc), (n, cw), (n, cv), (m, cu)]⟩, [tb, ws, vs, us, ls]⟩
 res _ := .ret (.tuple ⟨[I out, .bool ok]⟩)
def p26 : Loc := .l (.r (.l (.r (.r (.top 26)))))
def p7b : Loc := .l (.r (.l (.r (.r (.r (.r (.r (.r (.r (.r (.r (.top 7))))))))))))
def p7c : Loc := .l (.r (.l (.r (.r (.r (.r (.r (.r (.r (.r (.r (.r (.r (.r (.r (.r (.top 7)))))))))))))))))
noncomputable def B26 : List TBw := [.dead, .list 1 .ro, .list 1 .ro, .list 1 .ro, .list 1 .ro, .cells SuL 25 .ro, .cells (.hole .nil) 3 .ro, .list 3 .ro, .map]
noncomputable def T26 : Tw := ⟨56, mkS 56 [(1, .ptr 5 0 .nil), (2, .ptr 6 0 .nil), (6, .map 8 .nil), (7, .hole .nil), (13, .slice 7 0 .nil), (14, .hole .nil), (15, .hole .nil)], 9, B26⟩
noncomputable def R26 : Tw := ⟨56, mkS 56 [(4, .hole .nil), (5, .hole .nil)], 9, [.dead, .dead, .dead, .dead, .dead, .dead, .dead, .dead, .dead]⟩
noncomputable def h26 (rw st : Int) (n cw cv m cu : Nat) (tb ws vs us ls : List Value) (mz : Int) (k kc : Nat) (out : Int) (es : List (Value × Value)) (i : Nat) : Hw := ⟨⟨[I out, I k, I i, I rw, I st, I mz], [(k, kc), (n, cw), (n, cv), (m, cu)]⟩, [tb, ws, vs, us, ls], [es]⟩
noncomputable def r26 (out : Int) (ok : Bool) : Hw := ⟨⟨[I out, .bool ok], []⟩, [], []⟩
noncomputable def u8L (k : Nat) (b : Nat → Int) : List Value := flatC k fun i => [.int .u8 (b i)]
noncomputable def m7 (tb ws vs us bs : List Value) : Mem := ⟨fillX [.dead, .cells tb 1 .ro, .cells ws 1 .ro, .cells vs 1 .ro, .cells us 1 .ro, .cells bs 2 .ro] 0 .nil, 6⟩
noncomputable def m7n (tb ws vs us : List Value) : Mem := ⟨fillX [.dead, .cells tb 1 .ro, .cells ws 1 .ro, .cells vs 1 .ro, .cells us 1 .ro, .dead] 0 .nil, 6⟩
noncomputable def B7 (b5 : TBw) : List TBw := [.dead, .list 1 .ro, .list 1 .ro, .list 1 .ro, .list 1 .ro, b5, .cells SuL 25 .var, .dead, .dead, .cells (.hole .nil) 3 .var, .list 3 .row]
noncomputable def S7 (by_ own : TL) : List (Option TL) := mkS 146 [(2, by_), (8, .slice 10 0 .nil), (11, .func 26 .nil (.ptr 6 0 (.ptr 9 0 .nil)) .nil), (12, .hole .nil), (14, own), (61, .hole .nil), (62, .hole .nil)]
noncomputable def T7a : Tw := ⟨146, S7 (.slice 5 0 .nil) (.val nilS .nil), 11, B7 (.list 2 .ro)⟩
noncomputable def T7b : Tw := ⟨146, S7 (.slice 5 0 .nil) (.slice 11 0 .nil), 11, B7 (.list 2 .ro) ++ [.list 3 .row]⟩
noncomputable def T7an : Tw := ⟨146, S7 (.val nilS .nil) (.val nilS .nil), 11, B7 .dead⟩
noncomputable def T7bn : Tw := ⟨146, S7 (.val nilS .nil) (.slice 11 0 .nil), 11, B7 .dead ++ [.list 3 .row]⟩
noncomputable def h7a (rw st mz : Int) (n cw cv m cu k d : Nat) (tb ws vs us bs ls : List Value) (a : Int) (i : Nat) : Hw := ⟨⟨[I a, I m, I i, I rw, I st, I mz], [(k, d), (m, m), (n, cw), (n, cv), (m, cu)]⟩, [tb, ws, vs, us, bs, ls], []⟩
noncomputable def h7b (rw st mz : Int) (n cw cv m cu k d : Nat) (tb ws vs us bs ls os : List Value) (a : Int) (i : Nat) : Hw := ⟨⟨[I a, I m, I i, I rw, I st, I mz], [(k, d), (m, m), (i, i), (n, cw), (n, cv), (m, cu)]⟩, [tb, ws, vs, us, bs, ls, os], []⟩
noncomputable def h7an (rw st mz : Int) (n cw cv m cu : Nat) (tb ws vs us ls : List Value) (a : Int) (i : Nat) : Hw := ⟨⟨[I a, I m, I i, I rw, I st, I mz], [(m, m), (n, cw), (n, cv), (m, cu)]⟩, [tb, ws, vs, us, ls], []⟩
noncomputable def h7bn (rw st mz : Int) (n cw cv m cu : Nat) (tb ws vs us ls os : List Value) (a : Int) (i : Nat) : Hw := ⟨⟨[I a, I m, I i, I rw, I st, I mz], [(m, m), (i, i), (n, cw), (n, cv), (m, cu)]⟩, [tb, ws, vs, us, ls, os], []⟩
noncomputable def T7c : Tw := ⟨146, mkS 146 [(8, .slice 10 0 .nil), (12, .hole .nil), (14, .slice 11 0 .nil), (17, .hole .nil), (114, .hole .nil), (115, .hole .nil)], 12, [.dead, .list 1 .ro, .dead, .dead, .dead, .dead, .dead, .dead, .dead, .dead, .list 3 .row, .list 3 .row]⟩
noncomputable def R7 : Tw := ⟨146, mkS 146 [(6, .hole .nil)], 12, List.replicate 12 .dead⟩
noncomputable def h7c (m : Nat) (tb ls os : List Value) (a b : Int) (i : Nat) : Hw := ⟨⟨[I a, I b, I m, I i], [(m, m), (m, m)]⟩, [tb, ls, os], []⟩
noncomputable def r7 (b : Bool) : Hw := ⟨⟨[.bool b], []⟩, [], []⟩
end Go.Ab
