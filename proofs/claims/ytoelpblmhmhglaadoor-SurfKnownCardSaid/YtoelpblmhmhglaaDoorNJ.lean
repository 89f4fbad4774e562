/- package surf: forms of the look whether a surf is valid, of any surf. -/
import Derived.Test.YtoelpblmhmhglaaDoorNE
import Derived.Test.YtoelpblmhmhglaaDoorNF
set_option maxRecDepth 100000
namespace Go.Ab
open Go Go.RowKit Go.Proofs
noncomputable def h79aR (rw st : Int) (n cw n2 cv m cu : Nat) (ws vs us : List Value) (i : Nat) : Hw := ⟨⟨[I n, I i, I rw, I st], [(n, cw), (n2, cv), (m, cu)]⟩, [ws, vs, us], []⟩
noncomputable def h79bR (rw st : Int) (n cw n2 cv m cu : Nat) (ws vs us : List Value) (i : Nat) : Hw := ⟨⟨[I m, I i, I rw, I st], [(m, cu), (n, cw), (n2, cv), (m, cu)]⟩, [ws, vs, us], []⟩
noncomputable def T79aN : Tw := ⟨85, mkS 85 [(1, .ptr 5 0 .nil), (37, .hole .nil), (38, .hole .nil)], 6, [.dead, .dead, .list 1 .ro, .list 1 .ro, .dead, .cells SuTN 25 .var]⟩
noncomputable def h79N (rw st : Int) (n cw n2 cv : Nat) (ws vs : List Value) (i : Nat) : Hw := ⟨⟨[I n, I i, I rw, I st], [(n, cw), (n2, cv)]⟩, [ws, vs], []⟩
noncomputable def R79 : Tw := ⟨85, mkS 85 [(2, .hole .nil)], 6, [.dead, .dead, .dead, .dead, .dead, .dead]⟩
noncomputable def CWI (x a b : Int) (r : Bool) : Con where
 A := .hole (.hole (.hole .nil))
 bs := [.dead, .dead]
 pre y := y = ⟨⟨[I x, I a, I b], []⟩, []⟩
 res _ := .ret (.bool r)
noncomputable def CNA (lo hi most : Int) (r : Bool) : Con where
 A := .agg (.hole (.hole .nil)) (.hole .nil)
 bs := [.dead, .dead]
 pre y := y = ⟨⟨[I lo, I hi, I most], []⟩, []⟩
 res _ := .ret (.bool r)
end Go.Ab
set_option maxRecDepth 100000
namespace Go.Ab
open Go Go.RowKit Go.Proofs
noncomputable def CE1 (rw st : Int) (n cw n2 cv m cu : Nat) (ws vs us : List Value) (a : Int) (r : Value) : Con where
 A := .agg SuL (.hole .nil)
 bs := [.dead, .dead, .list 1 .ro, .list 1 .ro, .list 1 .ro]
 pre x := x = ⟨⟨[I rw, I st, I a], [(n, cw), (n2, cv), (m, cu)]⟩, [ws, vs, us]⟩
 res _ := .ret r
noncomputable def CE2 (rw st : Int) (n cw n2 cv m cu : Nat) (ws vs us : List Value) (a b : Int) (r : Value) : Con where
 A := .agg SuL (.hole (.hole .nil))
 bs := [.dead, .dead, .list 1 .ro, .list 1 .ro, .list 1 .ro]
 pre x := x = ⟨⟨[I rw, I st, I a, I b], [(n, cw), (n2, cv), (m, cu)]⟩, [ws, vs, us]⟩
 res _ := .ret r
noncomputable def r15 (e : Int) : Value := .tuple ⟨[I 0, I e]⟩
noncomputable def r18 (e : Int) : Value := .tuple ⟨[.agg ⟨[I 0, I 0]⟩, I e]⟩
noncomputable def r21 (e : Int) : Value := .tuple ⟨[nilS, I 0, I e]⟩
def p22 : Loc := .l (.r (.l (.r (.r (.r (.top 22))))))
def p4 : Loc := .l (.r (.l (.r (.r (.r (.r (.r (.r (.r (.r (.r (.r (.r (.r (.r (.r (.top 4)))))))))))))))))
noncomputable def B22 (x : TL) : List TBw := [.dead, .list 1 .ro, .list 1 .ro, .list 1 .ro, .list 1 .ro, .dead, .cells SuL 25 .var, .dead, .dead, .dead, .list 3 .row, .list 3 .row, .dead, .cells (.hole (.hole (.val nilS (.val nilS (.val nilS .nil))))) 25 .var, .cells x 25 .var]
noncomputable def S22 : List (Option TL) := mkS 47 [(1, .slice 10 0 .nil), (2, .slice 11 0 .nil), (6, .ptr 13 0 .nil), (7, .ptr 14 0 .nil), (13, .hole .nil), (14, .hole .nil)]
noncomputable def T22a : Tw := ⟨47, S22, 15, B22 (.hole (.hole (.val nilS (.val nilS (.slice 4 0 .nil)))))⟩
noncomputable def T22b : Tw := ⟨47, S22, 15, B22 (.hole (.hole (.slice 15 0 (.slice 16 0 (.slice 4 0 .nil))))) ++ [.list 45 .row, .list 45 .row]⟩
noncomputable def h22a (rw st : Int) (n cw cv m cu : Nat) (tb ws vs us : List Value) (wt vt : Nat → Int) (i : Nat) : Hw := ⟨⟨[I n, I i, I rw, I st, I 0, I 0, I rw, I st], [(n, n), (n, n), (n, cw), (n, cv), (m, cu), (m, cu)]⟩, [tb, ws, vs, us, ints n wt, ints n vt], []⟩
noncomputable def h22b (rw st : Int) (n cw cv m cu : Nat) (tb ws vs us : List Value) (wt vt : Nat → Int) (r1 r2 : List Value) (i : Nat) : Hw := ⟨⟨[I n, I i, I rw, I st, I 0, I 0, I rw, I st], [(n, n), (n, n), (n, cw), (n, cv), (m, cu), (i, i), (i, i), (m, cu)]⟩, [tb, ws, vs, us, ints n wt, ints n vt, r1, r2], []⟩
noncomputable def B4 : List TBw := [.dead, .list 1 .ro, .list 1 .ro, .list 1 .ro, .list 1 .ro, .dead, .cells SuL 25 .var, .dead, .dead, .dead, .dead, .dead, .dead, .dead, .dead, .list 45 .row, .list 45 .row, .cells (.hole (.hole (.slice 15 0 (.slice 16 0 (.slice 4 0 .nil))))) 25 .var, .list 3 .row, .list 4 .row]
noncomputable def T4 : Tw := ⟨329, mkS 329 [(3, .ptr 6 0 .nil), (21, .hole .nil), (24, .ptr 17 0 .nil), (26, .slice 19 0 .nil), (27, .hole .nil), (28, .hole .nil), (29, .hole .nil), (159, .slice 18 0 .nil), (160, .hole .nil), (161, .hole .nil)], 20, B4⟩
noncomputable def R4 : Tw := ⟨329, mkS 329 [(6, .hole .nil)], 20, List.replicate 20 .dead⟩
noncomputable def h4 (rw st : Int) (n cw cv m cu hut : Nat) (tb ws vs us xs ys : List Value) (ro : Nat → Int) (fo : Nat → Bool) (want : Int) (gone : Bool) (fst : Int) (i : Nat) : Hw :=
 ⟨⟨[I hut, I want, .bool gone, I fst, I n, I i, I rw, I st, I rw, I st], [(n, n), (n, n), (n, cw), (n, cv), (m, cu), (n, n), (n, n), (m, cu)]⟩, [tb, ws, vs, us, xs, ys, ints n ro, boolsL n fo], []⟩
end Go.Ab
set_option maxRecDepth 100000
namespace Go.Ab
open Go Go.RowKit Go.Proofs
noncomputable def mD5 : Mem := ⟨fillX [.dead, .dead, .dead, .dead, .dead] 0 .nil, 5⟩
noncomputable def CX (A : TL) (rw st : Int) (sl : List (Nat × Nat)) (r : Bool) : Con where
 A := A
 bs := [.dead, .dead, .dead, .dead, .dead]
 pre x := x = ⟨⟨[I rw, I st], sl⟩, []⟩
 res _ := .ret (.bool r)
noncomputable def PnnN : TL := .agg (.hole (.hole (.val nilS (.val nilS (.val nilS .nil))))) .nil
noncomputable def PnkN : TL := .agg (.hole (.hole (.val nilS (.slice 3 0 (.val nilS .nil))))) .nil
noncomputable def PknN : TL := .agg (.hole (.hole (.slice 2 0 (.val nilS (.val nilS .nil))))) .nil
noncomputable def PnkP : TL := .agg (.hole (.hole (.val nilS (.slice 3 0 (.slice 4 0 .nil))))) .nil
noncomputable def PknP : TL := .agg (.hole (.hole (.slice 2 0 (.val nilS (.slice 4 0 .nil))))) .nil
end Go.Ab
