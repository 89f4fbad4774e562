/- package surf: forms of the look whether a surf is valid, of any surf. -/
import Derived.Test.YtoelpblmhmhglaaDoorNE
import Derived.Test.YtoelpblmhmhglaaDoorNF
import Derived.Test.YtoelpblmhmhglaaDoorNJ
import Derived.Test.YtoelpblmhmhglaaDoorNK
set_option maxRecDepth 100000
namespace Go.Ab
open Go Go.RowKit Go.Proofs
end Go.Ab
set_option maxRecDepth 100000
namespace Go.Ab
open Go Go.RowKit Go.Proofs
def p4 : Loc := .l (.r (.l (.r (.r (.r (.r (.r (.r (.r (.r (.r (.r (.r (.r (.r (.r (.top 4)))))))))))))))))
noncomputable def h4 (rw st : Int) (n cw cv m cu hut : Nat) (tb ws vs us xs ys : List Value) (ro : Nat → Int) (fo : Nat → Bool) (want : Int) (gone : Bool) (fst : Int) (i : Nat) : Hw :=
 ⟨⟨[I hut, I want, .bool gone, I fst, I n, I i, I rw, I st, I rw, I st], [(n, n), (n, n), (n, cw), (n, cv), (m, cu), (n, n), (n, n), (m, cu)]⟩, [tb, ws, vs, us, xs, ys, ints n ro, boolsL n fo], []⟩
end Go.Ab
set_option maxRecDepth 100000
namespace Go.Ab
open Go Go.RowKit Go.Proofs
end Go.Ab
set_option maxRecDepth 100000
namespace Go.Ab
open Go Go.RowKit Go.Proofs
end Go.Ab
set_option maxRecDepth 100000
namespace Go.Ab
open Go Go.RowKit Go.Proofs
def p8 : Loc := .l (.r (.l (.r (.r (.r (.r (.r (.r (.r (.top 8))))))))))
noncomputable def T8 : Tw := ⟨230, mkS 230 [(4, .hole .nil), (5, .ptr 5 0 .nil), (13, .ptr 8 0 .nil), (134, .hole .nil), (135, .hole .nil)], 15, [.dead, .list 1 .ro, .list 1 .ro, .list 1 .ro, .list 1 .ro, .cells SuL 25 .var, .dead, .dead, .cells (.hole (.hole (.slice 12 0 (.slice 13 0 (.slice 14 0 .nil))))) 25 .var, .dead, .dead, .dead, .list 45 .row, .list 45 .row, .list 36 .row]⟩
noncomputable def h8 (rw st nb : Int) (n cw cv m cu : Nat) (tb ws vs us ws2 vs2 us2 : List Value) (i : Nat) : Hw := ⟨⟨[.int .u8 nb, I m, I i, I rw, I st, I rw, I st], [(n, cw), (n, cv), (m, cu), (n, n), (n, n), (m, m)]⟩, [tb, ws, vs, us, ws2, vs2, us2], []⟩
def dnI (z : Int) : Int := if IntKind.i64.wrap (z - 1) > 0 then IntKind.i64.wrap (z - 1) else 0
noncomputable def C28 (lo hi : Int) : Con where
 A := .agg (.hole (.hole .nil)) .nil
 bs := [.dead, .dead]
 pre y := y = ⟨⟨[I lo, I hi], []⟩, []⟩
 res _ := .ret (.agg ⟨[I (dnI lo), I (dnI hi)]⟩)
end Go.Ab
set_option maxRecDepth 100000
namespace Go.Ab
open Go Go.RowKit Go.Proofs
noncomputable def B96d : List TBw := [.dead, .dead, .dead, .dead, .dead, .dead, .dead, .cells Zp 99 .var, .cells Z1 37 .var, .cells Zp 99 .var, .dead, .dead, .dead, .dead, .dead, .cells Zp 99 .var, .cells (.func 84 .nil .nil .nil) 130 .var, .cells Zp 99 .var, .cells Zp 99 .var, .defs, .loop 15 (mkS 15 [(2, .ptr 16 0 .nil), (4, .ptr 17 0 .nil), (5, .ptr 18 0 .nil)]) #[8] p83, .list 104 .var, .cells (.yield 20 .nil) 128 .var, .defs, .loop 15 (mkS 15 [(2, .ptr 21 0 .nil), (3, .ptr 22 0 .nil)]) #[8] p85]
noncomputable def T96od : Tw := ⟨35, mkS 35 [(0, .hole .nil), (1, .yield 24 .nil), (8, .hole .nil), (9, .hole .nil)], 25, B96d⟩
noncomputable def T96id : Tw := ⟨35, mkS 35 [(0, .hole .nil), (1, .yield 24 .nil), (4, .hole .nil), (8, .hole .nil), (9, .hole .nil), (13, .hole .nil), (14, .hole .nil)], 25, B96d⟩
noncomputable def h96od (s : Nat) (rl : List Value) (lim : Int) (i : Nat) : Hw := ⟨⟨[I s, I lim, I i], []⟩, [rl], []⟩
noncomputable def h96id (s size : Nat) (rl : List Value) (lim : Int) (i : Nat) (lim2 : Int) (p : Nat) : Hw := ⟨⟨[I s, I size, I lim, I i, I lim2, I p], []⟩, [rl], []⟩
end Go.Ab
set_option maxRecDepth 100000
namespace Go.Ab
open Go Go.RowKit Go.Proofs
end Go.Ab
