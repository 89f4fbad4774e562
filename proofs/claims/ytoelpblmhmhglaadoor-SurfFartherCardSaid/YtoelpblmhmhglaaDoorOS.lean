/- package surf: forms. -/
import Derived.Test.YtoelpblmhmhglaaDoorOO
import Derived.Test.YtoelpblmhmhglaaDoorON
import Derived.Test.YtoelpblmhmhglaaDoorOR
set_option maxRecDepth 100000
namespace Go.Ab
open Go Go.RowKit Go.Proofs
abbrev CA (f : FuncId) (C : Con) (x : Hx) (r : Prop) : Prop := ConOK Tryd.prog f C ∧ C.pre x ∧ r
abbrev CN (f : FuncId) (C : ConN) (x : Hx) (r : Prop) : Prop := ConNOK Tryd.prog f C ∧ C.pre x ∧ r
abbrev CW (f : FuncId) (C : ConW) (x : Hw) (r : Prop) : Prop := ConWOK Tryd.prog f C ∧ C.pre x ∧ r
abbrev LW (p : Loc) (T : Tw) (h : Hw) (e : AExit) (T2 : Tw) (h2 : Hw) (r : Prop) : Prop := ClW h ∧ LoopOW Tryd.prog .none p T h e T2 h2 ∧ r
abbrev VR (v : Value) : Prop := v = v
abbrev OT (b c : Bool) : Prop := (some (Value.bool b) : Option Value) = some (Value.bool c)
abbrev farB (a b c : Int) : Bool := decide ((if a > if b > c then b else c then a else if b > c then b else c) > 40)
theorem nglob : Tryd.prog.globals.size = 2 := by kernel_rfl
noncomputable def slV (j n c : Nat) : Value := .slice (some ⟨j, 0, none⟩) n c
noncomputable def nilS : Value := .slice none 0 0
structure Sp where
 lo : Int
 hi : Int
structure Hut where
 fl : Int
 br : Int
 row : Nat
structure Key where
 fl : Int
 br : Int
 row : Nat
 hour : Nat
deriving DecidableEq
structure Out where
 rows : Nat
 fl : Bool
 re : Bool
noncomputable def spV (s : Sp) : List Value := [I s.lo, I s.hi]
noncomputable def huV (h : Hut) : List Value := [I h.fl, I h.br, I h.row]
noncomputable def keV (k : Key) : Value := .agg ⟨[I k.fl, I k.br, I k.row, I k.hour]⟩
noncomputable def ouV (o : Out) : Value := .agg ⟨[I o.rows, .bool o.fl, .bool o.re]⟩
noncomputable def spL (n : Nat) (w : Nat → Sp) : List Value := flatC n fun i => spV (w i)
noncomputable def huL (m : Nat) (u : Nat → Hut) : List Value := flatC m fun i => huV (u i)
noncomputable def shV (rw st : Int) (n cw cv m cu : Nat) : Value := .agg ⟨[I rw, I st, slV 2 n cw, slV 3 n cv, slV 4 m cu, .map (some 5)]⟩
def ShT (l : TL) : TL := .agg (.hole (.hole (.slice 2 0 (.slice 3 0 (.slice 4 0 (.map 5 .nil)))))) l
def dead6 : List TB := [.dead, .dead, .dead, .dead, .dead, .dead]
noncomputable def m6 : Mem := ⟨fillX [.dead, .dead, .dead, .dead, .dead, .dead] 0 .nil, 6⟩
def dpI (st w row : Int) : Int := if (0 : Int) > IntKind.i64.wrap (w - IntKind.i64.wrap (st * row)) then (0 : Int) else IntKind.i64.wrap (w - IntKind.i64.wrap (st * row))
def liI (st w v fl row : Int) : Bool := decide (dpI st w row > (0 : Int)) && decide (IntKind.i64.wrap (dpI st w row + v) > fl)
noncomputable def C104 (rw st : Int) (n cw cv m cu : Nat) (w v fl br row : Int) (lf : Bool) : Con where
 A := ShT (.agg (.hole (.hole .nil)) (.agg (.hole (.hole (.hole .nil))) .nil))
 bs := dead6
 pre x := x = ⟨⟨[I rw, I st, I w, I v, I fl, I br, I row], [(n, cw), (n, cv), (m, cu)]⟩, []⟩
 res _ := .ret (.bool lf)
def jnI (a b : Int) : Int := bits .or .i64 (bits .or .i64 0 a) b
noncomputable def C99 (r1 r2 : Int) (a1 b1 a2 b2 : Bool) : Con where
 A := .agg (.hole (.hole (.hole .nil))) (.agg (.hole (.hole (.hole .nil))) .nil)
 bs := [.dead, .dead]
 pre x := x = ⟨⟨[I r1, .bool a1, .bool b1, I r2, .bool a2, .bool b2], []⟩, []⟩
 res _ := .ret (.agg ⟨[I (jnI r1 r2), .bool (a1 || a2), .bool (b1 || b2)]⟩)
noncomputable def C105 (row s : Nat) : Con where
 A := .hole .nil
 bs := [.dead, .dead]
 pre x := x = ⟨⟨[I row], []⟩, []⟩
 res _ := .ret (I s)
noncomputable def m2d : Mem := ⟨fillX [.dead, .dead] 0 .nil, 2⟩
noncomputable def m100 (ws vs : List Value) (es : List (Value × Value)) : Mem := ⟨fillX [.dead, .dead, .cells ws 1 .ro, .cells vs 1 .ro, .dead, .map es] 0 .nil, 6⟩
def bs100 : List TBc := [.dead, .dead, .rlist 1, .rlist 1, .dead, .wmap]
def p107o : Loc := .l (.r (.top 107))
def p107i : Loc := .l (.r (.l (.l (.r (.l (.l (.r (.top 107))))))))
def p100 : Loc := .l (.r (.l (.r (.r (.r (.l (.r (.top 100))))))))
def ShL : TL := .hole (.hole (.slice 2 0 (.slice 3 0 (.slice 4 0 (.map 5 .nil)))))
noncomputable def B107 : List TBw := [.dead, .dead, .list 1 .ro, .list 1 .ro, .dead, .map, .cells ShL 77 .var, .cells (.hole (.hole (.hole (.hole .nil)))) 153 .var, .cells (.val (.int .i64 0) (.val (.bool false) (.val (.bool false) .nil))) 118 .var, .dead, .cells (.hole (.hole (.hole .nil))) 118 .var, .cells ShL 77 .var, .cells (.hole .nil) 3 .var, .defs, .loop 71 (mkS 71 [(2, .ptr 6 0 .nil), (3, .ptr 7 0 .nil), (4, .ptr 8 0 .nil), (7, .ptr 10 0 .nil)]) #[22] p100]
noncomputable def T107o : Tw := ⟨48, mkS 48 [(0, .yield 14 .nil), (1, .ptr 11 0 .nil), (2, .ptr 12 0 .nil), (4, .hole .nil)], 15, B107⟩
noncomputable def T107i : Tw := ⟨48, mkS 48 [(0, .yield 14 .nil), (1, .ptr 11 0 .nil), (2, .ptr 12 0 .nil), (4, .hole .nil), (5, .hole .nil)], 15, B107⟩
structure Cx where
 rw : Int
 st : Int
 n : Nat
 cw : Nat
 cv : Nat
 m : Nat
 cu : Nat
 fl : Int
 br : Int
 row : Nat
 hour : Nat
noncomputable def h107 (x : Cx) (q : List Value) (ws vs : List Value) (es : List (Value × Value)) (r : Int) (a b : Bool) : Hw :=
 ⟨⟨q ++ [I x.rw, I x.st, I x.fl, I x.br, I x.row, I x.hour, I r, .bool a, .bool b, I x.rw, I x.st, I x.hour], [(x.n, x.cw), (x.n, x.cv), (x.m, x.cu), (x.n, x.cw), (x.n, x.cv), (x.m, x.cu)]⟩, [ws, vs], [es]⟩
def tabN : List Nat := [0, 1, 56, 2, 57, 49, 28, 3, 61, 58, 42, 50, 38, 29, 17, 4, 62, 47, 59, 36, 45, 43, 51, 22, 53, 39, 33, 30, 24, 18, 12, 5, 63, 55, 48, 27, 60, 41, 37, 16, 46, 35, 44, 21, 52, 32, 23, 11, 54, 26, 40, 15, 34, 20, 31, 10, 25, 14, 19, 9, 13, 8, 7, 6]
noncomputable def tabC : List Value := tabN.map fun (n : Nat) => Value.int .u8 (n : Int)
noncomputable def mtab : Mem := ⟨fillX [.dead, .cells tabC 1 .ro] 0 .nil, 2⟩
def bs92 : List TBc := [.dead, .rlist 1, .rlist 1, .rlist 1, .dead, .wmap]
def p98 : Loc := .l (.r (.top 98))
def p92 : Loc := .l (.r (.l (.r (.r (.top 92)))))
def bitsL (s : Nat) : List Nat := (List.range 8).filter fun i => s.testBit i
def tzN (s : Nat) : Nat := (bitsL s).headD 0
def clrN (s : Nat) : Nat := s &&& (s - 1)
noncomputable def C42 (tb : List Value) (s row : Nat) : Con where
 A := .hole .nil
 bs := [.dead, .list 1 .ro]
 pre x := x = ⟨⟨[I s], []⟩, [tb]⟩
 res _ := .ret (I row)
noncomputable def T98 : Tw := ⟨17, mkS 17 [(1, .yield 12 .nil), (4, .hole .nil)], 13,
 [.dead, .list 1 .ro, .list 1 .ro, .list 1 .ro, .dead, .map, .cells ShL 77 .var, .cells (.hole (.hole (.hole .nil))) 36 .var, .cells (.hole .nil) 3 .var, .cells (.val (.int .i64 0) (.val (.bool false) (.val (.bool false) .nil))) 118 .var, .cells (.hole (.hole (.hole .nil))) 118 .var, .defs, .loop 24 (mkS 24 [(4, .ptr 6 0 .nil), (6, .ptr 7 0 .nil), (7, .ptr 8 0 .nil), (8, .ptr 9 0 .nil), (9, .ptr 10 0 .nil)]) #[13] p92]⟩
noncomputable def h98 (rw st : Int) (n cw cv m cu : Nat) (fl br row0 : Int) (hour : Nat) (tb ws vs : List Value) (es : List (Value × Value)) (rest r : Int) (a b : Bool) : Hw :=
 ⟨⟨[I rest, I rw, I st, I fl, I br, I row0, I hour, I r, .bool a, .bool b], [(n, cw), (n, cv), (m, cu)]⟩, [tb, ws, vs], [es]⟩
noncomputable def CW100 (rw st : Int) (n cw cv m cu : Nat) (fl br : Int) (row hour : Nat) (ws vs : List Value) (es es2 : List (Value × Value)) (q : Int) (a b : Bool) : ConW where
 A := ShT (.agg (.hole (.hole (.hole (.hole .nil)))) .nil)
 bs := bs100
 pre y := y = ⟨⟨[I rw, I st, I fl, I br, I row, I hour], [(n, cw), (n, cv), (m, cu)]⟩, [ws, vs], [es]⟩
 out _ := [.mp es2]
 res _ := .ret (.agg ⟨[I q, .bool a, .bool b]⟩)
noncomputable def CW92 (rw st : Int) (n cw cv m cu : Nat) (rows : Nat) (fl br row0 : Int) (hour : Nat) (tb ws vs : List Value) (es es2 : List (Value × Value)) (q : Int) (a b : Bool) : ConW where
 A := ShT (.hole (.agg (.hole (.hole (.hole .nil))) (.hole .nil)))
 bs := bs92
 pre y := y = ⟨⟨[I rw, I st, I rows, I fl, I br, I row0, I hour], [(n, cw), (n, cv), (m, cu)]⟩, [tb, ws, vs], [es]⟩
 out _ := [.mp es2]
 res _ := .ret (.agg ⟨[I q, .bool a, .bool b]⟩)
noncomputable def mt92 (tb ws vs : List Value) (es : List (Value × Value)) : Mem := ⟨fillX [.dead, .cells tb 1 .ro, .cells ws 1 .ro, .cells vs 1 .ro, .dead, .map es] 0 .nil, 6⟩
noncomputable def CW72 (rw st : Int) (n cw cv m cu : Nat) (fl br : Int) (row : Nat) (tb ws vs : List Value) (es es2 : List (Value × Value)) (c0 c1 c2 c3 c4 c5 c6 c7 c8 : Int) : ConW where
 A := ShT (.agg (.hole (.hole (.hole .nil))) .nil)
 bs := bs92
 pre y := y = ⟨⟨[I rw, I st, I fl, I br, I row], [(n, cw), (n, cv), (m, cu)]⟩, [tb, ws, vs], [es]⟩
 out _ := [.mp es2]
 res _ := .ret (.agg ⟨[I c0, I c1, I c2, I c3, I c4, I c5, I c6, I c7, I c8]⟩)
def p72 : Loc := .l (.r (.l (.r (.r (.top 72)))))
def p90 : Loc := .l (.r (.l (.r (.r (.top 90)))))
noncomputable def Z9 : TL := .val (.int .i64 0) (.val (.int .i64 0) (.val (.int .i64 0) (.val (.int .i64 0) (.val (.int .i64 0) (.val (.int .i64 0) (.val (.int .i64 0) (.val (.int .i64 0) (.val (.int .i64 0) .nil))))))))
noncomputable def T72 : Tw := ⟨31, mkS 31 [(2, .ptr 6 0 .nil), (3, .ptr 7 0 .nil), (4, .ptr 8 0 .nil), (5, .ptr 9 0 .nil), (14, .hole .nil), (15, .hole .nil)], 10,
 [.dead, .list 1 .ro, .list 1 .ro, .list 1 .ro, .dead, .map, .cells ShL 77 .var, .cells (.hole (.hole (.hole .nil))) 36 .var, .cells Z9 120 .var, .list 120 .var]⟩
noncomputable def h72 (rw st : Int) (n cw cv m cu : Nat) (fl br : Int) (row : Nat) (tb ws vs cs : List Value) (es : List (Value × Value)) (i : Nat) : Hw :=
 ⟨⟨[I n, I i, I rw, I st, I fl, I br, I row], [(n, cw), (n, cv), (m, cu)]⟩, [tb, ws, vs, cs], [es]⟩
noncomputable def T90 (f : Nat) : Tw := ⟨21, mkS 21 [(1, .func 91 .nil (.ptr 8 0 (.ptr 6 0 (.ptr 9 0 (.ptr 7 0 .nil)))) .nil), (5, .hole .nil), (7, .hole .nil), (8, .hole .nil)], 10,
 [.dead, .list 1 .ro, .list 1 .ro, .list 1 .ro, .dead, .map, .cells ShL 77 .var, .cells (.hole (.hole (.hole .nil))) 36 .var, .cells (.func f .nil .nil .nil) 116 .var, .list 120 .var]⟩
noncomputable def h90 (rw st : Int) (n cw cv m cu : Nat) (fl br : Int) (row : Nat) (tb ws vs cs : List Value) (es : List (Value × Value)) (acc : Int) (i : Nat) : Hw :=
 ⟨⟨[I acc, I n, I i, I rw, I st, I fl, I br, I row], [(n, cw), (n, cv), (m, cu)]⟩, [tb, ws, vs, cs], [es]⟩
noncomputable def CW68 (f : Nat) (rw st : Int) (n cw cv m cu : Nat) (fl br : Int) (row : Nat) (tb ws vs : List Value) (es es2 : List (Value × Value)) (acc : Int) : ConW where
 A := ShT (.agg (.hole (.hole (.hole .nil))) (.func f .nil .nil .nil))
 bs := bs92
 pre y := y = ⟨⟨[I rw, I st, I fl, I br, I row], [(n, cw), (n, cv), (m, cu)]⟩, [tb, ws, vs], [es]⟩
 out _ := [.mp es2]
 res _ := .ret (I acc)
def SuL : TL := .hole (.hole (.slice 2 0 (.slice 3 0 (.slice 4 0 .nil))))
noncomputable def suV (rw st : Int) (n cw cv m cu : Nat) : Value := .agg ⟨[I rw, I st, slV 2 n cw, slV 3 n cv, slV 4 m cu]⟩
noncomputable def mSu (tb ws vs us : List Value) : Mem := ⟨fillX [.dead, .cells tb 1 .ro, .cells ws 1 .ro, .cells vs 1 .ro, .cells us 1 .ro] 0 .nil, 5⟩
noncomputable def mSd (ws vs us : List Value) : Mem := ⟨fillX [.dead, .dead, .cells ws 1 .ro, .cells vs 1 .ro, .cells us 1 .ro] 0 .nil, 5⟩
def p79a : Loc := .l (.r (.l (.r (.r (.r (.top 79))))))
def p79b : Loc := .l (.r (.l (.r (.r (.r (.r (.top 79)))))))
noncomputable def B79 : List TBw := [.dead, .dead, .list 1 .ro, .list 1 .ro, .list 1 .ro, .cells SuL 25 .var]
noncomputable def T79a : Tw := ⟨85, mkS 85 [(1, .ptr 5 0 .nil), (37, .hole .nil), (38, .hole .nil)], 6, B79⟩
noncomputable def T79b : Tw := ⟨85, mkS 85 [(1, .ptr 5 0 .nil), (59, .slice 4 0 .nil), (60, .hole .nil), (61, .hole .nil)], 6, B79⟩
noncomputable def h79a (rw st : Int) (n cw cv m cu : Nat) (ws vs us : List Value) (i : Nat) : Hw := ⟨⟨[I n, I i, I rw, I st], [(n, cw), (n, cv), (m, cu)]⟩, [ws, vs, us], []⟩
noncomputable def h79b (rw st : Int) (n cw cv m cu : Nat) (ws vs us : List Value) (i : Nat) : Hw := ⟨⟨[I m, I i, I rw, I st], [(m, cu), (n, cw), (n, cv), (m, cu)]⟩, [ws, vs, us], []⟩
noncomputable def C79 (rw st : Int) (n cw cv m cu : Nat) (ws vs us : List Value) : Con where
 A := .agg SuL .nil
 bs := [.dead, .dead, .list 1 .ro, .list 1 .ro, .list 1 .ro]
 pre x := x = ⟨⟨[I rw, I st], [(n, cw), (n, cv), (m, cu)]⟩, [ws, vs, us]⟩
 res _ := .ret (.bool true)
noncomputable def CW36 (rw st : Int) (n cw cv m cu : Nat) (fl br : Int) (row : Nat) (tb ws vs : List Value) (es es2 : List (Value × Value)) (x y : Int) : ConW where
 A := ShT (.agg (.hole (.hole (.hole .nil))) .nil)
 bs := bs92
 pre y := y = ⟨⟨[I rw, I st, I fl, I br, I row], [(n, cw), (n, cv), (m, cu)]⟩, [tb, ws, vs], [es]⟩
 out _ := [.mp es2]
 res _ := .ret (.agg ⟨[I x, I y]⟩)
noncomputable def CW39 (rw st : Int) (n cw cv m cu : Nat) (fl br : Int) (row : Nat) (tb ws vs : List Value) (es es2 : List (Value × Value)) (x : Int) : ConW where
 A := ShT (.agg (.hole (.hole (.hole .nil))) .nil)
 bs := bs92
 pre y := y = ⟨⟨[I rw, I st, I fl, I br, I row], [(n, cw), (n, cv), (m, cu)]⟩, [tb, ws, vs], [es]⟩
 out _ := [.mp es2]
 res _ := .ret (I x)
noncomputable def CW46 (rw st : Int) (n cw cv m cu : Nat) (fl br : Int) (row hour : Nat) (tb ws vs : List Value) (es es2 : List (Value × Value)) (x : Int) (b : Bool) : ConW where
 A := ShT (.agg (.hole (.hole (.hole .nil))) (.hole .nil))
 bs := bs92
 pre y := y = ⟨⟨[I rw, I st, I fl, I br, I row, I hour], [(n, cw), (n, cv), (m, cu)]⟩, [tb, ws, vs], [es]⟩
 out _ := [.mp es2]
 res _ := .ret (.agg ⟨[I x, .bool b]⟩)
def bsSu : List TB := [.dead, .list 1 .ro, .list 1 .ro, .list 1 .ro, .list 1 .ro]
noncomputable def CS1 (rw st : Int) (n cw cv m cu : Nat) (tb ws vs us : List Value) (a : Int) (r : Value) : Con where
 A := .agg SuL (.hole .nil)
 bs := bsSu
 pre x := x = ⟨⟨[I rw, I st, I a], [(n, cw), (n, cv), (m, cu)]⟩, [tb, ws, vs, us]⟩
 res _ := .ret r
noncomputable def CS2 (rw st : Int) (n cw cv m cu : Nat) (tb ws vs us : List Value) (a b : Int) (r : Value) : Con where
 A := .agg SuL (.hole (.hole .nil))
 bs := bsSu
 pre x := x = ⟨⟨[I rw, I st, I a, I b], [(n, cw), (n, cv), (m, cu)]⟩, [tb, ws, vs, us]⟩
 res _ := .ret r
noncomputable def CS2d (rw st : Int) (n cw cv m cu : Nat) (ws vs us : List Value) (a b : Int) (r : Value) : Con where
 A := .agg SuL (.hole (.hole .nil))
 bs := [.dead, .dead, .list 1 .ro, .list 1 .ro, .list 1 .ro]
 pre x := x = ⟨⟨[I rw, I st, I a, I b], [(n, cw), (n, cv), (m, cu)]⟩, [ws, vs, us]⟩
 res _ := .ret r
structure Raw where
 fl : Int
 br : Int
 row : Int
noncomputable def raV (h : Raw) : List Value := [I h.fl, I h.br, I h.row]
noncomputable def raL (m : Nat) (u : Nat → Raw) : List Value := flatC m fun i => raV (u i)
noncomputable def suR (rw st : Int) (n cw n2 cv m cu : Nat) : Value := .agg ⟨[I rw, I st, slV 2 n cw, slV 3 n2 cv, slV 4 m cu]⟩
def inB (x a b : Int) : Bool := decide (a ≤ x) && decide (x ≤ b)
def spB (s : Sp) (hi : Int) : Bool := decide (0 ≤ s.lo) && (decide (s.lo ≤ s.hi) && (decide (s.hi ≤ hi) && decide (IntKind.i64.wrap (s.hi - s.lo) ≤ 3)))
noncomputable def C52 (x a b : Int) (r : Bool) : Con where
 A := .hole (.hole (.hole .nil))
 bs := [.dead, .dead]
 pre y := y = ⟨⟨[I x, I a, I b], []⟩, []⟩
 res _ := .ret (.bool r)
noncomputable def C53 (lo hi most : Int) (r : Bool) : Con where
 A := .agg (.hole (.hole .nil)) (.hole .nil)
 bs := [.dead, .dead]
 pre y := y = ⟨⟨[I lo, I hi, I most], []⟩, []⟩
 res _ := .ret (.bool r)
def p20a : Loc := .l (.r (.l (.r (.r (.top 20)))))
def p20b : Loc := .l (.r (.l (.r (.r (.r (.top 20))))))
noncomputable def T20a : Tw := ⟨91, mkS 91 [(1, .ptr 5 0 .nil), (3, .hole .nil)], 6, B79⟩
noncomputable def T20b : Tw := ⟨91, mkS 91 [(1, .ptr 5 0 .nil), (4, .hole .nil)], 6, B79⟩
noncomputable def R20 : Tw := ⟨91, mkS 91 [(2, .hole .nil)], 6, [.dead, .dead, .dead, .dead, .dead, .dead]⟩
noncomputable def h20 (rw st : Int) (n cw n2 cv m cu : Nat) (ws vs us : List Value) (i : Nat) : Hw := ⟨⟨[I i, I rw, I st], [(n, cw), (n2, cv), (m, cu)]⟩, [ws, vs, us], []⟩
noncomputable def C20 (rw st : Int) (n cw n2 cv m cu : Nat) (ws vs us : List Value) (r : Bool) : Con where
 A := .agg SuL .nil
 bs := [.dead, .dead, .list 1 .ro, .list 1 .ro, .list 1 .ro]
 pre x := x = ⟨⟨[I rw, I st], [(n, cw), (n2, cv), (m, cu)]⟩, [ws, vs, us]⟩
 res _ := .ret (.bool r)
def dpF (st w row : Int) : Int := if IntKind.i64.wrap (w - IntKind.i64.wrap (st * row)) > (0 : Int) then IntKind.i64.wrap (w - IntKind.i64.wrap (st * row)) else (0 : Int)
def p87 : Loc := .l (.r (.l (.r (.r (.top 87)))))
def p88 : Loc := .l (.r (.top 88))
def p89 : Loc := .l (.r (.top 89))
def Sh14 : TL := .hole (.hole (.slice 2 0 (.slice 3 0 (.slice 4 0 (.map 14 .nil)))))
noncomputable def Z3 : TL := .val (.int .i64 0) (.val (.int .i64 0) (.val (.int .i64 0) .nil))
noncomputable def Z1 : TL := .val (.int .i64 0) .nil
noncomputable def T88 (f : Nat) : Tw := ⟨15, mkS 15 [(0, .yield 27 .nil), (1, .ptr 19 0 .nil)], 28,
 [.dead, .list 1 .ro, .list 1 .ro, .list 1 .ro, .list 1 .ro, .dead, .dead, .cells Z1 3 .var, .cells Z1 37 .var, .dead, .dead, .dead, .dead, .dead, .map, .dead, .dead, .dead, .dead, .cells (.hole (.hole (.hole .nil))) 36 .var, .cells Sh14 77 .var, .cells (.iface f (.agg .nil .nil) .nil) 133 .var, .cells Z3 36 .var, .cells (.func 86 .nil (.ptr 21 0 (.ptr 20 0 .nil)) .nil) 138 .var, .cells Z3 36 .var, .cells Z3 36 .var, .defs, .loop 15 (mkS 15 [(2, .ptr 23 0 .nil), (4, .ptr 24 0 .nil), (5, .ptr 25 0 .nil)]) #[8] p87]⟩
noncomputable def R88 : Tw := ⟨15, mkS 15 [], 28,
 [.dead, .dead, .dead, .dead, .dead, .dead, .dead, .cells Z1 3 .var, .cells Z1 37 .var, .dead, .dead, .dead, .dead, .dead, .dead, .dead, .dead, .dead, .dead, .dead, .dead, .dead, .cells Z3 36 .var, .dead, .cells Z3 36 .var, .cells (.hole (.hole (.hole .nil))) 36 .var, .defs, .ended (some 0) 15 (mkS 15 [(4, .ptr 24 0 .nil), (5, .ptr 25 0 .nil)]) #[8] p87]⟩
noncomputable def h88 (rw st : Int) (n cw cv m cu : Nat) (fl br : Int) (row : Nat) (tb ws vs us : List Value) (es : List (Value × Value)) : Hw := ⟨⟨[I fl, I br, I row, I rw, I st], [(n, cw), (n, cv), (m, cu)]⟩, [tb, ws, vs, us], [es]⟩
noncomputable def r88 (fl br : Int) (row : Nat) : Hw := ⟨⟨[I fl, I br, I row], []⟩, [], []⟩
abbrev GN (n z k b : Nat) (l : List Value) : Prop := ((0 < n ∧ 0 + n * k ≤ l.length) ∧ (List.take (n * k) (List.drop 0 l)).all one = true) ∧ ¬z ≤ 0 ∧ 0 = 0 ∧ z * b ≤ 140737488355328 ∧ z ≤ 4611686018427387904
abbrev HR (k m : Nat) (u : Nat → Hut) : Prop := 0 + k * 3 + 3 ≤ (huL m u).length ∧ (Value.agg ⟨[I (u k).fl, I (u k).br, I (u k).row]⟩) = .agg ⟨List.take 3 (List.drop (0 + k * 3) (huL m u))⟩
abbrev SV (j m c : Nat) : Prop := (some (Value.slice (some ⟨j, 0, none⟩) m c)) = some (.slice (some ⟨j, 0, none⟩) m c) ∧ True
abbrev PW (r : Nat) : Prop := (0 ≤ (r : Int) ∧ (r : Int) ≤ ((64 : Nat) : Int)) ∧ (I (IntKind.i64.wrap (1 * 2 ^ (r : Int).toNat)) : Value) = I (IntKind.i64.wrap (1 * 2 ^ (r : Int).toNat))
end Go.Ab
set_option maxRecDepth 100000
namespace Go.Ab
open Go Go.RowKit Go.Proofs
def swN (row : Nat) : Nat := if row = 0 then 6 else row - 1
def orO (x y : Out) : Out := ⟨x.rows ||| y.rows, x.fl || y.fl, x.re || y.re⟩
def nilO : Out := ⟨0, false, false⟩
def seaO (st : Int) (k : Key) (w v : Int) : Out :=
 if liI st w v k.fl k.row = false then ⟨2 ^ k.row, false, true⟩ else if v ≤ k.br then ⟨2 ^ k.row, true, false⟩ else ⟨2 ^ swN k.row, true, false⟩
def inO (st : Int) (k : Key) (w va : Int) (o : Out) : Nat → Out
 | 0 => o
 | i + 1 => orO (inO st k w va o i) (seaO st k w (va + i))
def thO (st : Int) (k : Key) (wa va : Int) (c : Nat) : Nat → Out
 | 0 => nilO
 | i + 1 => inO st k (wa + i) va (thO st k wa va c i) c
def rdN (s : Sp) : Nat := (s.hi - s.lo + 1).toNat
def livO (st : Int) (w v : Nat → Sp) (k : Key) : Out := thO st k (w k.hour).lo (v k.hour).lo (rdN (v k.hour)) (rdN (w k.hour))
def outO (st : Int) (w v : Nat → Sp) (k : Key) : Out := if k.row = 6 then ⟨64, false, true⟩ else livO st w v k
structure SOK (rw st : Int) (n : Nat) (w v : Nat → Sp) : Prop where
 rw1 : 1 ≤ rw
 rw6 : rw ≤ 6
 st0 : 0 ≤ st
 st4 : st ≤ 4
 n8 : n ≤ 8
 w : ∀ i, i < n → 0 ≤ (w i).lo ∧ (w i).lo ≤ (w i).hi ∧ (w i).hi ≤ 30 ∧ (w i).hi - (w i).lo ≤ 3
 v : ∀ i, i < n → 0 ≤ (v i).lo ∧ (v i).lo ≤ (v i).hi ∧ (v i).hi ≤ 10 ∧ (v i).hi - (v i).lo ≤ 3
theorem swN_le {row : Nat} (h : row ≤ 6) : swN row ≤ 6 := by unfold swN; split <;> omega
theorem pow_lt7 {j : Nat} (h : j ≤ 6) : 2 ^ j < 128 := Nat.lt_of_le_of_lt (Nat.pow_le_pow_right (by omega) h) (by decide)
theorem or_lt7 {a b : Nat} (ha : a < 128) (hb : b < 128) : a ||| b < 128 := Nat.or_lt_two_pow (n := 7) ha hb
theorem seaO_lt {st : Int} {k : Key} {w v : Int} (h : k.row ≤ 6) : (seaO st k w v).rows < 128 := by
 unfold seaO
 split
 · exact pow_lt7 h
 · split
   · exact pow_lt7 h
   · exact pow_lt7 (swN_le h)
theorem inO_lt {st : Int} {k : Key} {w va : Int} {o : Out} (h : k.row ≤ 6) (ho : o.rows < 128) (i : Nat) : (inO st k w va o i).rows < 128 := by
 induction i with
 | zero => exact ho
 | succ i ih => exact or_lt7 ih (seaO_lt h)
theorem thO_lt {st : Int} {k : Key} {wa va : Int} {c : Nat} (h : k.row ≤ 6) (i : Nat) : (thO st k wa va c i).rows < 128 := by
 induction i with
 | zero => exact (by decide : (0 : Nat) < 128)
 | succ i ih => exact inO_lt h ih c
theorem outO_lt {st : Int} {w v : Nat → Sp} {k : Key} (h : k.row ≤ 6) : (outO st w v k).rows < 128 := by
 unfold outO
 split
 · decide
 · exact thO_lt h _
def getK : List (Key × Out) → Key → Option Out
 | [], _ => none
 | e :: l, k => if k = e.1 then some e.2 else getK l k
def KpO (st : Int) (w v : Nat → Sp) (M : List (Key × Out)) : Prop := ∀ e ∈ M, e.2 = outO st w v e.1
def addK (st : Int) (w v : Nat → Sp) (M : List (Key × Out)) (k : Key) : List (Key × Out) :=
 match getK M k with
 | some _ => M
 | none => M ++ [(k, outO st w v k)]
theorem getK_mem {M : List (Key × Out)} {k : Key} {o : Out} (h : getK M k = some o) : (k, o) ∈ M := by
 induction M with
 | nil => cases h
 | cons e l ih =>
  simp only [getK] at h
  split at h
  · rename_i he
    cases h
    subst he
    exact List.mem_cons_self
  · exact List.mem_cons_of_mem _ (ih h)
theorem KpO.get {st : Int} {w v : Nat → Sp} {M : List (Key × Out)} (h : KpO st w v M) {k : Key} {o : Out} (hk : getK M k = some o) : o = outO st w v k := h _ (getK_mem hk)
theorem KpO.add {st : Int} {w v : Nat → Sp} {M : List (Key × Out)} (h : KpO st w v M) (k : Key) : KpO st w v (addK st w v M k) := by
 unfold addK
 split
 · exact h
 · intro e he
   rcases List.mem_append.1 he with he | he
   · exact h e he
   · obtain rfl := List.mem_singleton.1 he
     rfl
noncomputable def encK (M : List (Key × Out)) : List (Value × Value) := M.map fun e => (keV e.1, ouV e.2)
end Go.Ab
set_option maxRecDepth 100000
namespace Go.Ab
open Go Go.RowKit Go.Proofs
noncomputable def ints (n : Nat) (g : Nat → Int) : List Value := flatC n fun i => [I (g i)]
theorem ints_at (n : Nat) (g : Nat → Int) : ∀ v ∈ ints n g, atomic v = true := flatC_atomic fun i _ v hv => by
 simp only [List.mem_cons, List.not_mem_nil, or_false] at hv
 subst hv
 rfl
theorem ints_get {n i : Nat} (g : Nat → Int) (h : i < n) : (ints n g)[0 + i * 1]? = some (I (g i)) := by
 rw [Nat.zero_add]
 have := flatC_get (n := n) (k := 1) (g := fun i => [I (g i)]) (fun i _ => rfl) h (j := 0) (by omega)
 simp only [ints]
 simpa using this
theorem ints_len (n : Nat) (g : Nat → Int) : (ints n g).length = n * 1 := flatC_len fun i _ => rfl
theorem flatC_congr {n : Nat} {g g' : Nat → List Value} (h : ∀ i, i < n → g i = g' i) : flatC n g = flatC n g' := by
 induction n with
 | zero => rfl
 | succ n ih => rw [flatC_succ, flatC_succ, ih (fun i hi => h i (by omega)), h n (by omega)]
theorem flatC_set {n k : Nat} {g : Nat → List Value} (hk : ∀ i, i < n → (g i).length = k) {i : Nat} (hi : i < n) {v : List Value} (hv : v.length = k) :
    (flatC n g).take (i * k) ++ v ++ (flatC n g).drop (i * k + k) = flatC n fun x => if x = i then v else g x := by
 induction n with
 | zero => omega
 | succ n ih =>
  have hl := flatC_len (n := n) (g := g) (k := k) fun i hi => hk i (by omega)
  rw [flatC_succ, flatC_succ]
  by_cases h : i = n
  · subst h
    rw [if_pos rfl, List.take_append_of_le_length (by omega), List.take_of_length_le (by omega), List.drop_append, List.drop_eq_nil_of_le (by omega), List.nil_append, hl, List.drop_eq_nil_of_le (by rw [hk i (by omega)]; omega), List.append_nil]
    congr 1
    exact flatC_congr fun x hx => by rw [if_neg (by omega)]
  · have h2 := ih (fun i hi => hk i (by omega)) (by omega)
    have h3 := flatC_bound (n := n) (k := k) (i := i) (by omega)
    rw [if_neg (fun e => h e.symm), List.take_append_of_le_length (by omega), List.drop_append_of_le_length (by omega), ← List.append_assoc, h2]
theorem ints_put {n i : Nat} (o : Nat → Int) (v : Int) (hi : i < n) : (ints n o).take (0 + i * 1) ++ [I v] ++ (ints n o).drop (0 + i * 1 + 1) = ints n fun x => if x = i then v else o x := by
 have h := flatC_set (n := n) (k := 1) (g := fun i => [I (o i)]) (fun _ _ => rfl) hi (v := [I v]) rfl
 rw [Nat.zero_add]
 refine (show _ = _ from h).trans ?_
 refine flatC_congr fun x _ => ?_
 by_cases h : x = i
 · simp only [if_pos h]
 · simp only [if_neg h]
theorem bits_tab : ((List.range 256).all fun s => s == 0 || (bitsL s == tzN s :: bitsL (clrN s) && decide (bits .and .i64 (s : Int) (IntKind.i64.wrap ((s : Int) - 1)) = (clrN s : Nat)) && decide (clrN s < s) && decide (tzN s < 8) && (decide (128 ≤ s) || decide (tzN s < 7)))) = true := by kernel_rfl
theorem bits_step {s : Nat} (hs : s < 256) (h0 : s ≠ 0) : bitsL s = tzN s :: bitsL (clrN s) ∧ bits .and .i64 (s : Int) (IntKind.i64.wrap ((s : Int) - 1)) = (clrN s : Nat) ∧ clrN s < s ∧ tzN s < 8 ∧ (s < 128 → tzN s < 7) := by
 have h := List.all_eq_true.1 bits_tab s (List.mem_range.2 hs)
 simp only [Bool.or_eq_true, Bool.and_eq_true, decide_eq_true_eq, beq_iff_eq] at h
 rcases h with h | ⟨⟨⟨⟨h1, h2⟩, h3⟩, h4⟩, h5⟩
 · exact absurd h h0
 · exact ⟨h1, h2, h3, h4, fun hlt => by omega⟩
theorem bits_zero : bitsL 0 = [] := by decide
theorem jns8 : ((List.range 256).all fun a => (List.range 8).all fun j => decide (jnI (a : Int) (IntKind.i64.wrap ((1 : Int) * (2 : Int) ^ j)) = ((a ||| 2 ^ j : Nat) : Int))) = true := by kernel_rfl
theorem jn_or8 {a j : Nat} (ha : a < 256) (hj : j < 8) : jnI (a : Int) (IntKind.i64.wrap ((1 : Int) * (2 : Int) ^ j)) = ((a ||| 2 ^ j : Nat) : Int) :=
 of_decide_eq_true (List.all_eq_true.1 (List.all_eq_true.1 jns8 a (List.mem_range.2 ha)) j (List.mem_range.2 hj))
theorem jno : ((List.range 128).all fun a => (List.range 128).all fun b => decide (jnI (a : Int) (b : Int) = ((a ||| b : Nat) : Int))) = true := by kernel_rfl
theorem jn_nat {a b : Nat} (ha : a < 128) (hb : b < 128) : jnI (a : Int) (b : Int) = ((a ||| b : Nat) : Int) :=
 of_decide_eq_true (List.all_eq_true.1 (List.all_eq_true.1 jno a (List.mem_range.2 ha)) b (List.mem_range.2 hb))
section
variable (st : Int) (w v : Nat → Sp) (fl br : Int)
def evM (hour : Nat) : List Nat → List (Key × Out) → List (Key × Out)
 | [], M => M
 | r :: l, M => evM hour l (addK st w v M ⟨fl, br, r, hour⟩)
def evO (hour : Nat) : List Nat → Out → Out
 | [], o => o
 | r :: l, o => evO hour l (orO o (outO st w v ⟨fl, br, r, hour⟩))
def evR : List Nat → Int → Int
 | [], r => r
 | r :: l, _ => evR l r
def ofO (hour rows : Nat) : Out := evO st w v fl br hour (bitsL rows) nilO
def ofM (hour rows : Nat) (M : List (Key × Out)) : List (Key × Out) := evM st w v fl br hour (bitsL rows) M
def crs (row : Nat) : Nat → Nat
 | 0 => 2 ^ row
 | i + 1 => (ofO st w v fl br i (crs row i)).rows
def crM (row : Nat) (M : List (Key × Out)) : Nat → List (Key × Out)
 | 0 => M
 | i + 1 => ofM st w v fl br i (crs st w v fl br row i) (crM row M i)
def hrS (p : Out → Bool) (row : Nat) : Nat → Nat
 | 0 => 0
 | i + 1 => if p (ofO st w v fl br i (crs st w v fl br row i)) = true then hrS p row i ||| 2 ^ i else hrS p row i
def hrM (row n : Nat) (M : List (Key × Out)) : Nat → List (Key × Out)
 | 0 => crM st w v fl br row M n
 | i + 1 => ofM st w v fl br i (crs st w v fl br row i) (hrM row n M i)
end
section
variable {st : Int} {w v : Nat → Sp} {fl br : Int}
theorem evM_ok {hour : Nat} : ∀ (l : List Nat) {M : List (Key × Out)}, KpO st w v M → KpO st w v (evM st w v fl br hour l M)
 | [], _, h => h
 | r :: l, _, h => evM_ok l (h.add ⟨fl, br, r, hour⟩)
theorem evO_lt {hour : Nat} : ∀ (l : List Nat) {o : Out}, (∀ r ∈ l, r ≤ 6) → o.rows < 128 → (evO st w v fl br hour l o).rows < 128
 | [], _, _, h => h
 | r :: l, _, hl, h => evO_lt l (fun x hx => hl x (List.mem_cons_of_mem _ hx)) (or_lt7 h (outO_lt (hl r List.mem_cons_self)))
theorem bits_lt7 {s : Nat} (hs : s < 128) : ∀ r ∈ bitsL s, r ≤ 6 := by
 intro r hr
 simp only [bitsL, List.mem_filter, List.mem_range] at hr
 obtain ⟨h8, ht⟩ := hr
 have h1 := Nat.ge_two_pow_of_testBit ht
 by_cases h : r ≤ 6
 · exact h
 · have : r = 7 := by omega
   subst this
   have : (2 : Nat) ^ 7 = 128 := rfl
   omega
theorem ofO_lt {hour rows : Nat} (h : rows < 128) : (ofO st w v fl br hour rows).rows < 128 := evO_lt _ (bits_lt7 h) (by decide)
theorem crs_lt {row : Nat} (h : row ≤ 6) (i : Nat) : crs st w v fl br row i < 128 := by
 induction i with
 | zero => exact pow_lt7 h
 | succ i ih => exact ofO_lt ih
theorem crM_ok {row : Nat} {M : List (Key × Out)} (h : KpO st w v M) (i : Nat) : KpO st w v (crM st w v fl br row M i) := by
 induction i with
 | zero => exact h
 | succ i ih => exact evM_ok _ ih
theorem hrM_ok {row n : Nat} {M : List (Key × Out)} (h : KpO st w v M) (i : Nat) : KpO st w v (hrM st w v fl br row n M i) := by
 induction i with
 | zero => exact crM_ok h n
 | succ i ih => exact evM_ok _ ih
theorem hrS_lt {p : Out → Bool} {row i : Nat} (hi : i ≤ 8) : hrS st w v fl br p row i < 2 ^ i := by
 induction i with
 | zero => exact (by decide : (0 : Nat) < 1)
 | succ i ih =>
  have h := ih (by omega)
  have h2 : 2 ^ (i + 1) = 2 ^ i * 2 := Nat.pow_succ 2 i
  simp only [hrS]
  split
  · exact Nat.or_lt_two_pow (by omega) (by have := Nat.pow_pos (n := i) (show 0 < 2 by omega); omega)
  · omega
end
def crF (st : Int) (w v : Nat → Sp) (fl br : Int) (row i j : Nat) : Int := if j ≤ i then (crs st w v fl br row j : Nat) else 0
end Go.Ab
