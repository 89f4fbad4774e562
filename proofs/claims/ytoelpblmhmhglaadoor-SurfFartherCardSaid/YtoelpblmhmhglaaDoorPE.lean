/- package surf: forms of surfs of which slices are nil. -/
import Derived.Test.YtoelpblmhmhglaaDoorPD
set_option maxRecDepth 100000
namespace Go.Ab
open Go Go.RowKit Go.Proofs
def bsH : List TB := [.dead, .dead, .dead, .dead, .list 1 .ro]
noncomputable def mH (us : List Value) : Mem := ⟨fillX [.dead, .dead, .dead, .dead, .cells us 1 .ro] 0 .nil, 5⟩
noncomputable def su_n (rw st : Int) (c1 m cu : Nat) : Value := .agg ⟨[I rw, I st, nilS, nilS, slV 4 m cu]⟩
noncomputable def SuTn : TL := .hole (.hole (.val nilS (.val nilS (.slice 4 0 .nil))))
noncomputable def Bn : List TBw := [.dead, .dead, .dead, .dead, .list 1 .ro, .cells SuTn 25 .var]
noncomputable def T20bn : Tw := ⟨91, mkS 91 [(1, .ptr 5 0 .nil), (4, .hole .nil)], 6, Bn⟩
noncomputable def T79bn : Tw := ⟨85, mkS 85 [(1, .ptr 5 0 .nil), (59, .slice 4 0 .nil), (60, .hole .nil), (61, .hole .nil)], 6, Bn⟩
noncomputable def h20n (rw st : Int) (c1 m cu : Nat) (us : List Value) (i : Nat) : Hw := ⟨⟨[I i, I rw, I st], [(m, cu)]⟩, [us], []⟩
noncomputable def h79n (rw st : Int) (c1 m cu : Nat) (us : List Value) (i : Nat) : Hw := ⟨⟨[I m, I i, I rw, I st], [(m, cu), (m, cu)]⟩, [us], []⟩
noncomputable def C20n (rw st : Int) (c1 m cu : Nat) (us : List Value) (r : Bool) : Con where
 A := .agg SuTn .nil
 bs := bsH
 pre x := x = ⟨⟨[I rw, I st], [(m, cu)]⟩, [us]⟩
 res _ := .ret (.bool r)
noncomputable def CSn (rw st : Int) (c1 m cu : Nat) (us : List Value) (a : Int) (r : Value) : Con where
 A := .agg SuTn (.hole .nil)
 bs := bsH
 pre x := x = ⟨⟨[I rw, I st, I a], [(m, cu)]⟩, [us]⟩
 res _ := .ret r
noncomputable def su_v (rw st : Int) (c1 m cu : Nat) : Value := .agg ⟨[I rw, I st, nilS, slV 3 0 c1, slV 4 m cu]⟩
noncomputable def SuTv : TL := .hole (.hole (.val nilS (.slice 3 0 (.slice 4 0 .nil))))
noncomputable def Bv : List TBw := [.dead, .dead, .dead, .dead, .list 1 .ro, .cells SuTv 25 .var]
noncomputable def T20bv : Tw := ⟨91, mkS 91 [(1, .ptr 5 0 .nil), (4, .hole .nil)], 6, Bv⟩
noncomputable def T79bv : Tw := ⟨85, mkS 85 [(1, .ptr 5 0 .nil), (59, .slice 4 0 .nil), (60, .hole .nil), (61, .hole .nil)], 6, Bv⟩
noncomputable def h20v (rw st : Int) (c1 m cu : Nat) (us : List Value) (i : Nat) : Hw := ⟨⟨[I i, I rw, I st], [(0, c1), (m, cu)]⟩, [us], []⟩
noncomputable def h79v (rw st : Int) (c1 m cu : Nat) (us : List Value) (i : Nat) : Hw := ⟨⟨[I m, I i, I rw, I st], [(m, cu), (0, c1), (m, cu)]⟩, [us], []⟩
noncomputable def C20v (rw st : Int) (c1 m cu : Nat) (us : List Value) (r : Bool) : Con where
 A := .agg SuTv .nil
 bs := bsH
 pre x := x = ⟨⟨[I rw, I st], [(0, c1), (m, cu)]⟩, [us]⟩
 res _ := .ret (.bool r)
noncomputable def CSv (rw st : Int) (c1 m cu : Nat) (us : List Value) (a : Int) (r : Value) : Con where
 A := .agg SuTv (.hole .nil)
 bs := bsH
 pre x := x = ⟨⟨[I rw, I st, I a], [(0, c1), (m, cu)]⟩, [us]⟩
 res _ := .ret r
noncomputable def su_w (rw st : Int) (c1 m cu : Nat) : Value := .agg ⟨[I rw, I st, slV 2 0 c1, nilS, slV 4 m cu]⟩
noncomputable def SuTw : TL := .hole (.hole (.slice 2 0 (.val nilS (.slice 4 0 .nil))))
noncomputable def Bw : List TBw := [.dead, .dead, .dead, .dead, .list 1 .ro, .cells SuTw 25 .var]
noncomputable def T20bw : Tw := ⟨91, mkS 91 [(1, .ptr 5 0 .nil), (4, .hole .nil)], 6, Bw⟩
noncomputable def T79bw : Tw := ⟨85, mkS 85 [(1, .ptr 5 0 .nil), (59, .slice 4 0 .nil), (60, .hole .nil), (61, .hole .nil)], 6, Bw⟩
noncomputable def h20w (rw st : Int) (c1 m cu : Nat) (us : List Value) (i : Nat) : Hw := ⟨⟨[I i, I rw, I st], [(0, c1), (m, cu)]⟩, [us], []⟩
noncomputable def h79w (rw st : Int) (c1 m cu : Nat) (us : List Value) (i : Nat) : Hw := ⟨⟨[I m, I i, I rw, I st], [(m, cu), (0, c1), (m, cu)]⟩, [us], []⟩
noncomputable def C20w (rw st : Int) (c1 m cu : Nat) (us : List Value) (r : Bool) : Con where
 A := .agg SuTw .nil
 bs := bsH
 pre x := x = ⟨⟨[I rw, I st], [(0, c1), (m, cu)]⟩, [us]⟩
 res _ := .ret (.bool r)
noncomputable def CSw (rw st : Int) (c1 m cu : Nat) (us : List Value) (a : Int) (r : Value) : Con where
 A := .agg SuTw (.hole .nil)
 bs := bsH
 pre x := x = ⟨⟨[I rw, I st, I a], [(0, c1), (m, cu)]⟩, [us]⟩
 res _ := .ret r
noncomputable def suN (rw st : Int) (n cw n2 cv : Nat) : Value := .agg ⟨[I rw, I st, slV 2 n cw, slV 3 n2 cv, nilS]⟩
noncomputable def SuTN : TL := .hole (.hole (.slice 2 0 (.slice 3 0 (.val nilS .nil))))
noncomputable def T20aN : Tw := ⟨91, mkS 91 [(1, .ptr 5 0 .nil), (3, .hole .nil)], 6, [.dead, .dead, .list 1 .ro, .list 1 .ro, .dead, .cells SuTN 25 .var]⟩
noncomputable def h20N (rw st : Int) (n cw n2 cv : Nat) (ws vs : List Value) (i : Nat) : Hw := ⟨⟨[I i, I rw, I st], [(n, cw), (n2, cv)]⟩, [ws, vs], []⟩
noncomputable def mN (ws vs : List Value) : Mem := ⟨fillX [.dead, .dead, .cells ws 1 .ro, .cells vs 1 .ro, .dead] 0 .nil, 5⟩
noncomputable def C20N (rw st : Int) (n cw n2 cv : Nat) (ws vs : List Value) (r : Bool) : Con where
 A := .agg SuTN .nil
 bs := [.dead, .dead, .list 1 .ro, .list 1 .ro, .dead]
 pre x := x = ⟨⟨[I rw, I st], [(n, cw), (n2, cv)]⟩, [ws, vs]⟩
 res _ := .ret (.bool r)
end Go.Ab
