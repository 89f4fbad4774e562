/- the law's truly: its loops. -/
import Derived.Test.YtamfplmmfbbabaaVF
import Derived.Test.YtamfplmmfbbabaaUY
import Derived.Test.YtamfplmmfbbabaaVA
import Derived.Test.YtamfplmmfbbabaaVB
import Derived.Test.YtamfplmmfbbabaaVD
set_option maxRecDepth 100000
namespace Go.Ab
open Go Go.RowKit Go.Proofs
end Go.Ab
set_option maxRecDepth 100000
namespace Go.Ab
open Go Go.RowKit Go.Proofs
theorem f19 (p m : Int) (n c : Nat) (f : Nat → Mv) (R : ARes → Prop) : (vx.call 19 [hV p n c, I m] (retK R) (m1 (mvs n f)) ((19, Hint.con (C68t p n c f)) :: [(17, .split ([(3, .split ((15, Hint.con (C54 false p m n c f)) :: (0, Hint.again) :: (0, Hint.con (C54 true p m n c f)) :: []) ([]))]) ([]))])) =
(((ConOK Try.prog 68 (C68t p n c f)) ∧ (Con.pre (C68t p n c f) ⟨⟨[(.int .i64 p)], [⟨n, c⟩]⟩, [(mvs n f)]⟩) ∧
(((decide ((0 : Int) ≤ m)) = true → (((decide (m ≤ (220 : Int))) = true → ((ConOK Try.prog 54 (C54 false p m n c f)) ∧ (Con.pre (C54 false p m n c f) ⟨⟨[(.int .i64 p), (.int .i64 m)], [⟨n, c⟩]⟩, [(mvs n f)]⟩) ∧
(((((some (.int .i64 m) : Option Value) = some (.int .i64 m))) ∧ (((((2 : Nat) ≤ (2 : Nat))) ∧ (((.agg ⟨[(.int .i64 p), (.slice (.some ⟨0, 0, .none⟩) (n) (c))]⟩) : Value) = (.agg ⟨[(.int .i64 p), (.slice (.some ⟨0, 0, .none⟩) (n) (c))]⟩))) ∧ (True))) ∧
((ConOK Try.prog 54 (C54 true p m n c f)) ∧ (Con.pre (C54 true p m n c f) ⟨⟨[(.int .i64 p), (.int .i64 m)], [⟨n, c⟩]⟩, [(mvs n f)]⟩) ∧
R (.ret (.tuple ⟨[(.agg ⟨[(.int .i64 ((↑(cntN (undB m f (lgS false f)) n) : Int))), (.int .i64 ((↑(cntN (undB m f (lgS true f)) n) : Int)))]⟩), (.int .i64 0)]⟩)))))) ∧
((decide (m ≤ (220 : Int))) = false → R (.ret (.tuple ⟨[(.agg ⟨[(.int .i64 0), (.int .i64 0)]⟩), (.int .i64 2)]⟩))))) ∧
((decide ((0 : Int) ≤ m)) = false → R (.ret (.tuple ⟨[(.agg ⟨[(.int .i64 0), (.int .i64 0)]⟩), (.int .i64 2)]⟩)))))) := by kernel_rfl
noncomputable def busyV (m : Int) (n : Nat) (f : Nat → Mv) : Value := .tuple ⟨[.agg ⟨[I (cntN (undB m f (lgS false f)) n : Nat), I (cntN (undB m f (lgS true f)) n : Nat)]⟩, I 0]⟩
noncomputable def C19 (p m : Int) (n c : Nat) (f : Nat → Mv) (v : Value) : Con where
  A := .agg (.hole (.slice 0 0 .nil)) (.hole .nil)
  bs := [.list 1 .ro]
  pre x := x = ⟨⟨[I p, I m], [(n, c)]⟩, [mvs n f]⟩
  res _ := .ret v
theorem C19_ok (p m : Int) (n c : Nat) (f : Nat → Mv) (hok : okH p n f = true) (h0 : 0 ≤ m) (h1 : m ≤ 220) : ConOK Try.prog 19 (C19 p m n c f (busyV m n f)) := by
  have h7 := (okH_iff hok).n7
  refine con_of vx_sound ⟨⟨[I p, I m], [(n, c)]⟩, [mvs n f]⟩ (fun x hx => ?_) rfl (fun _ _ => rfl) (fun x hx => by cases hx; exact mvs_atoms n f) rfl (Nat.le_of_ble_eq_true rfl) (by rw [nglob]; exact Nat.zero_le _)
  cases hx
  refine ⟨_, (f19 p m n c f _).mpr ⟨C68t_ok p n c f (by omega), ⟨rfl, hok⟩, fun _ => ⟨fun _ => ⟨C54_ok false p m n c f hok, rfl, ⟨rfl, ⟨by omega, rfl⟩, trivial⟩, C54_ok true p m n c f hok, rfl, rfl⟩, fun h => absurd h1 (of_decide_eq_false h)⟩, fun h => absurd h0 (of_decide_eq_false h)⟩⟩
theorem C19e_ok (p m : Int) (n c : Nat) (f : Nat → Mv) (hok : okH p n f = true) (h1 : 220 < m) : ConOK Try.prog 19 (C19 p m n c f (.tuple ⟨[.agg ⟨[I 0, I 0]⟩, I 2]⟩)) := by
  have h7 := (okH_iff hok).n7
  refine con_of vx_sound ⟨⟨[I p, I m], [(n, c)]⟩, [mvs n f]⟩ (fun x hx => ?_) rfl (fun _ _ => rfl) (fun x hx => by cases hx; exact mvs_atoms n f) rfl (Nat.le_of_ble_eq_true rfl) (by rw [nglob]; exact Nat.zero_le _)
  cases hx
  refine ⟨_, (f19 p m n c f _).mpr ⟨C68t_ok p n c f (by omega), ⟨rfl, hok⟩, fun _ => ⟨fun h => absurd (of_decide_eq_true h) (by omega), fun _ => rfl⟩, fun _ => rfl⟩⟩
end Go.Ab
set_option maxRecDepth 100000
namespace Go.Ab
open Go Go.RowKit Go.Proofs
def p10a : Loc := .l (.r (.l (.r (.r (.r (.r (.r (.r (.r (.top 10))))))))))
def p10b : Loc := .l (.r (.l (.r (.r (.r (.r (.r (.r (.r (.r (.r (.r (.r (.r (.r (.r (.r (.r (.r (.r (.r (.top 10))))))))))))))))))))))
def p10c : Loc := .l (.r (.r (.l (.l (.r (.r (.l (.l (.r (.l (.r (.r (.r (.r (.r (.r (.r (.r (.r (.r (.r (.r (.r (.r (.r (.r (.r (.r (.r (.top 10))))))))))))))))))))))))))))))
def p10d : Loc := .l (.r (.l (.r (.r (.r (.r (.r (.r (.r (.r (.r (.r (.r (.r (.r (.r (.r (.r (.r (.r (.r (.r (.r (.top 10))))))))))))))))))))))))
def p10e : Loc := .l (.r (.l (.r (.r (.r (.r (.r (.r (.r (.r (.r (.r (.r (.r (.r (.r (.r (.r (.r (.r (.r (.r (.r (.r (.r (.r (.top 10)))))))))))))))))))))))))))
noncomputable def S10a : List (Option TL) := mkS 314 [(2, .hole .nil), (3, .hole .nil), (4, .ptr 2 0 .nil), (9, .hole .nil), (10, .ptr 5 0 .nil), (11, .slice 6 0 .nil), (12, .slice 7 0 .nil), (63, .hole .nil), (64, .hole .nil)]
noncomputable def B10a (b : TBw) (k : TL) : List TBw := [.list 1 .ro, b, .cells (.hole (.slice 0 0 .nil)) 24 .var, .dead, .dead, .cells (.hole k) 24 .var, .list 3 .row, .list 3 .row]
noncomputable def T10a : Tw := ⟨314, S10a, 8, B10a .dead (.val nilS .nil)⟩
noncomputable def T10b : Tw := ⟨314, S10a, 8, B10a .dead (.slice 8 0 .nil) ++ [.list 33 .row]⟩
noncomputable def h10a (p : Int) (sure : Bool) (nu : Int) (n c : Nat) (ms plan other : List Value) (i : Nat) : Hw := ⟨⟨[.bool sure, .int .u8 nu, I n, I n, I i, I p, I p], [(n, n), (n, n), (n, c)]⟩, [ms, plan, other], []⟩
noncomputable def h10b (p : Int) (sure : Bool) (nu : Int) (n c : Nat) (ms plan other : List Value) (i : Nat) (ls : List Value) : Hw := ⟨⟨[.bool sure, .int .u8 nu, I n, I n, I i, I p, I p], [(n, n), (n, n), (n, c), (i, i)]⟩, [ms, plan, other, ls], []⟩
end Go.Ab
set_option maxRecDepth 100000
namespace Go.Ab
open Go Go.RowKit Go.Proofs
noncomputable def B10c : List TBw := [.list 1 .ro, .dead, .cells (.hole (.slice 0 0 .nil)) 24 .var, .dead, .dead, .cells (.hole (.slice 8 0 .nil)) 24 .var, .dead, .dead, .list 33 .row, .dead, .list 33 .row, .list 3 .row, .dead, .dead, .dead]
noncomputable def T10c : Tw := ⟨314, mkS 314 [(2, .hole .nil), (4, .ptr 2 0 .nil), (9, .hole .nil), (10, .ptr 5 0 .nil), (15, .slice 10 0 .nil), (17, .slice 11 0 .nil), (18, .hole .nil), (231, .hole .nil), (232, .hole .nil)], 15, B10c⟩
noncomputable def h10c (p : Int) (sure : Bool) (n c : Nat) (ms ms2 keep own : List Value) (s : Nat) : Hw := ⟨⟨[.bool sure, I n, I 0, I n, I s, I p, I p], [(n, n), (n, n), (n, c), (n, n)]⟩, [ms, ms2, keep, own], []⟩
noncomputable def T10d : Tw := ⟨314, mkS 314 [(2, .hole .nil), (4, .ptr 2 0 .nil), (9, .hole .nil), (10, .ptr 5 0 .nil), (15, .slice 10 0 .nil), (17, .slice 11 0 .nil), (18, .hole .nil), (35, .hole .nil), (231, .hole .nil), (232, .hole .nil), (235, .hole .nil), (236, .hole .nil)], 15, B10c⟩
noncomputable def h10d (p : Int) (sure : Bool) (n c : Nat) (ms ms2 keep own : List Value) (s t : Nat) : Hw := ⟨⟨[.bool sure, I n, I 0, I s, I n, I s, I n, I t, I p, I p], [(n, n), (n, n), (n, c), (n, n)]⟩, [ms, ms2, keep, own], []⟩
noncomputable def T10e : Tw := ⟨314, mkS 314 [(2, .hole .nil), (4, .ptr 2 0 .nil), (15, .slice 10 0 .nil), (17, .slice 11 0 .nil), (18, .hole .nil), (41, .slice 16 0 .nil), (273, .hole .nil), (274, .hole .nil)], 17,
  [.list 1 .ro, .dead, .cells (.hole (.slice 0 0 .nil)) 24 .var, .dead, .dead, .dead, .dead, .dead, .dead, .dead, .list 33 .row, .list 3 .row, .dead, .dead, .dead, .dead, .list 3 .row]⟩
noncomputable def h10e (p : Int) (sure : Bool) (n c : Nat) (ms keep own kept : List Value) (s : Nat) : Hw := ⟨⟨[.bool sure, I 0, I n, I s, I p], [(n, n), (n, n), (n, n), (n, c)]⟩, [ms, keep, own, kept], []⟩
noncomputable def T10f : Tw := ⟨314, mkS 314 [(4, .ptr 2 0 .nil), (15, .slice 10 0 .nil), (298, .hole .nil), (299, .hole .nil)], 18,
  [.list 1 .ro, .dead, .cells (.hole (.slice 0 0 .nil)) 24 .var, .dead, .dead, .dead, .dead, .dead, .dead, .dead, .list 33 .row, .dead, .dead, .dead, .dead, .dead, .dead, .dead]⟩
noncomputable def h10f (p : Int) (n c : Nat) (ms keep : List Value) (s : Nat) : Hw := ⟨⟨[I n, I s, I p], [(n, n), (n, c)]⟩, [ms, keep], []⟩
def p32 : Loc := .l (.r (.l (.r (.r (.top 32)))))
noncomputable def T32 : Tw := ⟨26, mkS 26 [(0, .slice 0 0 .nil), (1, .slice 1 0 .nil), (5, .hole .nil)], 2, [.list 3 .ro, .list 3 .ro]⟩
noncomputable def h32 (n c d : Nat) (o : Nat → Int) (i : Nat) : Hw := ⟨⟨[I i], [(n, c), (n, d)]⟩, [ints n o, ints n o], []⟩
noncomputable def C32 (n c d : Nat) (o : Nat → Int) : Con where
  A := .slice 0 0 (.slice 1 0 .nil)
  bs := [.list 3 .ro, .list 3 .ro]
  pre x := x = ⟨⟨[], [(n, c), (n, d)]⟩, [ints n o, ints n o]⟩
  res _ := .ret (.bool true)
noncomputable def mL2 (a b : List Value) : Mem := ⟨fillX [.cells a 3 .ro, .cells b 3 .ro] 0 .nil, 2⟩
end Go.Ab
