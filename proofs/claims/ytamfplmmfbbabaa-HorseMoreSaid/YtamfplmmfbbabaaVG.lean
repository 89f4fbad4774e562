/- the law's truly: its loops. -/
import Derived.Test.YtamfplmmfbbabaaVF
import Derived.Test.YtamfplmmfbbabaaUY
import Derived.Test.YtamfplmmfbbabaaVA
import Derived.Test.YtamfplmmfbbabaaVB
import Derived.Test.YtamfplmmfbbabaaVD
set_option maxRecDepth 100000
namespace Go.Ab
open Go Go.RowKit Go.Proofs
noncomputable def begS (p : Int) (n : Nat) (f : Nat → Mv) (g lg : Nat → Int) : Nat → Int := (prc p f g lg (srt (atF f) n) n).o
end Go.Ab
set_option maxRecDepth 100000
namespace Go.Ab
open Go Go.RowKit Go.Proofs
theorem f15 (p : Int) (n c d : Nat) (f : Nat → Mv) (g : Nat → Int) (R : Hx → Prop) : (vx.call 15 [hV p n c, slV 1 n d] (retN (rowT2 2 31) R) (m2 (mvs n f) (ints n g)) ((19, Hint.con (C68t p n c f)) :: (11, Hint.con (C39t p n c f n d g)) :: (6, Hint.conN (C40 p n c d f g)) :: [(9, Hint.tm (0 : Nat) [((2 : Nat), (9 : Nat))])])) =
(((ConOK Try.prog 68 (C68t p n c f)) ∧ (Con.pre (C68t p n c f) ⟨⟨[(.int .i64 p)], [⟨n, c⟩]⟩, [(mvs n f)]⟩) ∧
((ConOK Try.prog 39 (C39t p n c f n d g)) ∧ (Con.pre (C39t p n c f n d g) ⟨⟨[(.int .i64 p)], [⟨n, c⟩, ⟨n, d⟩]⟩, [(mvs n f), (ints n g)]⟩) ∧
((ConNOK Try.prog 40 (C40 p n c d f g)) ∧ (ConN.pre (C40 p n c d f g) ⟨⟨[(.int .i64 p)], [⟨n, c⟩, ⟨n, d⟩]⟩, [(mvs n f), (ints n g)]⟩) ∧
R ⟨⟨[(.int .i64 0)], [⟨n, n⟩]⟩, [(spansC n (latS false p n f g) (latS true p n f g))]⟩)))) := by kernel_rfl
noncomputable def C15 (p : Int) (n c d : Nat) (f : Nat → Mv) (g : Nat → Int) : ConN where
  A := .agg (.hole (.slice 0 0 .nil)) (.slice 1 0 .nil)
  bs := [.list 1 .ro, .list 3 .ro]
  pre x := x = ⟨⟨[I p], [(n, c), (n, d)]⟩, [mvs n f, ints n g]⟩
  news _ := [(spansC n (latS false p n f g) (latS true p n f g), 31)]
  one := false
  res _ := [.sl 0 n, .cv (.int .i64 0)]
theorem C15_ok (p : Int) (n c d : Nat) (f : Nat → Mv) (g : Nat → Int) (h0 : 0 < n) (hok : okH p n f = true) (hpl : okP n n g = true) : ConNOK Try.prog 15 (C15 p n c d f g) := by
  have h7 := (okH_iff hok).n7
  exact conRow2_of rfl vx_sound (C := C15 p n c d f g) (n := n) (z := 0) (cells := spansC n (latS false p n f g) (latS true p n f g)) (e := 31) ⟨⟨[I p], [(n, c), (n, d)]⟩, [mvs n f, ints n g]⟩ (fun x => Iff.rfl) rfl rfl rfl
    ⟨_, (f15 p n c d f g _).mpr ⟨C68t_ok p n c f (by omega), ⟨rfl, hok⟩, C39t_ok p n c f n d g (by omega) (by omega), ⟨rfl, hpl⟩, C40_ok p n c d f g h0 hok, rfl, rfl⟩⟩ two_atoms (spansC_atoms n _ _) rfl (Nat.le_of_ble_eq_true rfl) (by rw [nglob]; exact Nat.zero_le _)
end Go.Ab
set_option maxRecDepth 100000
namespace Go.Ab
open Go Go.RowKit Go.Proofs
def p9a : Loc := .l (.r (.l (.r (.r (.r (.r (.r (.r (.r (.r (.r (.r (.r (.top 9))))))))))))))
def p9b : Loc := .l (.r (.l (.r (.r (.r (.r (.r (.r (.r (.r (.r (.r (.r (.r (.r (.r (.r (.r (.r (.r (.r (.r (.top 9)))))))))))))))))))))))
def p9c : Loc := .l (.r (.l (.r (.r (.r (.r (.r (.r (.r (.r (.r (.r (.r (.r (.r (.r (.r (.r (.r (.r (.r (.r (.r (.top 9))))))))))))))))))))))))
noncomputable def S9a (t : TL) : List (Option TL) := mkS 320 [(1, t), (2, .hole .nil), (3, .hole .nil), (4, .ptr 2 0 .nil), (10, .hole .nil), (21, .ptr 7 0 .nil), (22, .ptr 8 0 .nil), (122, .slice 0 0 .nil), (123, .hole .nil), (124, .hole .nil)]
noncomputable def B9a (b : TBw) (k : TL) : List TBw := [.list 1 .ro, b, .cells (.hole (.slice 0 0 .nil)) 24 .var, .dead, .dead, .dead, .dead, .cells (.hole k) 24 .var, .cells (.hole (.slice 10 0 .nil)) 24 .var, .dead, .list 33 .row]
noncomputable def T9a : Tw := ⟨320, S9a (.slice 1 0 .nil), 11, B9a (.list 2 .ro) (.val nilS .nil)⟩
noncomputable def T9b : Tw := ⟨320, S9a (.slice 1 0 .nil), 11, B9a (.list 2 .ro) (.slice 11 0 .nil) ++ [.list 33 .row]⟩
noncomputable def h9a (p wh nu : Int) (n c k d a : Nat) (ms bl ms2 : List Value) (i : Nat) : Hw := ⟨⟨[.int .u8 wh, .int .u8 nu, I a, I n, I i, I p, I p, I p], [(k, d), (n, c), (n, c), (n, n)]⟩, [ms, bl, ms2], []⟩
noncomputable def h9b (p wh nu : Int) (n c k d a : Nat) (ms bl ms2 : List Value) (i : Nat) (ls : List Value) : Hw := ⟨⟨[.int .u8 wh, .int .u8 nu, I a, I n, I i, I p, I p, I p], [(k, d), (n, c), (n, c), (i, i), (n, n)]⟩, [ms, bl, ms2, ls], []⟩
noncomputable def T9az : Tw := ⟨320, S9a (.val nilS .nil), 11, B9a .dead (.val nilS .nil)⟩
noncomputable def T9bz : Tw := ⟨320, S9a (.val nilS .nil), 11, B9a .dead (.slice 11 0 .nil) ++ [.list 33 .row]⟩
noncomputable def h9az (p wh nu : Int) (n c a : Nat) (ms ms2 : List Value) (i : Nat) : Hw := ⟨⟨[.int .u8 wh, .int .u8 nu, I a, I n, I i, I p, I p, I p], [(n, c), (n, c), (n, n)]⟩, [ms, ms2], []⟩
noncomputable def h9bz (p wh nu : Int) (n c a : Nat) (ms ms2 : List Value) (i : Nat) (ls : List Value) : Hw := ⟨⟨[.int .u8 wh, .int .u8 nu, I a, I n, I i, I p, I p, I p], [(n, c), (n, c), (i, i), (n, n)]⟩, [ms, ms2, ls], []⟩
noncomputable def T9c (e : Nat) : Tw := ⟨320, mkS 320 [(4, .ptr 2 0 .nil), (22, .ptr 8 0 .nil), (32, .slice (14 + e) 0 .nil), (33, .slice (15 + e) 0 .nil), (35, .slice (16 + e) 0 .nil), (245, .hole .nil), (246, .hole .nil)], 17 + e,
  [.list 1 .ro, .dead, .cells (.hole (.slice 0 0 .nil)) 24 .var, .dead, .dead, .dead, .dead, .dead, .cells (.hole (.slice 10 0 .nil)) 24 .var, .dead, .list 33 .row, .dead, .dead, .dead] ++ List.replicate e .dead ++ [.list 3 .row, .list 31 .row, .list 31 .row]⟩
noncomputable def h9c (p p2 : Int) (n c : Nat) (ms ms2 late soon plan : List Value) (i : Nat) : Hw := ⟨⟨[I n, I i, I p, I p2], [(n, n), (n, n), (n, n), (n, c), (n, n)]⟩, [ms, ms2, plan, late, soon], []⟩
noncomputable def T9d (e : Nat) : Tw := ⟨320, mkS 320 [(4, .ptr 2 0 .nil), (22, .ptr 8 0 .nil), (32, .slice (14 + e) 0 .nil), (274, .slice (17 + e) 0 .nil), (275, .hole .nil), (276, .hole .nil)], 18 + e,
  [.list 1 .ro, .dead, .cells (.hole (.slice 0 0 .nil)) 24 .var, .dead, .dead, .dead, .dead, .dead, .cells (.hole (.slice 10 0 .nil)) 24 .var, .dead, .list 33 .row, .dead, .dead, .dead] ++ List.replicate e .dead ++ [.list 3 .row, .dead, .dead, .cells (.val (.bool true) (.val (.bool false) .nil)) 4 .row]⟩
noncomputable def h9d (p p2 : Int) (n c : Nat) (ms ms2 plan : List Value) (i : Nat) : Hw := ⟨⟨[I 2, I i, I p, I p2], [(n, n), (2, 2), (n, c), (n, n)]⟩, [ms, ms2, plan], []⟩
def topM (m : Mv) : Mv := ⟨m.at_, m.place, m.hi, m.hi⟩
end Go.Ab
