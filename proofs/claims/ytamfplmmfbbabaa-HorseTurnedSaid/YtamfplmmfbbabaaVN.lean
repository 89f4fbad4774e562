/- the law HorseLeave: its loop, and its runs where moves lie. -/
import Derived.Test.YtamfplmmfbbabaaVM
set_option maxRecDepth 100000
namespace Go.Ab
open Go Go.RowKit Go.Proofs
theorem b8 (p b ev mz sz : Int) (sure v : Bool) (n c left i : Nat) (ms : List Value) (R : Nat → AExit → Hw → Prop) : (vx.code none (.l p8) (leafW [T8, R8] R) (T8.inst (st8 p b sure n c mz left ev ms i)) ([(0, .split ((5, .val (I ((↑left : Int) / (2 : Int) ^ i))) :: [(1, .split ((4, .val (I (IntKind.i64.wrap ((1 : Int) * (2 : Int) ^ i)))) :: (1, .con (C30i p sure n c mz sz v ms)) :: [(0, .split ([(2, .tm 1 [])]) ([(3, .tm 0 [])]))]) ([(5, .tm 0 [])]))]) ([(1, .tm 0 [])]))])) =
((((decide ((↑i : Int) < (↑n : Int))) = true → ((((((0 : Int) ≤ (↑i : Int))) ∧ (((↑i : Int) ≤ (↑(64 : Nat) : Int)))) ∧ (((I ((↑left : Int) / (2 : Int) ^ i)) : Value) = (I ((↑left : Int) / (2 : Int) ^ i)))) ∧
(((bits BinOp.and IntKind.i64 ((↑left : Int) / (2 : Int) ^ i) (1 : Int) == (1 : Int)) = true → ((((((0 : Int) ≤ (↑i : Int))) ∧ (((↑i : Int) ≤ (↑(64 : Nat) : Int)))) ∧ (((I (IntKind.i64.wrap ((1 : Int) * (2 : Int) ^ i))) : Value) = (I (IntKind.i64.wrap ((1 : Int) * (2 : Int) ^ i))))) ∧
((ConOK Try.prog (OfNat.ofNat (30 : Nat)) (C30i p sure n c mz sz v ms)) ∧ (Con.pre (C30i p sure n c mz sz v ms) ⟨⟨[(I (bits BinOp.andNot IntKind.i64 (↑left : Int) (IntKind.i64.wrap ((1 : Int) * (2 : Int) ^ i)))), (I p), (.bool sure), (I mz)], [⟨n, c⟩]⟩, [(ms)]⟩) ∧
(((v) = true → R 1 .ret ⟨⟨[(.bool false)], []⟩, [], []⟩) ∧
((v) = false → R 0 .normal ⟨⟨[(.int .u8 (b)), (I left), (I ev), (I n), (I (IntKind.i64.wrap ((↑i : Int) + (1 : Int)))), (I p), (.bool sure), (I mz)], [⟨n, c⟩]⟩, [(ms)], []⟩))))) ∧
((bits BinOp.and IntKind.i64 ((↑left : Int) / (2 : Int) ^ i) (1 : Int) == (1 : Int)) = false → R 0 .normal ⟨⟨[(.int .u8 (b)), (I left), (I ev), (I n), (I (IntKind.i64.wrap ((↑i : Int) + (1 : Int)))), (I p), (.bool sure), (I mz)], [⟨n, c⟩]⟩, [(ms)], []⟩)))) ∧
((decide ((↑i : Int) < (↑n : Int))) = false → R 0 (.exit ((0 : Nat))) ⟨⟨[(.int .u8 (b)), (I left), (I ev), (I n), (I i), (I p), (.bool sure), (I mz)], [⟨n, c⟩]⟩, [(ms)], []⟩))) := by kernel_rfl
theorem z24ct (p : Int) (c : Nat) (f : Nat → Mv) (R : Hx → Prop) : (vx.call 24 [hV p 0 c, .bool true] (retN (rowT3 1 3) R) (m1 (mvs 0 f)) ((20, .con (C68t p (0 : Nat) c f)) :: (19, .again) :: (0, .con (C44 true p (0 : Nat) c f)) :: (0, .again) :: (22, .con (C83z (ordF true p (0 : Nat) f (0 : Nat)))) :: [(58, .tm (0 : Nat) [((1 : Nat), (19 : Nat))])])) =
(((ConOK Try.prog 68 (C68t p (0 : Nat) c f)) ∧ (Con.pre (C68t p (0 : Nat) c f) ⟨⟨[(I p)], [⟨0, c⟩]⟩, [[]]⟩) ∧
((((((2 : Nat) ≤ (2 : Nat))) ∧ (((.agg ⟨[(I p), (.slice (.some ⟨0, 0, .none⟩) ((0 : Nat)) (c))]⟩) : Value) = (.agg ⟨[(I p), (.slice (.some ⟨0, 0, .none⟩) ((0 : Nat)) (c))]⟩))) ∧ (((((2 : Nat) ≤ (2 : Nat))) ∧ (((.agg ⟨[(I p), (.slice (.some ⟨0, 0, .none⟩) ((0 : Nat)) (c))]⟩) : Value) = (.agg ⟨[(I p), (.slice (.some ⟨0, 0, .none⟩) ((0 : Nat)) (c))]⟩))) ∧ (True))) ∧
((ConOK Try.prog 44 (C44 true p (0 : Nat) c f)) ∧ (Con.pre (C44 true p (0 : Nat) c f) ⟨⟨[(I p)], [⟨0, c⟩]⟩, [[]]⟩) ∧
((((((2 : Nat) ≤ (2 : Nat))) ∧ (((.agg ⟨[(I p), (.slice (.some ⟨0, 0, .none⟩) ((0 : Nat)) (c))]⟩) : Value) = (.agg ⟨[(I p), (.slice (.some ⟨0, 0, .none⟩) ((0 : Nat)) (c))]⟩))) ∧ (True)) ∧
((ConOK Try.prog 83 (C83z (ordF true p (0 : Nat) f (0 : Nat)))) ∧ (Con.pre (C83z (ordF true p (0 : Nat) f (0 : Nat))) ⟨⟨[(I 0), (I 0), (I 0), (I 0), (I 0), (I 0), (I 0)], []⟩, []⟩) ∧
R ⟨⟨[(I 0), (I 0)], [⟨((0 : Nat)), ((0 : Nat))⟩]⟩, [[]]⟩)))))) := by kernel_rfl
theorem z24cf (p : Int) (c : Nat) (f : Nat → Mv) (R : Hx → Prop) : (vx.call 24 [hV p 0 c, .bool false] (retN (rowT3 1 3) R) (m1 (mvs 0 f)) ((20, .con (C68t p (0 : Nat) c f)) :: (19, .again) :: (0, .con (C44 false p (0 : Nat) c f)) :: (0, .again) :: (22, .con (C83z (ordF false p (0 : Nat) f (0 : Nat)))) :: [(58, .tm (0 : Nat) [((1 : Nat), (19 : Nat))])])) =
(((ConOK Try.prog 68 (C68t p (0 : Nat) c f)) ∧ (Con.pre (C68t p (0 : Nat) c f) ⟨⟨[(I p)], [⟨0, c⟩]⟩, [[]]⟩) ∧
((((((2 : Nat) ≤ (2 : Nat))) ∧ (((.agg ⟨[(I p), (.slice (.some ⟨0, 0, .none⟩) ((0 : Nat)) (c))]⟩) : Value) = (.agg ⟨[(I p), (.slice (.some ⟨0, 0, .none⟩) ((0 : Nat)) (c))]⟩))) ∧ (((((2 : Nat) ≤ (2 : Nat))) ∧ (((.agg ⟨[(I p), (.slice (.some ⟨0, 0, .none⟩) ((0 : Nat)) (c))]⟩) : Value) = (.agg ⟨[(I p), (.slice (.some ⟨0, 0, .none⟩) ((0 : Nat)) (c))]⟩))) ∧ (True))) ∧
((ConOK Try.prog 44 (C44 false p (0 : Nat) c f)) ∧ (Con.pre (C44 false p (0 : Nat) c f) ⟨⟨[(I p)], [⟨0, c⟩]⟩, [[]]⟩) ∧
((((((2 : Nat) ≤ (2 : Nat))) ∧ (((.agg ⟨[(I p), (.slice (.some ⟨0, 0, .none⟩) ((0 : Nat)) (c))]⟩) : Value) = (.agg ⟨[(I p), (.slice (.some ⟨0, 0, .none⟩) ((0 : Nat)) (c))]⟩))) ∧ (True)) ∧
((ConOK Try.prog 83 (C83z (ordF false p (0 : Nat) f (0 : Nat)))) ∧ (Con.pre (C83z (ordF false p (0 : Nat) f (0 : Nat))) ⟨⟨[(I 0), (I 0), (I 0), (I 0), (I 0), (I 0), (I 0)], []⟩, []⟩) ∧
R ⟨⟨[(I 0), (I 0)], [⟨((0 : Nat)), ((0 : Nat))⟩]⟩, [[]]⟩)))))) := by kernel_rfl
section
variable {p : Int} {n c many : Nat} {f : Nat → Mv} {sure : Bool}
theorem C23i_ok (sure : Bool) {mz : Int} (hok : okH p n f = true) (hm : many ≤ 7) (hz : mz = many) : ConOK Try.prog 23 (C23i sure p n c mz f (leaveH sure p n f many)) := by
  subst hz
  exact C23_ok sure hok hm
theorem leave_lt (h : HOK p n f) : leaveH sure p n f many < 128 := Nat.lt_of_lt_of_le (leave_least h).lt (two_pow_lt h.n7).1
theorem C24y_ok {c : Nat} (sure : Bool) (hok : okH p 0 f = true) : ConNOK Try.prog 24 (C24c sure p 0 c (mvs 0 f) 0 (ints 0 fun _ => 0)) := by
  refine conRow3_of rfl vx_sound (C := C24c sure p 0 c (mvs 0 f) 0 (ints 0 fun _ => 0)) (n := 0) (cells := []) (e := 3) (y0 := 0) (z := 0) ⟨⟨[I p, .bool sure], [(0, c)]⟩, [mvs 0 f]⟩ (fun x => Iff.rfl) rfl rfl rfl ?_ (mvs_atoms 0 f) (fun v hv => by cases hv) rfl (Nat.le_of_ble_eq_true rfl) (by rw [nglob]; exact Nat.zero_le _)
  cases sure
  · exact ⟨_, (z24cf p c f _).mpr ⟨C68t_ok p 0 c f (by omega), ⟨rfl, hok⟩, ⟨⟨Nat.le_refl _, rfl⟩, ⟨Nat.le_refl _, rfl⟩, trivial⟩, C44_ok _ p 0 c f (by omega), rfl, ⟨⟨Nat.le_refl _, rfl⟩, trivial⟩, C83z_ok, rfl, rfl⟩⟩
  · exact ⟨_, (z24ct p c f _).mpr ⟨C68t_ok p 0 c f (by omega), ⟨rfl, hok⟩, ⟨⟨Nat.le_refl _, rfl⟩, ⟨Nat.le_refl _, rfl⟩, trivial⟩, C44_ok _ p 0 c f (by omega), rfl, ⟨⟨Nat.le_refl _, rfl⟩, trivial⟩, C83z_ok, rfl, rfl⟩⟩
theorem C24any (sure : Bool) (hok : okH p n f = true) : ∃ pl, ConNOK Try.prog 24 (C24c sure p n c (mvs n f) (fewH sure p n f) pl) := by
  have h7 := (okH_iff hok).n7
  rcases Nat.eq_zero_or_pos n with h0 | h0
  · subst h0; exact ⟨_, C24y_ok sure hok⟩
  · exact ⟨_, C24_ok sure hok h7 h0⟩
theorem every_eq (hn : n ≤ 7) : IntKind.i64.wrap (IntKind.i64.wrap ((1 : Int) * (2 : Int) ^ n) - (1 : Int)) = ((2 ^ n - 1 : Nat) : Int) := by
  obtain ⟨h1, h2⟩ := two_pow_lt hn
  have e : (1 : Int) * 2 ^ n = ((2 ^ n : Nat) : Int) := by simp
  rw [e]
  generalize 2 ^ n = z at h1 h2
  rw [wrapI (x := (z : Int)) (by omega) (by omega), wrapI (by omega) (by omega)]
  omega
end
end Go.Ab
