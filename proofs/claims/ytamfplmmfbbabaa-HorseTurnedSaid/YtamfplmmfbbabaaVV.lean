/- the law HorseLeave: all forms of its arguments. -/
import Derived.Test.YtamfplmmfbbabaaVN
set_option maxRecDepth 100000
namespace Go.Ab
open Go Go.RowKit Go.Proofs
theorem z23nt (p mz : Int) (R : ARes → Prop) : (vx.call 23 [.agg ⟨[I p, nilS]⟩, I mz, .bool true] (retK R) ⟨.nil, 0⟩ ((29, .val (.bool true)) :: (3, .val (.bool true)) :: (35, .val (.bool true)) :: (3, .val (.bool true)) :: (18, .again) :: (28, .again) :: [])) =
(((((some (.bool (decide ((0 : Int) ≤ p))) : Option Value) = some (.bool true))) ∧
((((some (.bool (decide (p ≤ (3 : Int)))) : Option Value) = some (.bool true))) ∧
((((some (.bool (decide ((0 : Int) ≤ mz))) : Option Value) = some (.bool true))) ∧
((((some (.bool (decide (mz ≤ (7 : Int)))) : Option Value) = some (.bool true))) ∧
(((((some (I mz) : Option Value) = some (I mz))) ∧ (((((2 : Nat) ≤ (2 : Nat))) ∧ (((.agg ⟨[(I p), (.slice .none ((0 : Nat)) ((0 : Nat)))]⟩) : Value) = (.agg ⟨[(I p), (.slice .none ((0 : Nat)) ((0 : Nat)))]⟩))) ∧ (((((2 : Nat) ≤ (2 : Nat))) ∧ (((.agg ⟨[(I p), (.slice .none ((0 : Nat)) ((0 : Nat)))]⟩) : Value) = (.agg ⟨[(I p), (.slice .none ((0 : Nat)) ((0 : Nat)))]⟩))) ∧ (True)))) ∧
(((((some (I mz) : Option Value) = some (I mz))) ∧ (((((2 : Nat) ≤ (2 : Nat))) ∧ (((.agg ⟨[(I p), (.slice .none ((0 : Nat)) ((0 : Nat)))]⟩) : Value) = (.agg ⟨[(I p), (.slice .none ((0 : Nat)) ((0 : Nat)))]⟩))) ∧ (True))) ∧
R (.ret (.tuple ⟨[(I (IntKind.i64.wrap (IntKind.i64.wrap ((1 : Int) * (2 : Int) ^ (0 : Nat)) - (1 : Int)))), (I 0)]⟩))))))))) := by kernel_rfl
theorem z23nf (p mz : Int) (R : ARes → Prop) : (vx.call 23 [.agg ⟨[I p, nilS]⟩, I mz, .bool false] (retK R) ⟨.nil, 0⟩ ((29, .val (.bool true)) :: (3, .val (.bool true)) :: (35, .val (.bool true)) :: (3, .val (.bool true)) :: (18, .again) :: (28, .again) :: [])) =
(((((some (.bool (decide ((0 : Int) ≤ p))) : Option Value) = some (.bool true))) ∧
((((some (.bool (decide (p ≤ (3 : Int)))) : Option Value) = some (.bool true))) ∧
((((some (.bool (decide ((0 : Int) ≤ mz))) : Option Value) = some (.bool true))) ∧
((((some (.bool (decide (mz ≤ (7 : Int)))) : Option Value) = some (.bool true))) ∧
(((((some (I mz) : Option Value) = some (I mz))) ∧ (((((2 : Nat) ≤ (2 : Nat))) ∧ (((.agg ⟨[(I p), (.slice .none ((0 : Nat)) ((0 : Nat)))]⟩) : Value) = (.agg ⟨[(I p), (.slice .none ((0 : Nat)) ((0 : Nat)))]⟩))) ∧ (((((2 : Nat) ≤ (2 : Nat))) ∧ (((.agg ⟨[(I p), (.slice .none ((0 : Nat)) ((0 : Nat)))]⟩) : Value) = (.agg ⟨[(I p), (.slice .none ((0 : Nat)) ((0 : Nat)))]⟩))) ∧ (True)))) ∧
(((((some (I mz) : Option Value) = some (I mz))) ∧ (((((2 : Nat) ≤ (2 : Nat))) ∧ (((.agg ⟨[(I p), (.slice .none ((0 : Nat)) ((0 : Nat)))]⟩) : Value) = (.agg ⟨[(I p), (.slice .none ((0 : Nat)) ((0 : Nat)))]⟩))) ∧ (True))) ∧
R (.ret (.tuple ⟨[(I (IntKind.i64.wrap (IntKind.i64.wrap ((1 : Int) * (2 : Int) ^ (0 : Nat)) - (1 : Int)))), (I 0)]⟩))))))))) := by kernel_rfl
theorem every_0 : IntKind.i64.wrap (IntKind.i64.wrap ((1 : Int) * (2 : Int) ^ (0 : Nat)) - (1 : Int)) = 0 := by rw [every_eq (n := 0) (by omega)]; rfl
section
variable {p mz : Int}
theorem C23n_ok (sure : Bool) (h0 : 0 ≤ p) (h3 : p ≤ 3) (m0 : 0 ≤ mz) (m7 : mz ≤ 7) : ConOK Try.prog 23 (C23n sure p mz) := by
  have e0 : decide (0 ≤ p) = true := decide_eq_true h0
  have e3 : decide (p ≤ 3) = true := decide_eq_true h3
  have f0 : decide (0 ≤ mz) = true := decide_eq_true m0
  have f7 : decide (mz ≤ 7) = true := decide_eq_true m7
  refine con_of vx_sound _ (fun y hy => ?_) rfl (fun y _ => rfl) (fun y hy => ?_) rfl (Nat.le_of_ble_eq_true rfl) (by rw [nglob]; exact Nat.zero_le _)
  · cases hy
    cases sure
    · refine ⟨_, (z23nf p mz _).mpr ?_⟩
      simp only [e0, e3, f0, f7, every_0]
      repeat' (first | with_reducible apply And.intro | with_reducible intro)
      all_goals first | exact trivial | rfl | exact Nat.le_refl _
    · refine ⟨_, (z23nt p mz _).mpr ?_⟩
      simp only [e0, e3, f0, f7, every_0]
      repeat' (first | with_reducible apply And.intro | with_reducible intro)
      all_goals first | exact trivial | rfl | exact Nat.le_refl _
  · cases hy
    intro cs hcs
    cases hcs
end
end Go.Ab
