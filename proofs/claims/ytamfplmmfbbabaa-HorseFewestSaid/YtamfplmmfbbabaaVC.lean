/- the law HorseFewest: slices without room. -/
import Derived.Test.YtamfplmmfbbabaaVB
set_option maxRecDepth 100000
namespace Go.Ab
open Go Go.RowKit Go.Proofs
theorem w51t (p : Int) (k d : Nat) (bs : Nat → Int) (R : ARes → Prop) : (vx.call 5 [hV p 0 0, .bool true, slV 1 k d] (retK R) (m2z (u8s k bs)) ((31, .val (.bool true)) :: (3, .val (.bool true)) :: (54, .val (.bool true)) :: (3, .val (.bool true)) :: (37, .again) :: (28, .again) :: (137, .val (.bool true)) :: (3, .val (.bool true)) :: (37, .again) :: (28, .again) :: (307, .val (.bool true)) :: (3, .val (.bool true)) :: (61, .again) :: (28, .again) :: (87, .con (C29 (0 : Nat))) :: (77, .val (.bool true)) :: (3, .val (.bool true)) :: (61, .again) :: (28, .again) :: (80, .con C12) :: [])) =
(((((some (.bool (decide ((0 : Int) ≤ p))) : Option Value) = some (.bool true))) ∧
((((some (.bool (decide (p ≤ (3 : Int)))) : Option Value) = some (.bool true))) ∧
((((some (.bool (decide ((0 : Int) ≤ p))) : Option Value) = some (.bool true))) ∧
((((some (.bool (decide (p ≤ (3 : Int)))) : Option Value) = some (.bool true))) ∧
(((((2 : Nat) ≤ 2) ∧ (agZ p = agZ p)) ∧ ((((2 : Nat) ≤ 2) ∧ (agZ p = agZ p)) ∧ (True))) ∧
(((((2 : Nat) ≤ 2) ∧ (agZ p = agZ p)) ∧ (True)) ∧
((((some (.bool (decide ((0 : Int) ≤ p))) : Option Value) = some (.bool true))) ∧
((((some (.bool (decide (p ≤ (3 : Int)))) : Option Value) = some (.bool true))) ∧
(((((2 : Nat) ≤ 2) ∧ (agZ p = agZ p)) ∧ ((((2 : Nat) ≤ 2) ∧ (agZ p = agZ p)) ∧ (True))) ∧
(((((2 : Nat) ≤ 2) ∧ (agZ p = agZ p)) ∧ (True)) ∧
((((some (.bool (decide ((0 : Int) ≤ p))) : Option Value) = some (.bool true))) ∧
((((some (.bool (decide (p ≤ (3 : Int)))) : Option Value) = some (.bool true))) ∧
(((((2 : Nat) ≤ 2) ∧ (agZ p = agZ p)) ∧ ((((some (.slice (.some ⟨35, 0, .none⟩) 0 0) : Option Value) = some (.slice (.some ⟨35, 0, .none⟩) 0 0))) ∧ ((((2 : Nat) ≤ 2) ∧ (agZ p = agZ p)) ∧ (True)))) ∧
(((((some (.slice (.some ⟨35, 0, .none⟩) 0 0) : Option Value) = some (.slice (.some ⟨35, 0, .none⟩) 0 0))) ∧ ((((2 : Nat) ≤ 2) ∧ (agZ p = agZ p)) ∧ (True))) ∧
((ConOK Try.prog 29 (C29 (0 : Nat))) ∧ (Con.pre (C29 (0 : Nat)) ⟨⟨[(.int .i64 0)], []⟩, []⟩) ∧
((((some (.bool (decide ((0 : Int) ≤ p))) : Option Value) = some (.bool true))) ∧
((((some (.bool (decide (p ≤ (3 : Int)))) : Option Value) = some (.bool true))) ∧
(((((2 : Nat) ≤ 2) ∧ (agZ p = agZ p)) ∧ ((((some (.slice .none 0 0) : Option Value) = some (.slice .none 0 0))) ∧ ((((2 : Nat) ≤ 2) ∧ (agZ p = agZ p)) ∧ (True)))) ∧
(((((some (.slice .none 0 0) : Option Value) = some (.slice .none 0 0))) ∧ ((((2 : Nat) ≤ 2) ∧ (agZ p = agZ p)) ∧ (True))) ∧
((ConOK Try.prog 12 (C12)) ∧ (Con.pre (C12) ⟨⟨[], []⟩, []⟩) ∧
R (.ret (.bool true))))))))))))))))))))))) := by kernel_rfl
theorem w51f (p : Int) (k d : Nat) (bs : Nat → Int) (R : ARes → Prop) : (vx.call 5 [hV p 0 0, .bool false, slV 1 k d] (retK R) (m2z (u8s k bs)) ((31, .val (.bool true)) :: (3, .val (.bool true)) :: (54, .val (.bool true)) :: (3, .val (.bool true)) :: (37, .again) :: (28, .again) :: (137, .val (.bool true)) :: (3, .val (.bool true)) :: (37, .again) :: (28, .again) :: (307, .val (.bool true)) :: (3, .val (.bool true)) :: (61, .again) :: (28, .again) :: (87, .con (C29 (0 : Nat))) :: (76, .val (.bool true)) :: (3, .val (.bool true)) :: (61, .again) :: (28, .again) :: (80, .con C12) :: [])) =
(((((some (.bool (decide ((0 : Int) ≤ p))) : Option Value) = some (.bool true))) ∧
((((some (.bool (decide (p ≤ (3 : Int)))) : Option Value) = some (.bool true))) ∧
((((some (.bool (decide ((0 : Int) ≤ p))) : Option Value) = some (.bool true))) ∧
((((some (.bool (decide (p ≤ (3 : Int)))) : Option Value) = some (.bool true))) ∧
(((((2 : Nat) ≤ 2) ∧ (agZ p = agZ p)) ∧ ((((2 : Nat) ≤ 2) ∧ (agZ p = agZ p)) ∧ (True))) ∧
(((((2 : Nat) ≤ 2) ∧ (agZ p = agZ p)) ∧ (True)) ∧
((((some (.bool (decide ((0 : Int) ≤ p))) : Option Value) = some (.bool true))) ∧
((((some (.bool (decide (p ≤ (3 : Int)))) : Option Value) = some (.bool true))) ∧
(((((2 : Nat) ≤ 2) ∧ (agZ p = agZ p)) ∧ ((((2 : Nat) ≤ 2) ∧ (agZ p = agZ p)) ∧ (True))) ∧
(((((2 : Nat) ≤ 2) ∧ (agZ p = agZ p)) ∧ (True)) ∧
((((some (.bool (decide ((0 : Int) ≤ p))) : Option Value) = some (.bool true))) ∧
((((some (.bool (decide (p ≤ (3 : Int)))) : Option Value) = some (.bool true))) ∧
(((((2 : Nat) ≤ 2) ∧ (agZ p = agZ p)) ∧ ((((some (.slice (.some ⟨35, 0, .none⟩) 0 0) : Option Value) = some (.slice (.some ⟨35, 0, .none⟩) 0 0))) ∧ ((((2 : Nat) ≤ 2) ∧ (agZ p = agZ p)) ∧ (True)))) ∧
(((((some (.slice (.some ⟨35, 0, .none⟩) 0 0) : Option Value) = some (.slice (.some ⟨35, 0, .none⟩) 0 0))) ∧ ((((2 : Nat) ≤ 2) ∧ (agZ p = agZ p)) ∧ (True))) ∧
((ConOK Try.prog 29 (C29 (0 : Nat))) ∧ (Con.pre (C29 (0 : Nat)) ⟨⟨[(.int .i64 0)], []⟩, []⟩) ∧
((((some (.bool (decide ((0 : Int) ≤ p))) : Option Value) = some (.bool true))) ∧
((((some (.bool (decide (p ≤ (3 : Int)))) : Option Value) = some (.bool true))) ∧
(((((2 : Nat) ≤ 2) ∧ (agZ p = agZ p)) ∧ ((((some (.slice .none 0 0) : Option Value) = some (.slice .none 0 0))) ∧ ((((2 : Nat) ≤ 2) ∧ (agZ p = agZ p)) ∧ (True)))) ∧
(((((some (.slice .none 0 0) : Option Value) = some (.slice .none 0 0))) ∧ ((((2 : Nat) ≤ 2) ∧ (agZ p = agZ p)) ∧ (True))) ∧
((ConOK Try.prog 12 (C12)) ∧ (Con.pre (C12) ⟨⟨[], []⟩, []⟩) ∧
R (.ret (.bool true))))))))))))))))))))))) := by kernel_rfl
theorem w51x1 (p : Int) (k d : Nat) (bs : Nat → Int) (sure : Bool) (R : ARes → Prop) : (vx.call 5 [hV p 0 0, .bool sure, slV 1 k d] (retK R) (m2z (u8s k bs)) ((31, .val (.bool false)) :: (12, .con C12) :: [])) =
(((((some (.bool (decide ((0 : Int) ≤ p))) : Option Value) = some (.bool false))) ∧
((ConOK Try.prog 12 (C12)) ∧ (Con.pre (C12) ⟨⟨[], []⟩, []⟩) ∧
R (.ret (.bool true))))) := by kernel_rfl
theorem w51x2 (p : Int) (k d : Nat) (bs : Nat → Int) (sure : Bool) (R : ARes → Prop) : (vx.call 5 [hV p 0 0, .bool sure, slV 1 k d] (retK R) (m2z (u8s k bs)) ((31, .val (.bool true)) :: (3, .val (.bool false)) :: (11, .con C12) :: [])) =
(((((some (.bool (decide ((0 : Int) ≤ p))) : Option Value) = some (.bool true))) ∧
((((some (.bool (decide (p ≤ (3 : Int)))) : Option Value) = some (.bool false))) ∧
((ConOK Try.prog 12 (C12)) ∧ (Con.pre (C12) ⟨⟨[], []⟩, []⟩) ∧
R (.ret (.bool true)))))) := by kernel_rfl
theorem w52t (p : Int) (R : ARes → Prop) : (vx.call 5 [hV p 0 0, .bool true, nilS] (retK R) m2d ((31, .val (.bool true)) :: (3, .val (.bool true)) :: (54, .val (.bool true)) :: (3, .val (.bool true)) :: (37, .again) :: (28, .again) :: (137, .val (.bool true)) :: (3, .val (.bool true)) :: (37, .again) :: (28, .again) :: (307, .val (.bool true)) :: (3, .val (.bool true)) :: (61, .again) :: (28, .again) :: (87, .con (C29 (0 : Nat))) :: (77, .val (.bool true)) :: (3, .val (.bool true)) :: (61, .again) :: (28, .again) :: (80, .con C12) :: [])) =
(((((some (.bool (decide ((0 : Int) ≤ p))) : Option Value) = some (.bool true))) ∧
((((some (.bool (decide (p ≤ (3 : Int)))) : Option Value) = some (.bool true))) ∧
((((some (.bool (decide ((0 : Int) ≤ p))) : Option Value) = some (.bool true))) ∧
((((some (.bool (decide (p ≤ (3 : Int)))) : Option Value) = some (.bool true))) ∧
(((((2 : Nat) ≤ 2) ∧ (agZ p = agZ p)) ∧ ((((2 : Nat) ≤ 2) ∧ (agZ p = agZ p)) ∧ (True))) ∧
(((((2 : Nat) ≤ 2) ∧ (agZ p = agZ p)) ∧ (True)) ∧
((((some (.bool (decide ((0 : Int) ≤ p))) : Option Value) = some (.bool true))) ∧
((((some (.bool (decide (p ≤ (3 : Int)))) : Option Value) = some (.bool true))) ∧
(((((2 : Nat) ≤ 2) ∧ (agZ p = agZ p)) ∧ ((((2 : Nat) ≤ 2) ∧ (agZ p = agZ p)) ∧ (True))) ∧
(((((2 : Nat) ≤ 2) ∧ (agZ p = agZ p)) ∧ (True)) ∧
((((some (.bool (decide ((0 : Int) ≤ p))) : Option Value) = some (.bool true))) ∧
((((some (.bool (decide (p ≤ (3 : Int)))) : Option Value) = some (.bool true))) ∧
(((((2 : Nat) ≤ 2) ∧ (agZ p = agZ p)) ∧ ((((some (.slice (.some ⟨35, 0, .none⟩) 0 0) : Option Value) = some (.slice (.some ⟨35, 0, .none⟩) 0 0))) ∧ ((((2 : Nat) ≤ 2) ∧ (agZ p = agZ p)) ∧ (True)))) ∧
(((((some (.slice (.some ⟨35, 0, .none⟩) 0 0) : Option Value) = some (.slice (.some ⟨35, 0, .none⟩) 0 0))) ∧ ((((2 : Nat) ≤ 2) ∧ (agZ p = agZ p)) ∧ (True))) ∧
((ConOK Try.prog 29 (C29 (0 : Nat))) ∧ (Con.pre (C29 (0 : Nat)) ⟨⟨[(.int .i64 0)], []⟩, []⟩) ∧
((((some (.bool (decide ((0 : Int) ≤ p))) : Option Value) = some (.bool true))) ∧
((((some (.bool (decide (p ≤ (3 : Int)))) : Option Value) = some (.bool true))) ∧
(((((2 : Nat) ≤ 2) ∧ (agZ p = agZ p)) ∧ ((((some (.slice .none 0 0) : Option Value) = some (.slice .none 0 0))) ∧ ((((2 : Nat) ≤ 2) ∧ (agZ p = agZ p)) ∧ (True)))) ∧
(((((some (.slice .none 0 0) : Option Value) = some (.slice .none 0 0))) ∧ ((((2 : Nat) ≤ 2) ∧ (agZ p = agZ p)) ∧ (True))) ∧
((ConOK Try.prog 12 (C12)) ∧ (Con.pre (C12) ⟨⟨[], []⟩, []⟩) ∧
R (.ret (.bool true))))))))))))))))))))))) := by kernel_rfl
theorem w52f (p : Int) (R : ARes → Prop) : (vx.call 5 [hV p 0 0, .bool false, nilS] (retK R) m2d ((31, .val (.bool true)) :: (3, .val (.bool true)) :: (54, .val (.bool true)) :: (3, .val (.bool true)) :: (37, .again) :: (28, .again) :: (137, .val (.bool true)) :: (3, .val (.bool true)) :: (37, .again) :: (28, .again) :: (307, .val (.bool true)) :: (3, .val (.bool true)) :: (61, .again) :: (28, .again) :: (87, .con (C29 (0 : Nat))) :: (76, .val (.bool true)) :: (3, .val (.bool true)) :: (61, .again) :: (28, .again) :: (80, .con C12) :: [])) =
(((((some (.bool (decide ((0 : Int) ≤ p))) : Option Value) = some (.bool true))) ∧
((((some (.bool (decide (p ≤ (3 : Int)))) : Option Value) = some (.bool true))) ∧
((((some (.bool (decide ((0 : Int) ≤ p))) : Option Value) = some (.bool true))) ∧
((((some (.bool (decide (p ≤ (3 : Int)))) : Option Value) = some (.bool true))) ∧
(((((2 : Nat) ≤ 2) ∧ (agZ p = agZ p)) ∧ ((((2 : Nat) ≤ 2) ∧ (agZ p = agZ p)) ∧ (True))) ∧
(((((2 : Nat) ≤ 2) ∧ (agZ p = agZ p)) ∧ (True)) ∧
((((some (.bool (decide ((0 : Int) ≤ p))) : Option Value) = some (.bool true))) ∧
((((some (.bool (decide (p ≤ (3 : Int)))) : Option Value) = some (.bool true))) ∧
(((((2 : Nat) ≤ 2) ∧ (agZ p = agZ p)) ∧ ((((2 : Nat) ≤ 2) ∧ (agZ p = agZ p)) ∧ (True))) ∧
(((((2 : Nat) ≤ 2) ∧ (agZ p = agZ p)) ∧ (True)) ∧
((((some (.bool (decide ((0 : Int) ≤ p))) : Option Value) = some (.bool true))) ∧
((((some (.bool (decide (p ≤ (3 : Int)))) : Option Value) = some (.bool true))) ∧
(((((2 : Nat) ≤ 2) ∧ (agZ p = agZ p)) ∧ ((((some (.slice (.some ⟨35, 0, .none⟩) 0 0) : Option Value) = some (.slice (.some ⟨35, 0, .none⟩) 0 0))) ∧ ((((2 : Nat) ≤ 2) ∧ (agZ p = agZ p)) ∧ (True)))) ∧
(((((some (.slice (.some ⟨35, 0, .none⟩) 0 0) : Option Value) = some (.slice (.some ⟨35, 0, .none⟩) 0 0))) ∧ ((((2 : Nat) ≤ 2) ∧ (agZ p = agZ p)) ∧ (True))) ∧
((ConOK Try.prog 29 (C29 (0 : Nat))) ∧ (Con.pre (C29 (0 : Nat)) ⟨⟨[(.int .i64 0)], []⟩, []⟩) ∧
((((some (.bool (decide ((0 : Int) ≤ p))) : Option Value) = some (.bool true))) ∧
((((some (.bool (decide (p ≤ (3 : Int)))) : Option Value) = some (.bool true))) ∧
(((((2 : Nat) ≤ 2) ∧ (agZ p = agZ p)) ∧ ((((some (.slice .none 0 0) : Option Value) = some (.slice .none 0 0))) ∧ ((((2 : Nat) ≤ 2) ∧ (agZ p = agZ p)) ∧ (True)))) ∧
(((((some (.slice .none 0 0) : Option Value) = some (.slice .none 0 0))) ∧ ((((2 : Nat) ≤ 2) ∧ (agZ p = agZ p)) ∧ (True))) ∧
((ConOK Try.prog 12 (C12)) ∧ (Con.pre (C12) ⟨⟨[], []⟩, []⟩) ∧
R (.ret (.bool true))))))))))))))))))))))) := by kernel_rfl
theorem w52x1 (p : Int) (sure : Bool) (R : ARes → Prop) : (vx.call 5 [hV p 0 0, .bool sure, nilS] (retK R) m2d ((31, .val (.bool false)) :: (12, .con C12) :: [])) =
(((((some (.bool (decide ((0 : Int) ≤ p))) : Option Value) = some (.bool false))) ∧
((ConOK Try.prog 12 (C12)) ∧ (Con.pre (C12) ⟨⟨[], []⟩, []⟩) ∧
R (.ret (.bool true))))) := by kernel_rfl
theorem w52x2 (p : Int) (sure : Bool) (R : ARes → Prop) : (vx.call 5 [hV p 0 0, .bool sure, nilS] (retK R) m2d ((31, .val (.bool true)) :: (3, .val (.bool false)) :: (11, .con C12) :: [])) =
(((((some (.bool (decide ((0 : Int) ≤ p))) : Option Value) = some (.bool true))) ∧
((((some (.bool (decide (p ≤ (3 : Int)))) : Option Value) = some (.bool false))) ∧
((ConOK Try.prog 12 (C12)) ∧ (Con.pre (C12) ⟨⟨[], []⟩, []⟩) ∧
R (.ret (.bool true)))))) := by kernel_rfl
theorem w53t (p : Int) (k d : Nat) (R : ARes → Prop) : (vx.call 5 [hV p 0 0, .bool true, slV 1 k d] (retK R) m2d ((31, .val (.bool true)) :: (3, .val (.bool true)) :: (54, .val (.bool true)) :: (3, .val (.bool true)) :: (37, .again) :: (28, .again) :: (137, .val (.bool true)) :: (3, .val (.bool true)) :: (37, .again) :: (28, .again) :: (307, .val (.bool true)) :: (3, .val (.bool true)) :: (61, .again) :: (28, .again) :: (87, .con (C29 (0 : Nat))) :: (77, .val (.bool true)) :: (3, .val (.bool true)) :: (61, .again) :: (28, .again) :: (80, .con C12) :: [])) =
(((((some (.bool (decide ((0 : Int) ≤ p))) : Option Value) = some (.bool true))) ∧
((((some (.bool (decide (p ≤ (3 : Int)))) : Option Value) = some (.bool true))) ∧
((((some (.bool (decide ((0 : Int) ≤ p))) : Option Value) = some (.bool true))) ∧
((((some (.bool (decide (p ≤ (3 : Int)))) : Option Value) = some (.bool true))) ∧
(((((2 : Nat) ≤ 2) ∧ (agZ p = agZ p)) ∧ ((((2 : Nat) ≤ 2) ∧ (agZ p = agZ p)) ∧ (True))) ∧
(((((2 : Nat) ≤ 2) ∧ (agZ p = agZ p)) ∧ (True)) ∧
((((some (.bool (decide ((0 : Int) ≤ p))) : Option Value) = some (.bool true))) ∧
((((some (.bool (decide (p ≤ (3 : Int)))) : Option Value) = some (.bool true))) ∧
(((((2 : Nat) ≤ 2) ∧ (agZ p = agZ p)) ∧ ((((2 : Nat) ≤ 2) ∧ (agZ p = agZ p)) ∧ (True))) ∧
(((((2 : Nat) ≤ 2) ∧ (agZ p = agZ p)) ∧ (True)) ∧
((((some (.bool (decide ((0 : Int) ≤ p))) : Option Value) = some (.bool true))) ∧
((((some (.bool (decide (p ≤ (3 : Int)))) : Option Value) = some (.bool true))) ∧
(((((2 : Nat) ≤ 2) ∧ (agZ p = agZ p)) ∧ ((((some (.slice (.some ⟨35, 0, .none⟩) 0 0) : Option Value) = some (.slice (.some ⟨35, 0, .none⟩) 0 0))) ∧ ((((2 : Nat) ≤ 2) ∧ (agZ p = agZ p)) ∧ (True)))) ∧
(((((some (.slice (.some ⟨35, 0, .none⟩) 0 0) : Option Value) = some (.slice (.some ⟨35, 0, .none⟩) 0 0))) ∧ ((((2 : Nat) ≤ 2) ∧ (agZ p = agZ p)) ∧ (True))) ∧
((ConOK Try.prog 29 (C29 (0 : Nat))) ∧ (Con.pre (C29 (0 : Nat)) ⟨⟨[(.int .i64 0)], []⟩, []⟩) ∧
((((some (.bool (decide ((0 : Int) ≤ p))) : Option Value) = some (.bool true))) ∧
((((some (.bool (decide (p ≤ (3 : Int)))) : Option Value) = some (.bool true))) ∧
(((((2 : Nat) ≤ 2) ∧ (agZ p = agZ p)) ∧ ((((some (.slice .none 0 0) : Option Value) = some (.slice .none 0 0))) ∧ ((((2 : Nat) ≤ 2) ∧ (agZ p = agZ p)) ∧ (True)))) ∧
(((((some (.slice .none 0 0) : Option Value) = some (.slice .none 0 0))) ∧ ((((2 : Nat) ≤ 2) ∧ (agZ p = agZ p)) ∧ (True))) ∧
((ConOK Try.prog 12 (C12)) ∧ (Con.pre (C12) ⟨⟨[], []⟩, []⟩) ∧
R (.ret (.bool true))))))))))))))))))))))) := by kernel_rfl
theorem w53f (p : Int) (k d : Nat) (R : ARes → Prop) : (vx.call 5 [hV p 0 0, .bool false, slV 1 k d] (retK R) m2d ((31, .val (.bool true)) :: (3, .val (.bool true)) :: (54, .val (.bool true)) :: (3, .val (.bool true)) :: (37, .again) :: (28, .again) :: (137, .val (.bool true)) :: (3, .val (.bool true)) :: (37, .again) :: (28, .again) :: (307, .val (.bool true)) :: (3, .val (.bool true)) :: (61, .again) :: (28, .again) :: (87, .con (C29 (0 : Nat))) :: (76, .val (.bool true)) :: (3, .val (.bool true)) :: (61, .again) :: (28, .again) :: (80, .con C12) :: [])) =
(((((some (.bool (decide ((0 : Int) ≤ p))) : Option Value) = some (.bool true))) ∧
((((some (.bool (decide (p ≤ (3 : Int)))) : Option Value) = some (.bool true))) ∧
((((some (.bool (decide ((0 : Int) ≤ p))) : Option Value) = some (.bool true))) ∧
((((some (.bool (decide (p ≤ (3 : Int)))) : Option Value) = some (.bool true))) ∧
(((((2 : Nat) ≤ 2) ∧ (agZ p = agZ p)) ∧ ((((2 : Nat) ≤ 2) ∧ (agZ p = agZ p)) ∧ (True))) ∧
(((((2 : Nat) ≤ 2) ∧ (agZ p = agZ p)) ∧ (True)) ∧
((((some (.bool (decide ((0 : Int) ≤ p))) : Option Value) = some (.bool true))) ∧
((((some (.bool (decide (p ≤ (3 : Int)))) : Option Value) = some (.bool true))) ∧
(((((2 : Nat) ≤ 2) ∧ (agZ p = agZ p)) ∧ ((((2 : Nat) ≤ 2) ∧ (agZ p = agZ p)) ∧ (True))) ∧
(((((2 : Nat) ≤ 2) ∧ (agZ p = agZ p)) ∧ (True)) ∧
((((some (.bool (decide ((0 : Int) ≤ p))) : Option Value) = some (.bool true))) ∧
((((some (.bool (decide (p ≤ (3 : Int)))) : Option Value) = some (.bool true))) ∧
(((((2 : Nat) ≤ 2) ∧ (agZ p = agZ p)) ∧ ((((some (.slice (.some ⟨35, 0, .none⟩) 0 0) : Option Value) = some (.slice (.some ⟨35, 0, .none⟩) 0 0))) ∧ ((((2 : Nat) ≤ 2) ∧ (agZ p = agZ p)) ∧ (True)))) ∧
(((((some (.slice (.some ⟨35, 0, .none⟩) 0 0) : Option Value) = some (.slice (.some ⟨35, 0, .none⟩) 0 0))) ∧ ((((2 : Nat) ≤ 2) ∧ (agZ p = agZ p)) ∧ (True))) ∧
((ConOK Try.prog 29 (C29 (0 : Nat))) ∧ (Con.pre (C29 (0 : Nat)) ⟨⟨[(.int .i64 0)], []⟩, []⟩) ∧
((((some (.bool (decide ((0 : Int) ≤ p))) : Option Value) = some (.bool true))) ∧
((((some (.bool (decide (p ≤ (3 : Int)))) : Option Value) = some (.bool true))) ∧
(((((2 : Nat) ≤ 2) ∧ (agZ p = agZ p)) ∧ ((((some (.slice .none 0 0) : Option Value) = some (.slice .none 0 0))) ∧ ((((2 : Nat) ≤ 2) ∧ (agZ p = agZ p)) ∧ (True)))) ∧
(((((some (.slice .none 0 0) : Option Value) = some (.slice .none 0 0))) ∧ ((((2 : Nat) ≤ 2) ∧ (agZ p = agZ p)) ∧ (True))) ∧
((ConOK Try.prog 12 (C12)) ∧ (Con.pre (C12) ⟨⟨[], []⟩, []⟩) ∧
R (.ret (.bool true))))))))))))))))))))))) := by kernel_rfl
theorem w53x1 (p : Int) (k d : Nat) (sure : Bool) (R : ARes → Prop) : (vx.call 5 [hV p 0 0, .bool sure, slV 1 k d] (retK R) m2d ((31, .val (.bool false)) :: (12, .con C12) :: [])) =
(((((some (.bool (decide ((0 : Int) ≤ p))) : Option Value) = some (.bool false))) ∧
((ConOK Try.prog 12 (C12)) ∧ (Con.pre (C12) ⟨⟨[], []⟩, []⟩) ∧
R (.ret (.bool true))))) := by kernel_rfl
theorem w53x2 (p : Int) (k d : Nat) (sure : Bool) (R : ARes → Prop) : (vx.call 5 [hV p 0 0, .bool sure, slV 1 k d] (retK R) m2d ((31, .val (.bool true)) :: (3, .val (.bool false)) :: (11, .con C12) :: [])) =
(((((some (.bool (decide ((0 : Int) ≤ p))) : Option Value) = some (.bool true))) ∧
((((some (.bool (decide (p ≤ (3 : Int)))) : Option Value) = some (.bool false))) ∧
((ConOK Try.prog 12 (C12)) ∧ (Con.pre (C12) ⟨⟨[], []⟩, []⟩) ∧
R (.ret (.bool true)))))) := by kernel_rfl
theorem w54t (p : Int) (k d : Nat) (R : ARes → Prop) : (vx.call 5 [hN p, .bool true, slV 1 k d] (retK R) m2d ((31, .val (.bool true)) :: (3, .val (.bool true)) :: (54, .val (.bool true)) :: (3, .val (.bool true)) :: (37, .again) :: (28, .again) :: (137, .val (.bool true)) :: (3, .val (.bool true)) :: (37, .again) :: (28, .again) :: (307, .val (.bool true)) :: (3, .val (.bool true)) :: (61, .again) :: (28, .again) :: (87, .con (C29 (0 : Nat))) :: (77, .val (.bool true)) :: (3, .val (.bool true)) :: (61, .again) :: (28, .again) :: (80, .con C12) :: [])) =
(((((some (.bool (decide ((0 : Int) ≤ p))) : Option Value) = some (.bool true))) ∧
((((some (.bool (decide (p ≤ (3 : Int)))) : Option Value) = some (.bool true))) ∧
((((some (.bool (decide ((0 : Int) ≤ p))) : Option Value) = some (.bool true))) ∧
((((some (.bool (decide (p ≤ (3 : Int)))) : Option Value) = some (.bool true))) ∧
(((((2 : Nat) ≤ 2) ∧ (agN p = agN p)) ∧ ((((2 : Nat) ≤ 2) ∧ (agN p = agN p)) ∧ (True))) ∧
(((((2 : Nat) ≤ 2) ∧ (agN p = agN p)) ∧ (True)) ∧
((((some (.bool (decide ((0 : Int) ≤ p))) : Option Value) = some (.bool true))) ∧
((((some (.bool (decide (p ≤ (3 : Int)))) : Option Value) = some (.bool true))) ∧
(((((2 : Nat) ≤ 2) ∧ (agN p = agN p)) ∧ ((((2 : Nat) ≤ 2) ∧ (agN p = agN p)) ∧ (True))) ∧
(((((2 : Nat) ≤ 2) ∧ (agN p = agN p)) ∧ (True)) ∧
((((some (.bool (decide ((0 : Int) ≤ p))) : Option Value) = some (.bool true))) ∧
((((some (.bool (decide (p ≤ (3 : Int)))) : Option Value) = some (.bool true))) ∧
(((((2 : Nat) ≤ 2) ∧ (agN p = agN p)) ∧ ((((some (.slice (.some ⟨35, 0, .none⟩) 0 0) : Option Value) = some (.slice (.some ⟨35, 0, .none⟩) 0 0))) ∧ ((((2 : Nat) ≤ 2) ∧ (agN p = agN p)) ∧ (True)))) ∧
(((((some (.slice (.some ⟨35, 0, .none⟩) 0 0) : Option Value) = some (.slice (.some ⟨35, 0, .none⟩) 0 0))) ∧ ((((2 : Nat) ≤ 2) ∧ (agN p = agN p)) ∧ (True))) ∧
((ConOK Try.prog 29 (C29 (0 : Nat))) ∧ (Con.pre (C29 (0 : Nat)) ⟨⟨[(.int .i64 0)], []⟩, []⟩) ∧
((((some (.bool (decide ((0 : Int) ≤ p))) : Option Value) = some (.bool true))) ∧
((((some (.bool (decide (p ≤ (3 : Int)))) : Option Value) = some (.bool true))) ∧
(((((2 : Nat) ≤ 2) ∧ (agN p = agN p)) ∧ ((((some (.slice .none 0 0) : Option Value) = some (.slice .none 0 0))) ∧ ((((2 : Nat) ≤ 2) ∧ (agN p = agN p)) ∧ (True)))) ∧
(((((some (.slice .none 0 0) : Option Value) = some (.slice .none 0 0))) ∧ ((((2 : Nat) ≤ 2) ∧ (agN p = agN p)) ∧ (True))) ∧
((ConOK Try.prog 12 (C12)) ∧ (Con.pre (C12) ⟨⟨[], []⟩, []⟩) ∧
R (.ret (.bool true))))))))))))))))))))))) := by kernel_rfl
theorem w54f (p : Int) (k d : Nat) (R : ARes → Prop) : (vx.call 5 [hN p, .bool false, slV 1 k d] (retK R) m2d ((31, .val (.bool true)) :: (3, .val (.bool true)) :: (54, .val (.bool true)) :: (3, .val (.bool true)) :: (37, .again) :: (28, .again) :: (137, .val (.bool true)) :: (3, .val (.bool true)) :: (37, .again) :: (28, .again) :: (307, .val (.bool true)) :: (3, .val (.bool true)) :: (61, .again) :: (28, .again) :: (87, .con (C29 (0 : Nat))) :: (76, .val (.bool true)) :: (3, .val (.bool true)) :: (61, .again) :: (28, .again) :: (80, .con C12) :: [])) =
(((((some (.bool (decide ((0 : Int) ≤ p))) : Option Value) = some (.bool true))) ∧
((((some (.bool (decide (p ≤ (3 : Int)))) : Option Value) = some (.bool true))) ∧
((((some (.bool (decide ((0 : Int) ≤ p))) : Option Value) = some (.bool true))) ∧
((((some (.bool (decide (p ≤ (3 : Int)))) : Option Value) = some (.bool true))) ∧
(((((2 : Nat) ≤ 2) ∧ (agN p = agN p)) ∧ ((((2 : Nat) ≤ 2) ∧ (agN p = agN p)) ∧ (True))) ∧
(((((2 : Nat) ≤ 2) ∧ (agN p = agN p)) ∧ (True)) ∧
((((some (.bool (decide ((0 : Int) ≤ p))) : Option Value) = some (.bool true))) ∧
((((some (.bool (decide (p ≤ (3 : Int)))) : Option Value) = some (.bool true))) ∧
(((((2 : Nat) ≤ 2) ∧ (agN p = agN p)) ∧ ((((2 : Nat) ≤ 2) ∧ (agN p = agN p)) ∧ (True))) ∧
(((((2 : Nat) ≤ 2) ∧ (agN p = agN p)) ∧ (True)) ∧
((((some (.bool (decide ((0 : Int) ≤ p))) : Option Value) = some (.bool true))) ∧
((((some (.bool (decide (p ≤ (3 : Int)))) : Option Value) = some (.bool true))) ∧
(((((2 : Nat) ≤ 2) ∧ (agN p = agN p)) ∧ ((((some (.slice (.some ⟨35, 0, .none⟩) 0 0) : Option Value) = some (.slice (.some ⟨35, 0, .none⟩) 0 0))) ∧ ((((2 : Nat) ≤ 2) ∧ (agN p = agN p)) ∧ (True)))) ∧
(((((some (.slice (.some ⟨35, 0, .none⟩) 0 0) : Option Value) = some (.slice (.some ⟨35, 0, .none⟩) 0 0))) ∧ ((((2 : Nat) ≤ 2) ∧ (agN p = agN p)) ∧ (True))) ∧
((ConOK Try.prog 29 (C29 (0 : Nat))) ∧ (Con.pre (C29 (0 : Nat)) ⟨⟨[(.int .i64 0)], []⟩, []⟩) ∧
((((some (.bool (decide ((0 : Int) ≤ p))) : Option Value) = some (.bool true))) ∧
((((some (.bool (decide (p ≤ (3 : Int)))) : Option Value) = some (.bool true))) ∧
(((((2 : Nat) ≤ 2) ∧ (agN p = agN p)) ∧ ((((some (.slice .none 0 0) : Option Value) = some (.slice .none 0 0))) ∧ ((((2 : Nat) ≤ 2) ∧ (agN p = agN p)) ∧ (True)))) ∧
(((((some (.slice .none 0 0) : Option Value) = some (.slice .none 0 0))) ∧ ((((2 : Nat) ≤ 2) ∧ (agN p = agN p)) ∧ (True))) ∧
((ConOK Try.prog 12 (C12)) ∧ (Con.pre (C12) ⟨⟨[], []⟩, []⟩) ∧
R (.ret (.bool true))))))))))))))))))))))) := by kernel_rfl
theorem w54x1 (p : Int) (k d : Nat) (sure : Bool) (R : ARes → Prop) : (vx.call 5 [hN p, .bool sure, slV 1 k d] (retK R) m2d ((31, .val (.bool false)) :: (12, .con C12) :: [])) =
(((((some (.bool (decide ((0 : Int) ≤ p))) : Option Value) = some (.bool false))) ∧
((ConOK Try.prog 12 (C12)) ∧ (Con.pre (C12) ⟨⟨[], []⟩, []⟩) ∧
R (.ret (.bool true))))) := by kernel_rfl
theorem w54x2 (p : Int) (k d : Nat) (sure : Bool) (R : ARes → Prop) : (vx.call 5 [hN p, .bool sure, slV 1 k d] (retK R) m2d ((31, .val (.bool true)) :: (3, .val (.bool false)) :: (11, .con C12) :: [])) =
(((((some (.bool (decide ((0 : Int) ≤ p))) : Option Value) = some (.bool true))) ∧
((((some (.bool (decide (p ≤ (3 : Int)))) : Option Value) = some (.bool false))) ∧
((ConOK Try.prog 12 (C12)) ∧ (Con.pre (C12) ⟨⟨[], []⟩, []⟩) ∧
R (.ret (.bool true)))))) := by kernel_rfl
theorem law5w1 (p : Int) (sure : Bool) (k d : Nat) (bs : Nat → Int) : ∃ hs, vx.call 5 [hV p 0 0, .bool sure, slV 1 k d] (retK fun r => r = .ret (.bool true)) (m2z (u8s k bs)) hs := by
  have h29 := C29_ok (show 0 < 128 by omega)
  have key : ∀ R : ARes → Prop, R (.ret (.bool true)) → ∃ hs, vx.call 5 [hV p 0 0, .bool sure, slV 1 k d] (retK R) (m2z (u8s k bs)) hs := by
    intro R hR
    by_cases h0 : 0 ≤ p
    · have e0 : decide (0 ≤ p) = true := decide_eq_true h0
      by_cases h3 : p ≤ 3
      · have e3 : decide (p ≤ 3) = true := decide_eq_true h3
        cases sure
        · refine ⟨_, (w51f p k d bs R).mpr ?_⟩
          simp only [e0, e3]
          repeat' (first | with_reducible apply And.intro | with_reducible intro)
          all_goals first | exact C12_ok | exact hR | exact h29 | exact trivial | rfl | exact Nat.le_refl _ | exact Nat.zero_le _ | omega | (exfalso; simp_all; done)
        · refine ⟨_, (w51t p k d bs R).mpr ?_⟩
          simp only [e0, e3]
          repeat' (first | with_reducible apply And.intro | with_reducible intro)
          all_goals first | exact C12_ok | exact hR | exact h29 | exact trivial | rfl | exact Nat.le_refl _ | exact Nat.zero_le _ | omega | (exfalso; simp_all; done)
      · have e3 : decide (p ≤ 3) = false := decide_eq_false h3
        exact ⟨_, (w51x2 p k d bs sure R).mpr ⟨by rw [e0], by rw [e3], C12_ok, rfl, hR⟩⟩
    · have e0 : decide (0 ≤ p) = false := decide_eq_false h0
      exact ⟨_, (w51x1 p k d bs sure R).mpr ⟨by rw [e0], C12_ok, rfl, hR⟩⟩
  exact key _ rfl
theorem law5w2 (p : Int) (sure : Bool) : ∃ hs, vx.call 5 [hV p 0 0, .bool sure, nilS] (retK fun r => r = .ret (.bool true)) m2d hs := by
  have h29 := C29_ok (show 0 < 128 by omega)
  have key : ∀ R : ARes → Prop, R (.ret (.bool true)) → ∃ hs, vx.call 5 [hV p 0 0, .bool sure, nilS] (retK R) m2d hs := by
    intro R hR
    by_cases h0 : 0 ≤ p
    · have e0 : decide (0 ≤ p) = true := decide_eq_true h0
      by_cases h3 : p ≤ 3
      · have e3 : decide (p ≤ 3) = true := decide_eq_true h3
        cases sure
        · refine ⟨_, (w52f p R).mpr ?_⟩
          simp only [e0, e3]
          repeat' (first | with_reducible apply And.intro | with_reducible intro)
          all_goals first | exact C12_ok | exact hR | exact h29 | exact trivial | rfl | exact Nat.le_refl _ | exact Nat.zero_le _ | omega | (exfalso; simp_all; done)
        · refine ⟨_, (w52t p R).mpr ?_⟩
          simp only [e0, e3]
          repeat' (first | with_reducible apply And.intro | with_reducible intro)
          all_goals first | exact C12_ok | exact hR | exact h29 | exact trivial | rfl | exact Nat.le_refl _ | exact Nat.zero_le _ | omega | (exfalso; simp_all; done)
      · have e3 : decide (p ≤ 3) = false := decide_eq_false h3
        exact ⟨_, (w52x2 p sure R).mpr ⟨by rw [e0], by rw [e3], C12_ok, rfl, hR⟩⟩
    · have e0 : decide (0 ≤ p) = false := decide_eq_false h0
      exact ⟨_, (w52x1 p sure R).mpr ⟨by rw [e0], C12_ok, rfl, hR⟩⟩
  exact key _ rfl
theorem law5w3 (p : Int) (sure : Bool) (k d : Nat) : ∃ hs, vx.call 5 [hV p 0 0, .bool sure, slV 1 k d] (retK fun r => r = .ret (.bool true)) m2d hs := by
  have h29 := C29_ok (show 0 < 128 by omega)
  have key : ∀ R : ARes → Prop, R (.ret (.bool true)) → ∃ hs, vx.call 5 [hV p 0 0, .bool sure, slV 1 k d] (retK R) m2d hs := by
    intro R hR
    by_cases h0 : 0 ≤ p
    · have e0 : decide (0 ≤ p) = true := decide_eq_true h0
      by_cases h3 : p ≤ 3
      · have e3 : decide (p ≤ 3) = true := decide_eq_true h3
        cases sure
        · refine ⟨_, (w53f p k d R).mpr ?_⟩
          simp only [e0, e3]
          repeat' (first | with_reducible apply And.intro | with_reducible intro)
          all_goals first | exact C12_ok | exact hR | exact h29 | exact trivial | rfl | exact Nat.le_refl _ | exact Nat.zero_le _ | omega | (exfalso; simp_all; done)
        · refine ⟨_, (w53t p k d R).mpr ?_⟩
          simp only [e0, e3]
          repeat' (first | with_reducible apply And.intro | with_reducible intro)
          all_goals first | exact C12_ok | exact hR | exact h29 | exact trivial | rfl | exact Nat.le_refl _ | exact Nat.zero_le _ | omega | (exfalso; simp_all; done)
      · have e3 : decide (p ≤ 3) = false := decide_eq_false h3
        exact ⟨_, (w53x2 p k d sure R).mpr ⟨by rw [e0], by rw [e3], C12_ok, rfl, hR⟩⟩
    · have e0 : decide (0 ≤ p) = false := decide_eq_false h0
      exact ⟨_, (w53x1 p k d sure R).mpr ⟨by rw [e0], C12_ok, rfl, hR⟩⟩
  exact key _ rfl
theorem law5w4 (p : Int) (sure : Bool) (k d : Nat) : ∃ hs, vx.call 5 [hN p, .bool sure, slV 1 k d] (retK fun r => r = .ret (.bool true)) m2d hs := by
  have h29 := C29_ok (show 0 < 128 by omega)
  have key : ∀ R : ARes → Prop, R (.ret (.bool true)) → ∃ hs, vx.call 5 [hN p, .bool sure, slV 1 k d] (retK R) m2d hs := by
    intro R hR
    by_cases h0 : 0 ≤ p
    · have e0 : decide (0 ≤ p) = true := decide_eq_true h0
      by_cases h3 : p ≤ 3
      · have e3 : decide (p ≤ 3) = true := decide_eq_true h3
        cases sure
        · refine ⟨_, (w54f p k d R).mpr ?_⟩
          simp only [e0, e3]
          repeat' (first | with_reducible apply And.intro | with_reducible intro)
          all_goals first | exact C12_ok | exact hR | exact h29 | exact trivial | rfl | exact Nat.le_refl _ | exact Nat.zero_le _ | omega | (exfalso; simp_all; done)
        · refine ⟨_, (w54t p k d R).mpr ?_⟩
          simp only [e0, e3]
          repeat' (first | with_reducible apply And.intro | with_reducible intro)
          all_goals first | exact C12_ok | exact hR | exact h29 | exact trivial | rfl | exact Nat.le_refl _ | exact Nat.zero_le _ | omega | (exfalso; simp_all; done)
      · have e3 : decide (p ≤ 3) = false := decide_eq_false h3
        exact ⟨_, (w54x2 p k d sure R).mpr ⟨by rw [e0], by rw [e3], C12_ok, rfl, hR⟩⟩
    · have e0 : decide (0 ≤ p) = false := decide_eq_false h0
      exact ⟨_, (w54x1 p k d sure R).mpr ⟨by rw [e0], C12_ok, rfl, hR⟩⟩
  exact key _ rfl
end Go.Ab
