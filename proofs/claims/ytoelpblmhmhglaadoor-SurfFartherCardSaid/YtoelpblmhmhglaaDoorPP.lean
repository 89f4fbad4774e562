/- package surf: SurfKnown, of surfs that are not valid, of no hours, of no huts, or of which slices are nil. -/
import Derived.Test.YtoelpblmhmhglaaDoorPL
import Derived.Test.YtoelpblmhmhglaaDoorPO
import Derived.Test.YtoelpblmhmhglaaDoorPH
set_option maxRecDepth 100000
namespace Go.Ab
open Go Go.RowKit Go.Proofs
theorem f20nnN (rw st : Int) (b1 b2 : Bool) (R : ARes → Prop) : (vx.call 20 [.agg ⟨[I rw, I st, nilS, nilS, nilS]⟩] (retK R) mD5 ((5, .con (C52 rw 1 6 b1)) :: [(0, .split ([]) ((3, .con (C52 st 0 4 b2)) :: [(0, .split ([]) ([]))]))])) =
(CA 52 (C52 rw 1 6 b1) ⟨⟨[I rw, I 1, I 6], []⟩, []⟩ <|
(((!b1) = true → R (.ret (.bool false))) ∧
((!b1) = false → (CA 52 (C52 st 0 4 b2) ⟨⟨[I st, I 0, I 4], []⟩, []⟩ <|
(((!b2) = true → R (.ret (.bool false))) ∧
((!b2) = false → R (.ret (.bool true)))))))) := by kernel_rfl
theorem f79nnN (rw st : Int) (b1 b2 : Bool) (R : ARes → Prop) : (vx.call 79 [.agg ⟨[I rw, I st, nilS, nilS, nilS]⟩] (retK R) mD5 ((5, .con (CWI rw 1 6 b1)) :: [(0, .split ([]) ((3, .con (CWI st 0 4 b2)) :: [(0, .split ([]) ([]))]))])) =
(CA 56 (CWI rw 1 6 b1) ⟨⟨[I rw, I 1, I 6], []⟩, []⟩ <|
(((!b1) = true → R (.ret (.bool false))) ∧
((!b1) = false → (CA 56 (CWI st 0 4 b2) ⟨⟨[I st, I 0, I 4], []⟩, []⟩ <|
(((!b2) = true → R (.ret (.bool false))) ∧
((!b2) = false → R (.ret (.bool true)))))))) := by kernel_rfl
theorem f20nvN (rw st : Int) (c1 : Nat) (b1 b2 : Bool) (R : ARes → Prop) : (vx.call 20 [.agg ⟨[I rw, I st, nilS, slV 3 0 c1, nilS]⟩] (retK R) mD5 ((5, .con (C52 rw 1 6 b1)) :: [(0, .split ([]) ((3, .con (C52 st 0 4 b2)) :: [(0, .split ([]) ([]))]))])) =
(CA 52 (C52 rw 1 6 b1) ⟨⟨[I rw, I 1, I 6], []⟩, []⟩ <|
(((!b1) = true → R (.ret (.bool false))) ∧
((!b1) = false → (CA 52 (C52 st 0 4 b2) ⟨⟨[I st, I 0, I 4], []⟩, []⟩ <|
(((!b2) = true → R (.ret (.bool false))) ∧
((!b2) = false → R (.ret (.bool true)))))))) := by kernel_rfl
theorem f79nvN (rw st : Int) (c1 : Nat) (b1 b2 : Bool) (R : ARes → Prop) : (vx.call 79 [.agg ⟨[I rw, I st, nilS, slV 3 0 c1, nilS]⟩] (retK R) mD5 ((5, .con (CWI rw 1 6 b1)) :: [(0, .split ([]) ((3, .con (CWI st 0 4 b2)) :: [(0, .split ([]) ([]))]))])) =
(CA 56 (CWI rw 1 6 b1) ⟨⟨[I rw, I 1, I 6], []⟩, []⟩ <|
(((!b1) = true → R (.ret (.bool false))) ∧
((!b1) = false → (CA 56 (CWI st 0 4 b2) ⟨⟨[I st, I 0, I 4], []⟩, []⟩ <|
(((!b2) = true → R (.ret (.bool false))) ∧
((!b2) = false → R (.ret (.bool true)))))))) := by kernel_rfl
theorem f20wnN (rw st : Int) (c1 : Nat) (b1 b2 : Bool) (R : ARes → Prop) : (vx.call 20 [.agg ⟨[I rw, I st, slV 2 0 c1, nilS, nilS]⟩] (retK R) mD5 ((5, .con (C52 rw 1 6 b1)) :: [(0, .split ([]) ((3, .con (C52 st 0 4 b2)) :: [(0, .split ([]) ([]))]))])) =
(CA 52 (C52 rw 1 6 b1) ⟨⟨[I rw, I 1, I 6], []⟩, []⟩ <|
(((!b1) = true → R (.ret (.bool false))) ∧
((!b1) = false → (CA 52 (C52 st 0 4 b2) ⟨⟨[I st, I 0, I 4], []⟩, []⟩ <|
(((!b2) = true → R (.ret (.bool false))) ∧
((!b2) = false → R (.ret (.bool true)))))))) := by kernel_rfl
theorem f79wnN (rw st : Int) (c1 : Nat) (b1 b2 : Bool) (R : ARes → Prop) : (vx.call 79 [.agg ⟨[I rw, I st, slV 2 0 c1, nilS, nilS]⟩] (retK R) mD5 ((5, .con (CWI rw 1 6 b1)) :: [(0, .split ([]) ((3, .con (CWI st 0 4 b2)) :: [(0, .split ([]) ([]))]))])) =
(CA 56 (CWI rw 1 6 b1) ⟨⟨[I rw, I 1, I 6], []⟩, []⟩ <|
(((!b1) = true → R (.ret (.bool false))) ∧
((!b1) = false → (CA 56 (CWI st 0 4 b2) ⟨⟨[I st, I 0, I 4], []⟩, []⟩ <|
(((!b2) = true → R (.ret (.bool false))) ∧
((!b2) = false → R (.ret (.bool true)))))))) := by kernel_rfl
theorem f20nkP (rw st : Int) (n cv m cu : Nat) (b1 b2 : Bool) (R : ARes → Prop) : (vx.call 20 [.agg ⟨[I rw, I st, nilS, slV 3 n cv, slV 4 m cu]⟩] (retK R) mD5 ((5, .con (C52 rw 1 6 b1)) :: [(0, .split ([]) ((3, .con (C52 st 0 4 b2)) :: [(0, .split ([]) ((14, .val (.bool true)) :: []))]))])) =
(CA 52 (C52 rw 1 6 b1) ⟨⟨[I rw, I 1, I 6], []⟩, []⟩ <|
(((!b1) = true → R (.ret (.bool false))) ∧
((!b1) = false → (CA 52 (C52 st 0 4 b2) ⟨⟨[I st, I 0, I 4], []⟩, []⟩ <|
(((!b2) = true → R (.ret (.bool false))) ∧
((!b2) = false → ((OT ((n : Int) != (↑(0 : Nat) : Int)) true) ∧
R (.ret (.bool false))))))))) := by kernel_rfl
theorem f20nkN (rw st : Int) (n cv : Nat) (b1 b2 : Bool) (R : ARes → Prop) : (vx.call 20 [.agg ⟨[I rw, I st, nilS, slV 3 n cv, nilS]⟩] (retK R) mD5 ((5, .con (C52 rw 1 6 b1)) :: [(0, .split ([]) ((3, .con (C52 st 0 4 b2)) :: [(0, .split ([]) ((14, .val (.bool true)) :: []))]))])) =
(CA 52 (C52 rw 1 6 b1) ⟨⟨[I rw, I 1, I 6], []⟩, []⟩ <|
(((!b1) = true → R (.ret (.bool false))) ∧
((!b1) = false → (CA 52 (C52 st 0 4 b2) ⟨⟨[I st, I 0, I 4], []⟩, []⟩ <|
(((!b2) = true → R (.ret (.bool false))) ∧
((!b2) = false → ((OT ((n : Int) != (↑(0 : Nat) : Int)) true) ∧
R (.ret (.bool false))))))))) := by kernel_rfl
theorem f20knP (rw st : Int) (n cw m cu : Nat) (b1 b2 : Bool) (R : ARes → Prop) : (vx.call 20 [.agg ⟨[I rw, I st, slV 2 n cw, nilS, slV 4 m cu]⟩] (retK R) mD5 ((5, .con (C52 rw 1 6 b1)) :: [(0, .split ([]) ((3, .con (C52 st 0 4 b2)) :: [(0, .split ([]) ([(5, .split ([]) ((8, .val (.bool true)) :: []))]))]))])) =
(CA 52 (C52 rw 1 6 b1) ⟨⟨[I rw, I 1, I 6], []⟩, []⟩ <|
(((!b1) = true → R (.ret (.bool false))) ∧
((!b1) = false → (CA 52 (C52 st 0 4 b2) ⟨⟨[I st, I 0, I 4], []⟩, []⟩ <|
(((!b2) = true → R (.ret (.bool false))) ∧
((!b2) = false → (((decide ((n : Int) > 8)) = true → R (.ret (.bool false))) ∧
((decide ((n : Int) > 8)) = false → ((OT ((↑(0 : Nat) : Int) != (n : Int)) true) ∧
R (.ret (.bool false))))))))))) := by kernel_rfl
theorem f20knN (rw st : Int) (n cw : Nat) (b1 b2 : Bool) (R : ARes → Prop) : (vx.call 20 [.agg ⟨[I rw, I st, slV 2 n cw, nilS, nilS]⟩] (retK R) mD5 ((5, .con (C52 rw 1 6 b1)) :: [(0, .split ([]) ((3, .con (C52 st 0 4 b2)) :: [(0, .split ([]) ([(5, .split ([]) ((8, .val (.bool true)) :: []))]))]))])) =
(CA 52 (C52 rw 1 6 b1) ⟨⟨[I rw, I 1, I 6], []⟩, []⟩ <|
(((!b1) = true → R (.ret (.bool false))) ∧
((!b1) = false → (CA 52 (C52 st 0 4 b2) ⟨⟨[I st, I 0, I 4], []⟩, []⟩ <|
(((!b2) = true → R (.ret (.bool false))) ∧
((!b2) = false → (((decide ((n : Int) > 8)) = true → R (.ret (.bool false))) ∧
((decide ((n : Int) > 8)) = false → ((OT ((↑(0 : Nat) : Int) != (n : Int)) true) ∧
R (.ret (.bool false))))))))))) := by kernel_rfl
section
variable {rw st : Int} {n cw n2 cv m cu j : Nat} {w v : Nat → Sp} {u : Nat → Raw}
theorem C20nnN_ok : ConOK Tryd.prog 20 (CX (.agg (.hole (.hole (.val nilS (.val nilS (.val nilS .nil))))) .nil) rw st [] (inB rw 1 6 && inB st 0 4)) := by
 have k1 := C52_ok rw 1 6
 have k2 := C52_ok st 0 4
 refine con_of vx_sound ⟨⟨[I rw, I st], []⟩, []⟩ (fun y hy => ?_) rfl (fun y _ => rfl) (fun y hy => ?_) rfl (Nat.le_of_ble_eq_true rfl) (by rw [nglob]; exact Nat.le_of_ble_eq_true rfl)
 · cases hy
   have key : ∀ R : ARes → Prop, R (.ret (.bool (inB rw 1 6 && inB st 0 4))) → ∃ hs, vx.call 20 [.agg ⟨[I rw, I st, nilS, nilS, nilS]⟩] (retK R) mD5 hs := fun R hR => by
    refine ⟨_, (f20nnN rw st (inB rw 1 6) (inB st 0 4) R).mpr ?_⟩
    refine ⟨k1, rfl, fun h1 => ?_, fun h1 => ⟨k2, rfl, fun h2 => ?_, fun h2 => ?_⟩⟩
    · rw [show inB rw 1 6 = false by simpa using h1] at hR; exact hR
    · rw [show inB rw 1 6 = true by simpa using h1, show inB st 0 4 = false by simpa using h2] at hR; exact hR
    · rw [show inB rw 1 6 = true by simpa using h1, show inB st 0 4 = true by simpa using h2] at hR; exact hR
   obtain ⟨hs, h⟩ := key (fun r => r = .ret (.bool (inB rw 1 6 && inB st 0 4))) rfl
   exact ⟨hs, h⟩
 · cases hy
   intro cs hc
   cases hc
theorem C79nnN_ok : ConOK Tryd.prog 79 (CX (.agg (.hole (.hole (.val nilS (.val nilS (.val nilS .nil))))) .nil) rw st [] (inB rw 1 6 && inB st 0 4)) := by
 have k1 := CWI_ok rw 1 6
 have k2 := CWI_ok st 0 4
 refine con_of vx_sound ⟨⟨[I rw, I st], []⟩, []⟩ (fun y hy => ?_) rfl (fun y _ => rfl) (fun y hy => ?_) rfl (Nat.le_of_ble_eq_true rfl) (by rw [nglob]; exact Nat.le_of_ble_eq_true rfl)
 · cases hy
   have key : ∀ R : ARes → Prop, R (.ret (.bool (inB rw 1 6 && inB st 0 4))) → ∃ hs, vx.call 79 [.agg ⟨[I rw, I st, nilS, nilS, nilS]⟩] (retK R) mD5 hs := fun R hR => by
    refine ⟨_, (f79nnN rw st (inB rw 1 6) (inB st 0 4) R).mpr ?_⟩
    refine ⟨k1, rfl, fun h1 => ?_, fun h1 => ⟨k2, rfl, fun h2 => ?_, fun h2 => ?_⟩⟩
    · rw [show inB rw 1 6 = false by simpa using h1] at hR; exact hR
    · rw [show inB rw 1 6 = true by simpa using h1, show inB st 0 4 = false by simpa using h2] at hR; exact hR
    · rw [show inB rw 1 6 = true by simpa using h1, show inB st 0 4 = true by simpa using h2] at hR; exact hR
   obtain ⟨hs, h⟩ := key (fun r => r = .ret (.bool (inB rw 1 6 && inB st 0 4))) rfl
   exact ⟨hs, h⟩
 · cases hy
   intro cs hc
   cases hc
theorem C20nvN_ok {c1 : Nat} : ConOK Tryd.prog 20 (CX (.agg (.hole (.hole (.val nilS (.slice 3 0 (.val nilS .nil))))) .nil) rw st [(0, c1)] (inB rw 1 6 && inB st 0 4)) := by
 have k1 := C52_ok rw 1 6
 have k2 := C52_ok st 0 4
 refine con_of vx_sound ⟨⟨[I rw, I st], [(0, c1)]⟩, []⟩ (fun y hy => ?_) rfl (fun y _ => rfl) (fun y hy => ?_) rfl (Nat.le_of_ble_eq_true rfl) (by rw [nglob]; exact Nat.le_of_ble_eq_true rfl)
 · cases hy
   have key : ∀ R : ARes → Prop, R (.ret (.bool (inB rw 1 6 && inB st 0 4))) → ∃ hs, vx.call 20 [.agg ⟨[I rw, I st, nilS, slV 3 0 c1, nilS]⟩] (retK R) mD5 hs := fun R hR => by
    refine ⟨_, (f20nvN rw st c1 (inB rw 1 6) (inB st 0 4) R).mpr ?_⟩
    refine ⟨k1, rfl, fun h1 => ?_, fun h1 => ⟨k2, rfl, fun h2 => ?_, fun h2 => ?_⟩⟩
    · rw [show inB rw 1 6 = false by simpa using h1] at hR; exact hR
    · rw [show inB rw 1 6 = true by simpa using h1, show inB st 0 4 = false by simpa using h2] at hR; exact hR
    · rw [show inB rw 1 6 = true by simpa using h1, show inB st 0 4 = true by simpa using h2] at hR; exact hR
   obtain ⟨hs, h⟩ := key (fun r => r = .ret (.bool (inB rw 1 6 && inB st 0 4))) rfl
   exact ⟨hs, h⟩
 · cases hy
   intro cs hc
   cases hc
theorem C79nvN_ok {c1 : Nat} : ConOK Tryd.prog 79 (CX (.agg (.hole (.hole (.val nilS (.slice 3 0 (.val nilS .nil))))) .nil) rw st [(0, c1)] (inB rw 1 6 && inB st 0 4)) := by
 have k1 := CWI_ok rw 1 6
 have k2 := CWI_ok st 0 4
 refine con_of vx_sound ⟨⟨[I rw, I st], [(0, c1)]⟩, []⟩ (fun y hy => ?_) rfl (fun y _ => rfl) (fun y hy => ?_) rfl (Nat.le_of_ble_eq_true rfl) (by rw [nglob]; exact Nat.le_of_ble_eq_true rfl)
 · cases hy
   have key : ∀ R : ARes → Prop, R (.ret (.bool (inB rw 1 6 && inB st 0 4))) → ∃ hs, vx.call 79 [.agg ⟨[I rw, I st, nilS, slV 3 0 c1, nilS]⟩] (retK R) mD5 hs := fun R hR => by
    refine ⟨_, (f79nvN rw st c1 (inB rw 1 6) (inB st 0 4) R).mpr ?_⟩
    refine ⟨k1, rfl, fun h1 => ?_, fun h1 => ⟨k2, rfl, fun h2 => ?_, fun h2 => ?_⟩⟩
    · rw [show inB rw 1 6 = false by simpa using h1] at hR; exact hR
    · rw [show inB rw 1 6 = true by simpa using h1, show inB st 0 4 = false by simpa using h2] at hR; exact hR
    · rw [show inB rw 1 6 = true by simpa using h1, show inB st 0 4 = true by simpa using h2] at hR; exact hR
   obtain ⟨hs, h⟩ := key (fun r => r = .ret (.bool (inB rw 1 6 && inB st 0 4))) rfl
   exact ⟨hs, h⟩
 · cases hy
   intro cs hc
   cases hc
theorem C20wnN_ok {c1 : Nat} : ConOK Tryd.prog 20 (CX (.agg (.hole (.hole (.slice 2 0 (.val nilS (.val nilS .nil))))) .nil) rw st [(0, c1)] (inB rw 1 6 && inB st 0 4)) := by
 have k1 := C52_ok rw 1 6
 have k2 := C52_ok st 0 4
 refine con_of vx_sound ⟨⟨[I rw, I st], [(0, c1)]⟩, []⟩ (fun y hy => ?_) rfl (fun y _ => rfl) (fun y hy => ?_) rfl (Nat.le_of_ble_eq_true rfl) (by rw [nglob]; exact Nat.le_of_ble_eq_true rfl)
 · cases hy
   have key : ∀ R : ARes → Prop, R (.ret (.bool (inB rw 1 6 && inB st 0 4))) → ∃ hs, vx.call 20 [.agg ⟨[I rw, I st, slV 2 0 c1, nilS, nilS]⟩] (retK R) mD5 hs := fun R hR => by
    refine ⟨_, (f20wnN rw st c1 (inB rw 1 6) (inB st 0 4) R).mpr ?_⟩
    refine ⟨k1, rfl, fun h1 => ?_, fun h1 => ⟨k2, rfl, fun h2 => ?_, fun h2 => ?_⟩⟩
    · rw [show inB rw 1 6 = false by simpa using h1] at hR; exact hR
    · rw [show inB rw 1 6 = true by simpa using h1, show inB st 0 4 = false by simpa using h2] at hR; exact hR
    · rw [show inB rw 1 6 = true by simpa using h1, show inB st 0 4 = true by simpa using h2] at hR; exact hR
   obtain ⟨hs, h⟩ := key (fun r => r = .ret (.bool (inB rw 1 6 && inB st 0 4))) rfl
   exact ⟨hs, h⟩
 · cases hy
   intro cs hc
   cases hc
theorem C79wnN_ok {c1 : Nat} : ConOK Tryd.prog 79 (CX (.agg (.hole (.hole (.slice 2 0 (.val nilS (.val nilS .nil))))) .nil) rw st [(0, c1)] (inB rw 1 6 && inB st 0 4)) := by
 have k1 := CWI_ok rw 1 6
 have k2 := CWI_ok st 0 4
 refine con_of vx_sound ⟨⟨[I rw, I st], [(0, c1)]⟩, []⟩ (fun y hy => ?_) rfl (fun y _ => rfl) (fun y hy => ?_) rfl (Nat.le_of_ble_eq_true rfl) (by rw [nglob]; exact Nat.le_of_ble_eq_true rfl)
 · cases hy
   have key : ∀ R : ARes → Prop, R (.ret (.bool (inB rw 1 6 && inB st 0 4))) → ∃ hs, vx.call 79 [.agg ⟨[I rw, I st, slV 2 0 c1, nilS, nilS]⟩] (retK R) mD5 hs := fun R hR => by
    refine ⟨_, (f79wnN rw st c1 (inB rw 1 6) (inB st 0 4) R).mpr ?_⟩
    refine ⟨k1, rfl, fun h1 => ?_, fun h1 => ⟨k2, rfl, fun h2 => ?_, fun h2 => ?_⟩⟩
    · rw [show inB rw 1 6 = false by simpa using h1] at hR; exact hR
    · rw [show inB rw 1 6 = true by simpa using h1, show inB st 0 4 = false by simpa using h2] at hR; exact hR
    · rw [show inB rw 1 6 = true by simpa using h1, show inB st 0 4 = true by simpa using h2] at hR; exact hR
   obtain ⟨hs, h⟩ := key (fun r => r = .ret (.bool (inB rw 1 6 && inB st 0 4))) rfl
   exact ⟨hs, h⟩
 · cases hy
   intro cs hc
   cases hc
theorem C20nkP_ok (h : n ≠ 0) : ConOK Tryd.prog 20 (CX (.agg (.hole (.hole (.val nilS (.slice 3 0 (.slice 4 0 .nil))))) .nil) rw st [(n, cv), (m, cu)] false) := by
 have k1 := C52_ok rw 1 6
 have k2 := C52_ok st 0 4
 refine con_of vx_sound ⟨⟨[I rw, I st], [(n, cv), (m, cu)]⟩, []⟩ (fun y hy => ?_) rfl (fun y _ => rfl) (fun y hy => ?_) rfl (Nat.le_of_ble_eq_true rfl) (by rw [nglob]; exact Nat.le_of_ble_eq_true rfl)
 · cases hy
   have key : ∀ R : ARes → Prop, R (.ret (.bool false)) → ∃ hs, vx.call 20 [.agg ⟨[I rw, I st, nilS, slV 3 n cv, slV 4 m cu]⟩] (retK R) mD5 hs := fun R hR => by
    refine ⟨_, (f20nkP rw st n cv m cu (inB rw 1 6) (inB st 0 4) R).mpr ?_⟩
    repeat' (first | with_reducible apply And.intro | with_reducible intro)
    all_goals first
     | exact k1
     | exact k2
     | exact hR
     | exact tt (lne (b := 0) h)
     | rfl
   obtain ⟨hs, h⟩ := key (fun r => r = .ret (.bool false)) rfl
   exact ⟨hs, h⟩
 · cases hy
   intro cs hc
   cases hc
theorem C20nkN_ok (h : n ≠ 0) : ConOK Tryd.prog 20 (CX (.agg (.hole (.hole (.val nilS (.slice 3 0 (.val nilS .nil))))) .nil) rw st [(n, cv)] false) := by
 have k1 := C52_ok rw 1 6
 have k2 := C52_ok st 0 4
 refine con_of vx_sound ⟨⟨[I rw, I st], [(n, cv)]⟩, []⟩ (fun y hy => ?_) rfl (fun y _ => rfl) (fun y hy => ?_) rfl (Nat.le_of_ble_eq_true rfl) (by rw [nglob]; exact Nat.le_of_ble_eq_true rfl)
 · cases hy
   have key : ∀ R : ARes → Prop, R (.ret (.bool false)) → ∃ hs, vx.call 20 [.agg ⟨[I rw, I st, nilS, slV 3 n cv, nilS]⟩] (retK R) mD5 hs := fun R hR => by
    refine ⟨_, (f20nkN rw st n cv (inB rw 1 6) (inB st 0 4) R).mpr ?_⟩
    repeat' (first | with_reducible apply And.intro | with_reducible intro)
    all_goals first
     | exact k1
     | exact k2
     | exact hR
     | exact tt (lne (b := 0) h)
     | rfl
   obtain ⟨hs, h⟩ := key (fun r => r = .ret (.bool false)) rfl
   exact ⟨hs, h⟩
 · cases hy
   intro cs hc
   cases hc
theorem C20knP_ok (h : 0 ≠ n) : ConOK Tryd.prog 20 (CX (.agg (.hole (.hole (.slice 2 0 (.val nilS (.slice 4 0 .nil))))) .nil) rw st [(n, cw), (m, cu)] false) := by
 have k1 := C52_ok rw 1 6
 have k2 := C52_ok st 0 4
 refine con_of vx_sound ⟨⟨[I rw, I st], [(n, cw), (m, cu)]⟩, []⟩ (fun y hy => ?_) rfl (fun y _ => rfl) (fun y hy => ?_) rfl (Nat.le_of_ble_eq_true rfl) (by rw [nglob]; exact Nat.le_of_ble_eq_true rfl)
 · cases hy
   have key : ∀ R : ARes → Prop, R (.ret (.bool false)) → ∃ hs, vx.call 20 [.agg ⟨[I rw, I st, slV 2 n cw, nilS, slV 4 m cu]⟩] (retK R) mD5 hs := fun R hR => by
    refine ⟨_, (f20knP rw st n cw m cu (inB rw 1 6) (inB st 0 4) R).mpr ?_⟩
    repeat' (first | with_reducible apply And.intro | with_reducible intro)
    all_goals first
     | exact k1
     | exact k2
     | exact hR
     | exact tt (lne (a := 0) h)
     | rfl
   obtain ⟨hs, h⟩ := key (fun r => r = .ret (.bool false)) rfl
   exact ⟨hs, h⟩
 · cases hy
   intro cs hc
   cases hc
theorem C20knN_ok (h : 0 ≠ n) : ConOK Tryd.prog 20 (CX (.agg (.hole (.hole (.slice 2 0 (.val nilS (.val nilS .nil))))) .nil) rw st [(n, cw)] false) := by
 have k1 := C52_ok rw 1 6
 have k2 := C52_ok st 0 4
 refine con_of vx_sound ⟨⟨[I rw, I st], [(n, cw)]⟩, []⟩ (fun y hy => ?_) rfl (fun y _ => rfl) (fun y hy => ?_) rfl (Nat.le_of_ble_eq_true rfl) (by rw [nglob]; exact Nat.le_of_ble_eq_true rfl)
 · cases hy
   have key : ∀ R : ARes → Prop, R (.ret (.bool false)) → ∃ hs, vx.call 20 [.agg ⟨[I rw, I st, slV 2 n cw, nilS, nilS]⟩] (retK R) mD5 hs := fun R hR => by
    refine ⟨_, (f20knN rw st n cw (inB rw 1 6) (inB st 0 4) R).mpr ?_⟩
    repeat' (first | with_reducible apply And.intro | with_reducible intro)
    all_goals first
     | exact k1
     | exact k2
     | exact hR
     | exact tt (lne (a := 0) h)
     | rfl
   obtain ⟨hs, h⟩ := key (fun r => r = .ret (.bool false)) rfl
   exact ⟨hs, h⟩
 · cases hy
   intro cs hc
   cases hc
end
end Go.Ab
