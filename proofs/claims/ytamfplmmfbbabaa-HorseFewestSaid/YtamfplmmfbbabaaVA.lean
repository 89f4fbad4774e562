/- the law HorseFewest: its runs without moves. -/
import Derived.Test.YtamfplmmfbbabaaUY
import Derived.Test.YtamfplmmfbbabaaUZ
set_option maxRecDepth 100000
namespace Go.Ab
open Go Go.RowKit Go.Proofs
def agN (p : Int) : Value := .agg ⟨[.int .i64 p, .slice .none 0 0]⟩
def agZ (p : Int) : Value := .agg ⟨[.int .i64 p, .slice (.some ⟨0, 0, .none⟩) 0 0]⟩
theorem x5 (p : Int) (sure : Bool) (n c k d : Nat) (f : Nat → Mv) (bs : Nat → Int) (R : ARes → Prop) : (vx.call 5 [hV p n c, .bool sure, slV 1 k d] (retK R) (m2b (mvs n f) (u8s k bs)) ([(17, .split ((7, .con C12) :: []) ((4, .con ((C21 p n c f).when (ARes.ret (.bool false)))) :: (4, .con C12) :: []))])) =
((((decide ((if (↑(0 : Nat) : Int) > (↑n : Int) then (↑(0 : Nat) : Int) else (↑n : Int)) > (40 : Int))) = true → ((ConOK Try.prog 12 (C12)) ∧ (Con.pre (C12) ⟨⟨[], []⟩, []⟩) ∧
R (.ret (.bool true)))) ∧
((decide ((if (↑(0 : Nat) : Int) > (↑n : Int) then (↑(0 : Nat) : Int) else (↑n : Int)) > (40 : Int))) = false → ((ConOK Try.prog 21 ((C21 p n c f).when (ARes.ret (.bool false)))) ∧ (Con.pre ((C21 p n c f).when (ARes.ret (.bool false))) ⟨⟨[(I p)], [⟨n, c⟩]⟩, [(mvs n f)]⟩) ∧
((ConOK Try.prog 12 (C12)) ∧ (Con.pre (C12) ⟨⟨[], []⟩, []⟩) ∧
R (.ret (.bool true))))))) := by kernel_rfl
theorem x5z (p : Int) (sure : Bool) (n c : Nat) (f : Nat → Mv) (R : ARes → Prop) : (vx.call 5 [hV p n c, .bool sure, nilS] (retK R) (m2n (mvs n f)) ([(17, .split ((7, .con C12) :: []) ((4, .con ((C21 p n c f).when (ARes.ret (.bool false)))) :: (4, .con C12) :: []))])) =
((((decide ((if (↑(0 : Nat) : Int) > (↑n : Int) then (↑(0 : Nat) : Int) else (↑n : Int)) > (40 : Int))) = true → ((ConOK Try.prog 12 (C12)) ∧ (Con.pre (C12) ⟨⟨[], []⟩, []⟩) ∧
R (.ret (.bool true)))) ∧
((decide ((if (↑(0 : Nat) : Int) > (↑n : Int) then (↑(0 : Nat) : Int) else (↑n : Int)) > (40 : Int))) = false → ((ConOK Try.prog 21 ((C21 p n c f).when (ARes.ret (.bool false)))) ∧ (Con.pre ((C21 p n c f).when (ARes.ret (.bool false))) ⟨⟨[(I p)], [⟨n, c⟩]⟩, [(mvs n f)]⟩) ∧
((ConOK Try.prog 12 (C12)) ∧ (Con.pre (C12) ⟨⟨[], []⟩, []⟩) ∧
R (.ret (.bool true))))))) := by kernel_rfl
theorem z24ct (p : Int) (c : Nat) (f : Nat → Mv) (R : Hx → Prop) : (vx.call 24 [hV p 0 c, .bool true] (retN (rowT3 1 3) R) (m1 (mvs 0 f)) ((20, .con (C68t p (0 : Nat) c f)) :: (19, .again) :: (0, .con (C44 true p (0 : Nat) c f)) :: (0, .again) :: (22, .con (C83z (ordF true p (0 : Nat) f (0 : Nat)))) :: [(58, .tm (0 : Nat) [((1 : Nat), (19 : Nat))])])) =
(((ConOK Try.prog 68 (C68t p (0 : Nat) c f)) ∧ (Con.pre (C68t p (0 : Nat) c f) ⟨⟨[(I p)], [⟨0, c⟩]⟩, [[]]⟩) ∧
(((((2 : Nat) ≤ 2) ∧ (((.agg ⟨[(I p), (.slice (.some ⟨0, 0, .none⟩) ((0 : Nat)) (c))]⟩) : Value) = (.agg ⟨[(I p), (.slice (.some ⟨0, 0, .none⟩) ((0 : Nat)) (c))]⟩))) ∧ ((((2 : Nat) ≤ 2) ∧ (((.agg ⟨[(I p), (.slice (.some ⟨0, 0, .none⟩) ((0 : Nat)) (c))]⟩) : Value) = (.agg ⟨[(I p), (.slice (.some ⟨0, 0, .none⟩) ((0 : Nat)) (c))]⟩))) ∧ (True))) ∧
((ConOK Try.prog 44 (C44 true p (0 : Nat) c f)) ∧ (Con.pre (C44 true p (0 : Nat) c f) ⟨⟨[(I p)], [⟨0, c⟩]⟩, [[]]⟩) ∧
(((((2 : Nat) ≤ 2) ∧ (((.agg ⟨[(I p), (.slice (.some ⟨0, 0, .none⟩) ((0 : Nat)) (c))]⟩) : Value) = (.agg ⟨[(I p), (.slice (.some ⟨0, 0, .none⟩) ((0 : Nat)) (c))]⟩))) ∧ (True)) ∧
((ConOK Try.prog 83 (C83z (ordF true p (0 : Nat) f (0 : Nat)))) ∧ (Con.pre (C83z (ordF true p (0 : Nat) f (0 : Nat))) ⟨⟨[(I 0), (I 0), (I 0), (I 0), (I 0), (I 0), (I 0)], []⟩, []⟩) ∧
R ⟨⟨[(I 0), (I 0)], [⟨((0 : Nat)), ((0 : Nat))⟩]⟩, [[]]⟩)))))) := by kernel_rfl
theorem z24cf (p : Int) (c : Nat) (f : Nat → Mv) (R : Hx → Prop) : (vx.call 24 [hV p 0 c, .bool false] (retN (rowT3 1 3) R) (m1 (mvs 0 f)) ((20, .con (C68t p (0 : Nat) c f)) :: (19, .again) :: (0, .con (C44 false p (0 : Nat) c f)) :: (0, .again) :: (22, .con (C83z (ordF false p (0 : Nat) f (0 : Nat)))) :: [(58, .tm (0 : Nat) [((1 : Nat), (19 : Nat))])])) =
(((ConOK Try.prog 68 (C68t p (0 : Nat) c f)) ∧ (Con.pre (C68t p (0 : Nat) c f) ⟨⟨[(I p)], [⟨0, c⟩]⟩, [[]]⟩) ∧
(((((2 : Nat) ≤ 2) ∧ (((.agg ⟨[(I p), (.slice (.some ⟨0, 0, .none⟩) ((0 : Nat)) (c))]⟩) : Value) = (.agg ⟨[(I p), (.slice (.some ⟨0, 0, .none⟩) ((0 : Nat)) (c))]⟩))) ∧ ((((2 : Nat) ≤ 2) ∧ (((.agg ⟨[(I p), (.slice (.some ⟨0, 0, .none⟩) ((0 : Nat)) (c))]⟩) : Value) = (.agg ⟨[(I p), (.slice (.some ⟨0, 0, .none⟩) ((0 : Nat)) (c))]⟩))) ∧ (True))) ∧
((ConOK Try.prog 44 (C44 false p (0 : Nat) c f)) ∧ (Con.pre (C44 false p (0 : Nat) c f) ⟨⟨[(I p)], [⟨0, c⟩]⟩, [[]]⟩) ∧
(((((2 : Nat) ≤ 2) ∧ (((.agg ⟨[(I p), (.slice (.some ⟨0, 0, .none⟩) ((0 : Nat)) (c))]⟩) : Value) = (.agg ⟨[(I p), (.slice (.some ⟨0, 0, .none⟩) ((0 : Nat)) (c))]⟩))) ∧ (True)) ∧
((ConOK Try.prog 83 (C83z (ordF false p (0 : Nat) f (0 : Nat)))) ∧ (Con.pre (C83z (ordF false p (0 : Nat) f (0 : Nat))) ⟨⟨[(I 0), (I 0), (I 0), (I 0), (I 0), (I 0), (I 0)], []⟩, []⟩) ∧
R ⟨⟨[(I 0), (I 0)], [⟨((0 : Nat)), ((0 : Nat))⟩]⟩, [[]]⟩)))))) := by kernel_rfl
theorem z5bt (p : Int) (c k d : Nat) (f : Nat → Mv) (bs : Nat → Int) (P : Nat → Nat) (R : ARes → Prop) : (vx.call 5 [hV p 0 c, .bool true, slV 1 k d] (retK R) (m2b (mvs 0 f) (u8s k bs)) ((22, .con ((C21 p (0 : Nat) c f).when (ARes.ret (.bool true)))) :: (6, .conN (C24c true p (0 : Nat) c (mvs (0 : Nat) f) (0 : Nat) (natL (0 : Nat) P))) :: (9, .con (C25 true p (0 : Nat) c f (0 : Nat))) :: (14, .con (C26 p (0 : Nat) c (0 : Nat) (0 : Nat) f P)) :: (6, .con (C27 true p (0 : Nat) c (0 : Nat) (0 : Nat) f P true)) :: (4, .con (C28 (0 : Nat) (0 : Nat) P (0 : Nat))) :: (17, .con (C29 (0 : Nat))) :: [(77, .split ([(3, .split ((61, .again) :: (28, .again) :: (80, .con C12) :: []) ((58, .con C12) :: []))]) ((59, .con C12) :: []))])) =
(((ConOK Try.prog 21 ((C21 p (0 : Nat) c f).when (ARes.ret (.bool true)))) ∧ (Con.pre ((C21 p (0 : Nat) c f).when (ARes.ret (.bool true))) ⟨⟨[(I p)], [⟨0, c⟩]⟩, [[]]⟩) ∧
((ConNOK Try.prog 24 (C24c true p (0 : Nat) c (mvs (0 : Nat) f) (0 : Nat) (natL (0 : Nat) P))) ∧ (ConN.pre (C24c true p (0 : Nat) c (mvs (0 : Nat) f) (0 : Nat) (natL (0 : Nat) P)) ⟨⟨[(I p), (.bool true)], [⟨0, c⟩]⟩, [[]]⟩) ∧
((ConOK Try.prog 25 (C25 true p (0 : Nat) c f (0 : Nat))) ∧ (Con.pre (C25 true p (0 : Nat) c f (0 : Nat)) ⟨⟨[(I p), (.bool true)], [⟨0, c⟩]⟩, [[]]⟩) ∧
((ConOK Try.prog 26 (C26 p (0 : Nat) c (0 : Nat) (0 : Nat) f P)) ∧ (Con.pre (C26 p (0 : Nat) c (0 : Nat) (0 : Nat) f P) ⟨⟨[(I p)], [⟨0, c⟩, ⟨((0 : Nat)), ((0 : Nat))⟩]⟩, [[], []]⟩) ∧
((ConOK Try.prog 27 (C27 true p (0 : Nat) c (0 : Nat) (0 : Nat) f P true)) ∧ (Con.pre (C27 true p (0 : Nat) c (0 : Nat) (0 : Nat) f P true) ⟨⟨[(I p), (.bool true)], [⟨0, c⟩, ⟨((0 : Nat)), ((0 : Nat))⟩]⟩, [[], []]⟩) ∧
((ConOK Try.prog 28 (C28 (0 : Nat) (0 : Nat) P (0 : Nat))) ∧ (Con.pre (C28 (0 : Nat) (0 : Nat) P (0 : Nat)) ⟨⟨[], [⟨((0 : Nat)), ((0 : Nat))⟩]⟩, [[]]⟩) ∧
((ConOK Try.prog 29 (C29 (0 : Nat))) ∧ (Con.pre (C29 (0 : Nat)) ⟨⟨[(I ((↑(0 : Nat) : Int)))], []⟩, []⟩) ∧
(((decide ((0 : Int) ≤ p)) = true → (((decide (p ≤ (3 : Int))) = true → (((((2 : Nat) ≤ 2) ∧ (((.agg ⟨[(I p), (.slice (.some ⟨0, 0, .none⟩) ((0 : Nat)) (c))]⟩) : Value) = (.agg ⟨[(I p), (.slice (.some ⟨0, 0, .none⟩) ((0 : Nat)) (c))]⟩))) ∧ ((((some (.slice .none 0 0) : Option Value) = some (.slice .none 0 0))) ∧ ((((2 : Nat) ≤ 2) ∧ (((.agg ⟨[(I p), (.slice (.some ⟨0, 0, .none⟩) ((0 : Nat)) (c))]⟩) : Value) = (.agg ⟨[(I p), (.slice (.some ⟨0, 0, .none⟩) ((0 : Nat)) (c))]⟩))) ∧ (True)))) ∧
(((((some (.slice .none 0 0) : Option Value) = some (.slice .none 0 0))) ∧ ((((2 : Nat) ≤ 2) ∧ (((.agg ⟨[(I p), (.slice (.some ⟨0, 0, .none⟩) ((0 : Nat)) (c))]⟩) : Value) = (.agg ⟨[(I p), (.slice (.some ⟨0, 0, .none⟩) ((0 : Nat)) (c))]⟩))) ∧ (True))) ∧
((ConOK Try.prog 12 (C12)) ∧ (Con.pre (C12) ⟨⟨[], []⟩, []⟩) ∧
R (.ret (.bool true)))))) ∧
((decide (p ≤ (3 : Int))) = false → ((ConOK Try.prog 12 (C12)) ∧ (Con.pre (C12) ⟨⟨[], []⟩, []⟩) ∧
R (.ret (.bool true)))))) ∧
((decide ((0 : Int) ≤ p)) = false → ((ConOK Try.prog 12 (C12)) ∧ (Con.pre (C12) ⟨⟨[], []⟩, []⟩) ∧
R (.ret (.bool true))))))))))))) := by kernel_rfl
theorem z5bf (p : Int) (c k d : Nat) (f : Nat → Mv) (bs : Nat → Int) (P : Nat → Nat) (R : ARes → Prop) : (vx.call 5 [hV p 0 c, .bool false, slV 1 k d] (retK R) (m2b (mvs 0 f) (u8s k bs)) ((22, .con ((C21 p (0 : Nat) c f).when (ARes.ret (.bool true)))) :: (6, .conN (C24c false p (0 : Nat) c (mvs (0 : Nat) f) (0 : Nat) (natL (0 : Nat) P))) :: (9, .con (C25 false p (0 : Nat) c f (0 : Nat))) :: (14, .con (C26 p (0 : Nat) c (0 : Nat) (0 : Nat) f P)) :: (6, .con (C27 false p (0 : Nat) c (0 : Nat) (0 : Nat) f P true)) :: (4, .con (C28 (0 : Nat) (0 : Nat) P (0 : Nat))) :: (17, .con (C29 (0 : Nat))) :: [(76, .split ([(3, .split ((61, .again) :: (28, .again) :: (80, .con C12) :: []) ((58, .con C12) :: []))]) ((59, .con C12) :: []))])) =
(((ConOK Try.prog 21 ((C21 p (0 : Nat) c f).when (ARes.ret (.bool true)))) ∧ (Con.pre ((C21 p (0 : Nat) c f).when (ARes.ret (.bool true))) ⟨⟨[(I p)], [⟨0, c⟩]⟩, [[]]⟩) ∧
((ConNOK Try.prog 24 (C24c false p (0 : Nat) c (mvs (0 : Nat) f) (0 : Nat) (natL (0 : Nat) P))) ∧ (ConN.pre (C24c false p (0 : Nat) c (mvs (0 : Nat) f) (0 : Nat) (natL (0 : Nat) P)) ⟨⟨[(I p), (.bool false)], [⟨0, c⟩]⟩, [[]]⟩) ∧
((ConOK Try.prog 25 (C25 false p (0 : Nat) c f (0 : Nat))) ∧ (Con.pre (C25 false p (0 : Nat) c f (0 : Nat)) ⟨⟨[(I p), (.bool false)], [⟨0, c⟩]⟩, [[]]⟩) ∧
((ConOK Try.prog 26 (C26 p (0 : Nat) c (0 : Nat) (0 : Nat) f P)) ∧ (Con.pre (C26 p (0 : Nat) c (0 : Nat) (0 : Nat) f P) ⟨⟨[(I p)], [⟨0, c⟩, ⟨((0 : Nat)), ((0 : Nat))⟩]⟩, [[], []]⟩) ∧
((ConOK Try.prog 27 (C27 false p (0 : Nat) c (0 : Nat) (0 : Nat) f P true)) ∧ (Con.pre (C27 false p (0 : Nat) c (0 : Nat) (0 : Nat) f P true) ⟨⟨[(I p), (.bool false)], [⟨0, c⟩, ⟨((0 : Nat)), ((0 : Nat))⟩]⟩, [[], []]⟩) ∧
((ConOK Try.prog 28 (C28 (0 : Nat) (0 : Nat) P (0 : Nat))) ∧ (Con.pre (C28 (0 : Nat) (0 : Nat) P (0 : Nat)) ⟨⟨[], [⟨((0 : Nat)), ((0 : Nat))⟩]⟩, [[]]⟩) ∧
((ConOK Try.prog 29 (C29 (0 : Nat))) ∧ (Con.pre (C29 (0 : Nat)) ⟨⟨[(I ((↑(0 : Nat) : Int)))], []⟩, []⟩) ∧
(((decide ((0 : Int) ≤ p)) = true → (((decide (p ≤ (3 : Int))) = true → (((((2 : Nat) ≤ 2) ∧ (((.agg ⟨[(I p), (.slice (.some ⟨0, 0, .none⟩) ((0 : Nat)) (c))]⟩) : Value) = (.agg ⟨[(I p), (.slice (.some ⟨0, 0, .none⟩) ((0 : Nat)) (c))]⟩))) ∧ ((((some (.slice .none 0 0) : Option Value) = some (.slice .none 0 0))) ∧ ((((2 : Nat) ≤ 2) ∧ (((.agg ⟨[(I p), (.slice (.some ⟨0, 0, .none⟩) ((0 : Nat)) (c))]⟩) : Value) = (.agg ⟨[(I p), (.slice (.some ⟨0, 0, .none⟩) ((0 : Nat)) (c))]⟩))) ∧ (True)))) ∧
(((((some (.slice .none 0 0) : Option Value) = some (.slice .none 0 0))) ∧ ((((2 : Nat) ≤ 2) ∧ (((.agg ⟨[(I p), (.slice (.some ⟨0, 0, .none⟩) ((0 : Nat)) (c))]⟩) : Value) = (.agg ⟨[(I p), (.slice (.some ⟨0, 0, .none⟩) ((0 : Nat)) (c))]⟩))) ∧ (True))) ∧
((ConOK Try.prog 12 (C12)) ∧ (Con.pre (C12) ⟨⟨[], []⟩, []⟩) ∧
R (.ret (.bool true)))))) ∧
((decide (p ≤ (3 : Int))) = false → ((ConOK Try.prog 12 (C12)) ∧ (Con.pre (C12) ⟨⟨[], []⟩, []⟩) ∧
R (.ret (.bool true)))))) ∧
((decide ((0 : Int) ≤ p)) = false → ((ConOK Try.prog 12 (C12)) ∧ (Con.pre (C12) ⟨⟨[], []⟩, []⟩) ∧
R (.ret (.bool true))))))))))))) := by kernel_rfl
theorem z5nt (p : Int) (c : Nat) (f : Nat → Mv) (P : Nat → Nat) (R : ARes → Prop) : (vx.call 5 [hV p 0 c, .bool true, nilS] (retK R) (m2n (mvs 0 f)) ((22, .con ((C21 p (0 : Nat) c f).when (ARes.ret (.bool true)))) :: (6, .conN (C24c true p (0 : Nat) c (mvs (0 : Nat) f) (0 : Nat) (natL (0 : Nat) P))) :: (9, .con (C25 true p (0 : Nat) c f (0 : Nat))) :: (14, .con (C26 p (0 : Nat) c (0 : Nat) (0 : Nat) f P)) :: (6, .con (C27 true p (0 : Nat) c (0 : Nat) (0 : Nat) f P true)) :: (4, .con (C28 (0 : Nat) (0 : Nat) P (0 : Nat))) :: (17, .con (C29 (0 : Nat))) :: [(77, .split ([(3, .split ((61, .again) :: (28, .again) :: (80, .con C12) :: []) ((58, .con C12) :: []))]) ((59, .con C12) :: []))])) =
(((ConOK Try.prog 21 ((C21 p (0 : Nat) c f).when (ARes.ret (.bool true)))) ∧ (Con.pre ((C21 p (0 : Nat) c f).when (ARes.ret (.bool true))) ⟨⟨[(I p)], [⟨0, c⟩]⟩, [[]]⟩) ∧
((ConNOK Try.prog 24 (C24c true p (0 : Nat) c (mvs (0 : Nat) f) (0 : Nat) (natL (0 : Nat) P))) ∧ (ConN.pre (C24c true p (0 : Nat) c (mvs (0 : Nat) f) (0 : Nat) (natL (0 : Nat) P)) ⟨⟨[(I p), (.bool true)], [⟨0, c⟩]⟩, [[]]⟩) ∧
((ConOK Try.prog 25 (C25 true p (0 : Nat) c f (0 : Nat))) ∧ (Con.pre (C25 true p (0 : Nat) c f (0 : Nat)) ⟨⟨[(I p), (.bool true)], [⟨0, c⟩]⟩, [[]]⟩) ∧
((ConOK Try.prog 26 (C26 p (0 : Nat) c (0 : Nat) (0 : Nat) f P)) ∧ (Con.pre (C26 p (0 : Nat) c (0 : Nat) (0 : Nat) f P) ⟨⟨[(I p)], [⟨0, c⟩, ⟨((0 : Nat)), ((0 : Nat))⟩]⟩, [[], []]⟩) ∧
((ConOK Try.prog 27 (C27 true p (0 : Nat) c (0 : Nat) (0 : Nat) f P true)) ∧ (Con.pre (C27 true p (0 : Nat) c (0 : Nat) (0 : Nat) f P true) ⟨⟨[(I p), (.bool true)], [⟨0, c⟩, ⟨((0 : Nat)), ((0 : Nat))⟩]⟩, [[], []]⟩) ∧
((ConOK Try.prog 28 (C28 (0 : Nat) (0 : Nat) P (0 : Nat))) ∧ (Con.pre (C28 (0 : Nat) (0 : Nat) P (0 : Nat)) ⟨⟨[], [⟨((0 : Nat)), ((0 : Nat))⟩]⟩, [[]]⟩) ∧
((ConOK Try.prog 29 (C29 (0 : Nat))) ∧ (Con.pre (C29 (0 : Nat)) ⟨⟨[(I ((↑(0 : Nat) : Int)))], []⟩, []⟩) ∧
(((decide ((0 : Int) ≤ p)) = true → (((decide (p ≤ (3 : Int))) = true → (((((2 : Nat) ≤ 2) ∧ (((.agg ⟨[(I p), (.slice (.some ⟨0, 0, .none⟩) ((0 : Nat)) (c))]⟩) : Value) = (.agg ⟨[(I p), (.slice (.some ⟨0, 0, .none⟩) ((0 : Nat)) (c))]⟩))) ∧ ((((some (.slice .none 0 0) : Option Value) = some (.slice .none 0 0))) ∧ ((((2 : Nat) ≤ 2) ∧ (((.agg ⟨[(I p), (.slice (.some ⟨0, 0, .none⟩) ((0 : Nat)) (c))]⟩) : Value) = (.agg ⟨[(I p), (.slice (.some ⟨0, 0, .none⟩) ((0 : Nat)) (c))]⟩))) ∧ (True)))) ∧
(((((some (.slice .none 0 0) : Option Value) = some (.slice .none 0 0))) ∧ ((((2 : Nat) ≤ 2) ∧ (((.agg ⟨[(I p), (.slice (.some ⟨0, 0, .none⟩) ((0 : Nat)) (c))]⟩) : Value) = (.agg ⟨[(I p), (.slice (.some ⟨0, 0, .none⟩) ((0 : Nat)) (c))]⟩))) ∧ (True))) ∧
((ConOK Try.prog 12 (C12)) ∧ (Con.pre (C12) ⟨⟨[], []⟩, []⟩) ∧
R (.ret (.bool true)))))) ∧
((decide (p ≤ (3 : Int))) = false → ((ConOK Try.prog 12 (C12)) ∧ (Con.pre (C12) ⟨⟨[], []⟩, []⟩) ∧
R (.ret (.bool true)))))) ∧
((decide ((0 : Int) ≤ p)) = false → ((ConOK Try.prog 12 (C12)) ∧ (Con.pre (C12) ⟨⟨[], []⟩, []⟩) ∧
R (.ret (.bool true))))))))))))) := by kernel_rfl
theorem z5nf (p : Int) (c : Nat) (f : Nat → Mv) (P : Nat → Nat) (R : ARes → Prop) : (vx.call 5 [hV p 0 c, .bool false, nilS] (retK R) (m2n (mvs 0 f)) ((22, .con ((C21 p (0 : Nat) c f).when (ARes.ret (.bool true)))) :: (6, .conN (C24c false p (0 : Nat) c (mvs (0 : Nat) f) (0 : Nat) (natL (0 : Nat) P))) :: (9, .con (C25 false p (0 : Nat) c f (0 : Nat))) :: (14, .con (C26 p (0 : Nat) c (0 : Nat) (0 : Nat) f P)) :: (6, .con (C27 false p (0 : Nat) c (0 : Nat) (0 : Nat) f P true)) :: (4, .con (C28 (0 : Nat) (0 : Nat) P (0 : Nat))) :: (17, .con (C29 (0 : Nat))) :: [(76, .split ([(3, .split ((61, .again) :: (28, .again) :: (80, .con C12) :: []) ((58, .con C12) :: []))]) ((59, .con C12) :: []))])) =
(((ConOK Try.prog 21 ((C21 p (0 : Nat) c f).when (ARes.ret (.bool true)))) ∧ (Con.pre ((C21 p (0 : Nat) c f).when (ARes.ret (.bool true))) ⟨⟨[(I p)], [⟨0, c⟩]⟩, [[]]⟩) ∧
((ConNOK Try.prog 24 (C24c false p (0 : Nat) c (mvs (0 : Nat) f) (0 : Nat) (natL (0 : Nat) P))) ∧ (ConN.pre (C24c false p (0 : Nat) c (mvs (0 : Nat) f) (0 : Nat) (natL (0 : Nat) P)) ⟨⟨[(I p), (.bool false)], [⟨0, c⟩]⟩, [[]]⟩) ∧
((ConOK Try.prog 25 (C25 false p (0 : Nat) c f (0 : Nat))) ∧ (Con.pre (C25 false p (0 : Nat) c f (0 : Nat)) ⟨⟨[(I p), (.bool false)], [⟨0, c⟩]⟩, [[]]⟩) ∧
((ConOK Try.prog 26 (C26 p (0 : Nat) c (0 : Nat) (0 : Nat) f P)) ∧ (Con.pre (C26 p (0 : Nat) c (0 : Nat) (0 : Nat) f P) ⟨⟨[(I p)], [⟨0, c⟩, ⟨((0 : Nat)), ((0 : Nat))⟩]⟩, [[], []]⟩) ∧
((ConOK Try.prog 27 (C27 false p (0 : Nat) c (0 : Nat) (0 : Nat) f P true)) ∧ (Con.pre (C27 false p (0 : Nat) c (0 : Nat) (0 : Nat) f P true) ⟨⟨[(I p), (.bool false)], [⟨0, c⟩, ⟨((0 : Nat)), ((0 : Nat))⟩]⟩, [[], []]⟩) ∧
((ConOK Try.prog 28 (C28 (0 : Nat) (0 : Nat) P (0 : Nat))) ∧ (Con.pre (C28 (0 : Nat) (0 : Nat) P (0 : Nat)) ⟨⟨[], [⟨((0 : Nat)), ((0 : Nat))⟩]⟩, [[]]⟩) ∧
((ConOK Try.prog 29 (C29 (0 : Nat))) ∧ (Con.pre (C29 (0 : Nat)) ⟨⟨[(I ((↑(0 : Nat) : Int)))], []⟩, []⟩) ∧
(((decide ((0 : Int) ≤ p)) = true → (((decide (p ≤ (3 : Int))) = true → (((((2 : Nat) ≤ 2) ∧ (((.agg ⟨[(I p), (.slice (.some ⟨0, 0, .none⟩) ((0 : Nat)) (c))]⟩) : Value) = (.agg ⟨[(I p), (.slice (.some ⟨0, 0, .none⟩) ((0 : Nat)) (c))]⟩))) ∧ ((((some (.slice .none 0 0) : Option Value) = some (.slice .none 0 0))) ∧ ((((2 : Nat) ≤ 2) ∧ (((.agg ⟨[(I p), (.slice (.some ⟨0, 0, .none⟩) ((0 : Nat)) (c))]⟩) : Value) = (.agg ⟨[(I p), (.slice (.some ⟨0, 0, .none⟩) ((0 : Nat)) (c))]⟩))) ∧ (True)))) ∧
(((((some (.slice .none 0 0) : Option Value) = some (.slice .none 0 0))) ∧ ((((2 : Nat) ≤ 2) ∧ (((.agg ⟨[(I p), (.slice (.some ⟨0, 0, .none⟩) ((0 : Nat)) (c))]⟩) : Value) = (.agg ⟨[(I p), (.slice (.some ⟨0, 0, .none⟩) ((0 : Nat)) (c))]⟩))) ∧ (True))) ∧
((ConOK Try.prog 12 (C12)) ∧ (Con.pre (C12) ⟨⟨[], []⟩, []⟩) ∧
R (.ret (.bool true)))))) ∧
((decide (p ≤ (3 : Int))) = false → ((ConOK Try.prog 12 (C12)) ∧ (Con.pre (C12) ⟨⟨[], []⟩, []⟩) ∧
R (.ret (.bool true)))))) ∧
((decide ((0 : Int) ≤ p)) = false → ((ConOK Try.prog 12 (C12)) ∧ (Con.pre (C12) ⟨⟨[], []⟩, []⟩) ∧
R (.ret (.bool true))))))))))))) := by kernel_rfl
theorem C24y_ok {p : Int} {c : Nat} {f : Nat → Mv} (sure : Bool) (hok : okH p 0 f = true) : ConNOK Try.prog 24 (C24c sure p 0 c (mvs 0 f) 0 (natL 0 fun _ => 0)) := by
  refine conRow3_of rfl vx_sound (C := C24c sure p 0 c (mvs 0 f) 0 (natL 0 fun _ => 0)) (n := 0) (cells := []) (e := 3) (y0 := 0) (z := 0) ⟨⟨[I p, .bool sure], [(0, c)]⟩, [mvs 0 f]⟩ (fun x => Iff.rfl) rfl rfl rfl ?_ (mvs_atoms 0 f) (fun v hv => by cases hv) rfl (Nat.le_of_ble_eq_true rfl) (by rw [nglob]; exact Nat.zero_le _)
  cases sure
  · exact ⟨_, (z24cf p c f _).mpr ⟨C68t_ok p 0 c f (by omega), ⟨rfl, hok⟩, ⟨⟨Nat.le_refl _, rfl⟩, ⟨Nat.le_refl _, rfl⟩, trivial⟩, C44_ok _ p 0 c f (by omega), rfl, ⟨⟨Nat.le_refl _, rfl⟩, trivial⟩, C83z_ok, rfl, rfl⟩⟩
  · exact ⟨_, (z24ct p c f _).mpr ⟨C68t_ok p 0 c f (by omega), ⟨rfl, hok⟩, ⟨⟨Nat.le_refl _, rfl⟩, ⟨Nat.le_refl _, rfl⟩, trivial⟩, C44_ok _ p 0 c f (by omega), rfl, ⟨⟨Nat.le_refl _, rfl⟩, trivial⟩, C83z_ok, rfl, rfl⟩⟩
theorem right_0 (sure : Bool) (p : Int) (f : Nat → Mv) (g : Nat → Int) : rightB sure p 0 0 f g = true := rfl
theorem law5Z (p : Int) (sure : Bool) (c k d : Nat) (f : Nat → Mv) (bs : Nat → Int) (hok : okH p 0 f = true) :
    ∃ hs, vx.call 5 [hV p 0 c, .bool sure, slV 1 k d] (retK fun r => r = .ret (.bool true)) (m2b (mvs 0 f) (u8s k bs)) hs := by
  have hwhen : ConOK Try.prog 21 ((C21 p 0 c f).when (.ret (.bool true))) := con_when (C21_ok p 0 c f (by omega)) _
  have hr : (C21 p 0 c f).res ⟨⟨[I p], [(0, c)]⟩, [mvs 0 f]⟩ = .ret (.bool true) := by show ARes.ret (.bool (okH p 0 f)) = _; rw [hok]
  have h24 := C24y_ok (c := c) sure hok
  have h25 : ConOK Try.prog 25 (C25 sure p 0 c f 0) := C25_ok sure hok (by omega)
  have h26 := C26_ok p 0 c 0 0 f (fun _ => 0) (by omega) (fun i hi => absurd hi (by omega))
  have h27 : ConOK Try.prog 27 (C27 sure p 0 c 0 0 f (fun _ => 0) true) := C27_ok sure p 0 c 0 0 f (fun _ => 0) hok rfl (by omega) (by omega)
  have h28 : ConOK Try.prog 28 (C28 0 0 (fun _ => 0) 0) := C28_ok 0 0 (fun _ => 0) (by omega)
  have h29 := C29_ok (show 0 < 128 by omega)
  have key : ∀ R : ARes → Prop, R (.ret (.bool true)) → ∃ hs, vx.call 5 [hV p 0 c, .bool sure, slV 1 k d] (retK R) (m2b (mvs 0 f) (u8s k bs)) hs := by
    intro R hR
    cases sure
    · refine ⟨_, (z5bf p c k d f bs (fun _ => 0) R).mpr ?_⟩
      repeat' (first | with_reducible apply And.intro | with_reducible intro)
      all_goals first | exact C12_ok | exact hR | exact hwhen | exact h24 | exact h25 | exact h26 | exact h27 | exact h28 | exact h29 | exact trivial | rfl | exact ⟨rfl, hr⟩ | exact Nat.le_refl _ | exact Nat.zero_le _ | omega | (exfalso; simp_all; done)
    · refine ⟨_, (z5bt p c k d f bs (fun _ => 0) R).mpr ?_⟩
      repeat' (first | with_reducible apply And.intro | with_reducible intro)
      all_goals first | exact C12_ok | exact hR | exact hwhen | exact h24 | exact h25 | exact h26 | exact h27 | exact h28 | exact h29 | exact trivial | rfl | exact ⟨rfl, hr⟩ | exact Nat.le_refl _ | exact Nat.zero_le _ | omega | (exfalso; simp_all; done)
  exact key _ rfl
theorem law5Zn (p : Int) (sure : Bool) (c : Nat) (f : Nat → Mv) (hok : okH p 0 f = true) :
    ∃ hs, vx.call 5 [hV p 0 c, .bool sure, nilS] (retK fun r => r = .ret (.bool true)) (m2n (mvs 0 f)) hs := by
  have hwhen : ConOK Try.prog 21 ((C21 p 0 c f).when (.ret (.bool true))) := con_when (C21_ok p 0 c f (by omega)) _
  have hr : (C21 p 0 c f).res ⟨⟨[I p], [(0, c)]⟩, [mvs 0 f]⟩ = .ret (.bool true) := by show ARes.ret (.bool (okH p 0 f)) = _; rw [hok]
  have h24 := C24y_ok (c := c) sure hok
  have h25 : ConOK Try.prog 25 (C25 sure p 0 c f 0) := C25_ok sure hok (by omega)
  have h26 := C26_ok p 0 c 0 0 f (fun _ => 0) (by omega) (fun i hi => absurd hi (by omega))
  have h27 : ConOK Try.prog 27 (C27 sure p 0 c 0 0 f (fun _ => 0) true) := C27_ok sure p 0 c 0 0 f (fun _ => 0) hok rfl (by omega) (by omega)
  have h28 : ConOK Try.prog 28 (C28 0 0 (fun _ => 0) 0) := C28_ok 0 0 (fun _ => 0) (by omega)
  have h29 := C29_ok (show 0 < 128 by omega)
  have key : ∀ R : ARes → Prop, R (.ret (.bool true)) → ∃ hs, vx.call 5 [hV p 0 c, .bool sure, nilS] (retK R) (m2n (mvs 0 f)) hs := by
    intro R hR
    cases sure
    · refine ⟨_, (z5nf p c f (fun _ => 0) R).mpr ?_⟩
      repeat' (first | with_reducible apply And.intro | with_reducible intro)
      all_goals first | exact C12_ok | exact hR | exact hwhen | exact h24 | exact h25 | exact h26 | exact h27 | exact h28 | exact h29 | exact trivial | rfl | exact ⟨rfl, hr⟩ | exact Nat.le_refl _ | exact Nat.zero_le _ | omega | (exfalso; simp_all; done)
    · refine ⟨_, (z5nt p c f (fun _ => 0) R).mpr ?_⟩
      repeat' (first | with_reducible apply And.intro | with_reducible intro)
      all_goals first | exact C12_ok | exact hR | exact hwhen | exact h24 | exact h25 | exact h26 | exact h27 | exact h28 | exact h29 | exact trivial | rfl | exact ⟨rfl, hr⟩ | exact Nat.le_refl _ | exact Nat.zero_le _ | omega | (exfalso; simp_all; done)
  exact key _ rfl
theorem law5any (p : Int) (sure : Bool) (n c k d : Nat) (f : Nat → Mv) (bs : Nat → Int) (hb : ∀ i, i < k → 0 ≤ bs i ∧ bs i < 256) :
    ∃ hs, vx.call 5 [hV p n c, .bool sure, slV 1 k d] (retK fun r => r = .ret (.bool true)) (m2b (mvs n f) (u8s k bs)) hs := by
  by_cases hfar : 40 < n
  · exact ⟨_, (x5 p sure n c k d f bs _).mpr ⟨fun _ => ⟨C12_ok, rfl, rfl⟩, fun h => absurd (of_decide_eq_false h) (by intro hh; apply hh; split <;> omega)⟩⟩
  cases hok : okH p n f with
  | false =>
    have hwhen : ConOK Try.prog 21 ((C21 p n c f).when (.ret (.bool false))) := con_when (C21_ok p n c f (by omega)) _
    have hr : (C21 p n c f).res ⟨⟨[I p], [(n, c)]⟩, [mvs n f]⟩ = .ret (.bool false) := by show ARes.ret (.bool (okH p n f)) = _; rw [hok]
    exact ⟨_, (x5 p sure n c k d f bs _).mpr ⟨fun _ => ⟨C12_ok, rfl, rfl⟩, fun _ => ⟨hwhen, ⟨rfl, hr⟩, C12_ok, rfl, rfl⟩⟩⟩
  | true =>
    rcases Nat.eq_zero_or_pos n with h0 | h0
    · subst h0
      exact law5Z p sure c k d f bs hok
    · cases sure
      · exact law5f p n c k d bs f h0 hok hb
      · exact law5t p n c k d bs f h0 hok hb
theorem law5nany (p : Int) (sure : Bool) (n c : Nat) (f : Nat → Mv) :
    ∃ hs, vx.call 5 [hV p n c, .bool sure, nilS] (retK fun r => r = .ret (.bool true)) (m2n (mvs n f)) hs := by
  by_cases hfar : 40 < n
  · exact ⟨_, (x5z p sure n c f _).mpr ⟨fun _ => ⟨C12_ok, rfl, rfl⟩, fun h => absurd (of_decide_eq_false h) (by intro hh; apply hh; split <;> omega)⟩⟩
  cases hok : okH p n f with
  | false =>
    have hwhen : ConOK Try.prog 21 ((C21 p n c f).when (.ret (.bool false))) := con_when (C21_ok p n c f (by omega)) _
    have hr : (C21 p n c f).res ⟨⟨[I p], [(n, c)]⟩, [mvs n f]⟩ = .ret (.bool false) := by show ARes.ret (.bool (okH p n f)) = _; rw [hok]
    exact ⟨_, (x5z p sure n c f _).mpr ⟨fun _ => ⟨C12_ok, rfl, rfl⟩, fun _ => ⟨hwhen, ⟨rfl, hr⟩, C12_ok, rfl, rfl⟩⟩⟩
  | true =>
    rcases Nat.eq_zero_or_pos n with h0 | h0
    · subst h0
      exact law5Zn p sure c f hok
    · cases sure
      · exact law5zf p n c f h0 hok
      · exact law5zt p n c f h0 hok
end Go.Ab
