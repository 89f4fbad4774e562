/- package horse: can: which move can follow which one, by their numbers. -/
import Derived.Test.YtamfplmmfbbabaaVB
set_option maxRecDepth 100000
namespace Go.Ab
open Go Go.RowKit Go.Proofs
theorem f77 (a b : Nat) (u1 u2 u3 u4 v1 v2 v3 v4 : Int) (o : Nat → Int) (R : ARes → Prop) : (vx.call 77 [.agg ⟨ints 7 o⟩, .agg ⟨[I u1, I u2, I u3, I u4, I a]⟩, .agg ⟨[I v1, I v2, I v3, I v4, I b]⟩] (retK R) ⟨.nil, 0⟩ ((7, .val (.pointer (.some ⟨((0 : Nat)), ((0 : Nat) + a * (1 : Nat)), .none⟩))) :: (0, .val (I (o a))) :: (6, .val (I (o a / (2 : Int) ^ b))) :: [(1, .split ([]) ([]))])) =
(((((((0 : Int) ≤ (↑a : Int))) ∧ (((↑a : Int) < (↑(7 : Nat) : Int)))) ∧ (((.pointer (.some ⟨((0 : Nat)), ((0 : Nat) + a * (1 : Nat)), .none⟩)) : Value) = (.pointer (.some ⟨((0 : Nat)), ((0 : Nat) + a * (1 : Nat)), .none⟩)))) ∧
((([Value.int .i64 (o 0), Value.int .i64 (o 1), Value.int .i64 (o 2), Value.int .i64 (o 3), Value.int .i64 (o 4), Value.int .i64 (o 5), Value.int .i64 (o 6)][(0 : Nat) + a * (1 : Nat)]? = some (I (o a)))) ∧
((((((0 : Int) ≤ (↑b : Int))) ∧ (((↑b : Int) ≤ (↑(64 : Nat) : Int)))) ∧ (((I (o a / (2 : Int) ^ b)) : Value) = (I (o a / (2 : Int) ^ b)))) ∧
(((bits BinOp.and IntKind.i64 (o a / (2 : Int) ^ b) (1 : Int) == (1 : Int)) = true → R (.ret (.bool true))) ∧
((bits BinOp.and IntKind.i64 (o a / (2 : Int) ^ b) (1 : Int) == (1 : Int)) = false → R (.ret (.bool false)))))))) := by kernel_rfl
theorem C77_ok (o : Nat → Int) (u1 u2 u3 u4 : Int) (a : Nat) (v1 v2 v3 v4 : Int) (b : Nat) (ha : a < 7) (hb : b < 7) : ConOK Try.prog 77 (C77 o u1 u2 u3 u4 a v1 v2 v3 v4 b) := by
  refine con_of vx_sound _ (fun x hx => ?_) rfl (fun x _ => rfl) (fun x hx => ?_) rfl (Nat.le_of_ble_eq_true rfl) (by rw [nglob]; exact Nat.zero_le _)
  · cases hx
    have key : ∀ R : ARes → Prop, (∀ v, hasI (o a) b = v → R (.ret (.bool v))) → ∃ hs, vx.call 77 [.agg ⟨ints 7 o⟩, .agg ⟨[I u1, I u2, I u3, I u4, I a]⟩, .agg ⟨[I v1, I v2, I v3, I v4, I b]⟩] (retK R) ⟨.nil, 0⟩ hs := fun R hR => by
      refine ⟨_, (f77 a b u1 u2 u3 u4 v1 v2 v3 v4 o R).mpr ⟨⟨⟨by omega, by omega⟩, rfl⟩, ints_get _ ha, ⟨⟨by omega, by omega⟩, rfl⟩, fun h => hR _ h, fun h => hR _ h⟩⟩
    obtain ⟨hs, h⟩ := key (fun r => r = .ret (.bool (hasI (o a) b))) fun v hv => by rw [hv]
    exact ⟨hs, h⟩
  · cases hx
    intro cs hcs
    cases hcs
end Go.Ab
set_option maxRecDepth 100000
namespace Go.Ab
open Go Go.RowKit Go.Proofs
theorem b95n (a i n c : Nat) (u1 u2 u3 u4 : Int) (f : Nat → Mv) (q : Nat → Nat) (js : List Value) (tr : Int) (es es3 : List (Value × Value)) (o : Nat → Int) (R : Nat → AExit → Hw → Prop) : (vx.code none (.l p95) (leafW [T95, R95] R) (T95.inst (st95 o n c js [I u1, I u2, I u3, I u4, I a] tr es i)) ([(0, .split ((1, .val (.pointer (.some ⟨((5 : Nat)), ((0 : Nat) + i * (5 : Nat)), .none⟩))) :: (0, .val (.agg ⟨[(I ((f i).at_)), (I ((f i).place)), (I ((f i).lo)), (I ((f i).hi)), (I ((↑(q i) : Int)))]⟩)) :: (9, .val (I (tr / (2 : Int) ^ (↑(q i) : Int).toNat))) :: [(1, .split ([(6, .tm 0 [])]) ((5, .con (C77 o u1 u2 u3 u4 a (f i).at_ (f i).place (f i).lo (f i).hi (q i))) :: [(0, .split ([(4, .tm 0 [])]) ((8, .val (I (IntKind.i64.wrap ((1 : Int) * (2 : Int) ^ (↑(q i) : Int).toNat)))) :: (1, .again) :: (0, .con (C74 tr (oneI (q i)))) :: (3, .val (.tuple ⟨[(.agg ⟨[(I 0), (I 0), (I 0), (I 0), (I 0)]⟩), (.bool false)]⟩)) :: (14, .mset es3) :: [(1, .tm 1 [])]))]))]) ([(1, .tm 0 [])]))])) =
((((decide ((↑i : Int) < (↑n : Int))) = true → ((((((0 : Int) ≤ (↑i : Int))) ∧ (((↑i : Int) < (↑n : Int)))) ∧ (((.pointer (.some ⟨((5 : Nat)), ((0 : Nat) + i * (5 : Nat)), .none⟩)) : Value) = (.pointer (.some ⟨((5 : Nat)), ((0 : Nat) + i * (5 : Nat)), .none⟩)))) ∧
(((((0 : Nat) + i * (5 : Nat) + (5 : Nat) ≤ js.length)) ∧ (((.agg ⟨[(I ((f i).at_)), (I ((f i).place)), (I ((f i).lo)), (I ((f i).hi)), (I ((↑(q i) : Int)))]⟩) : Value) = (.agg ⟨(List.take ((5 : Nat)) (List.drop ((0 : Nat) + i * (5 : Nat)) (js)))⟩))) ∧
((((((0 : Int) ≤ (↑(q i) : Int))) ∧ (((↑(q i) : Int) ≤ (↑(64 : Nat) : Int)))) ∧ (((I (tr / (2 : Int) ^ (↑(q i) : Int).toNat)) : Value) = (I (tr / (2 : Int) ^ (↑(q i) : Int).toNat)))) ∧
(((bits BinOp.and IntKind.i64 (tr / (2 : Int) ^ (↑(q i) : Int).toNat) (1 : Int) == (1 : Int)) = true → R 0 .normal ⟨⟨[(I n), (I (IntKind.i64.wrap ((↑i : Int) + (1 : Int)))), (I (o 0)), (I (o 1)), (I (o 2)), (I (o 3)), (I (o 4)), (I (o 5)), (I (o 6))], [⟨n, c⟩, ⟨n, c⟩]⟩, [[(I tr)], (js), [(I u1), (I u2), (I u3), (I u4), (I a)]], [(es)]⟩) ∧
((bits BinOp.and IntKind.i64 (tr / (2 : Int) ^ (↑(q i) : Int).toNat) (1 : Int) == (1 : Int)) = false → ((ConOK Try.prog (OfNat.ofNat (77 : Nat)) (C77 o u1 u2 u3 u4 a (f i).at_ (f i).place (f i).lo (f i).hi (q i))) ∧ (Con.pre (C77 o u1 u2 u3 u4 a (f i).at_ (f i).place (f i).lo (f i).hi (q i)) ⟨⟨[(I (o 0)), (I (o 1)), (I (o 2)), (I (o 3)), (I (o 4)), (I (o 5)), (I (o 6)), (I u1), (I u2), (I u3), (I u4), (I a), (I ((f i).at_)), (I ((f i).place)), (I ((f i).lo)), (I ((f i).hi)), (I ((↑(q i) : Int)))], []⟩, []⟩) ∧
(((!hasI (o a) (q i)) = true → R 0 .normal ⟨⟨[(I n), (I (IntKind.i64.wrap ((↑i : Int) + (1 : Int)))), (I (o 0)), (I (o 1)), (I (o 2)), (I (o 3)), (I (o 4)), (I (o 5)), (I (o 6))], [⟨n, c⟩, ⟨n, c⟩]⟩, [[(I tr)], (js), [(I u1), (I u2), (I u3), (I u4), (I a)]], [(es)]⟩) ∧
((!hasI (o a) (q i)) = false → ((((((0 : Int) ≤ (↑(q i) : Int))) ∧ (((↑(q i) : Int) ≤ (↑(64 : Nat) : Int)))) ∧ (((I (IntKind.i64.wrap ((1 : Int) * (2 : Int) ^ (↑(q i) : Int).toNat))) : Value) = (I (IntKind.i64.wrap ((1 : Int) * (2 : Int) ^ (↑(q i) : Int).toNat))))) ∧
(((((some (I tr) : Option Value) = some (I tr))) ∧ (True)) ∧
((ConOK Try.prog 74 (C74 tr (oneI (q i)))) ∧ (Con.pre (C74 tr (oneI (q i))) ⟨⟨[], [⟨((2 : Nat)), ((2 : Nat))⟩]⟩, [[(I tr), (I (IntKind.i64.wrap ((1 : Int) * (2 : Int) ^ (↑(q i) : Int).toNat)))]]⟩) ∧
((LookC Try.prog (OfNat.ofNat (97 : Nat)) (.agg ⟨[(I 0), (I 0), (I 0), (I 0), (I 0)]⟩) (es) (.agg ⟨[(I ((f i).at_)), (I ((f i).place)), (I ((f i).lo)), (I ((f i).hi)), (I ((↑(q i) : Int)))]⟩) true (.tuple ⟨[(.agg ⟨[(I 0), (I 0), (I 0), (I 0), (I 0)]⟩), (.bool false)]⟩)) ∧
((SetC Try.prog (OfNat.ofNat (97 : Nat)) (es) (.agg ⟨[(I ((f i).at_)), (I ((f i).place)), (I ((f i).lo)), (I ((f i).hi)), (I ((↑(q i) : Int)))]⟩) (.agg ⟨[(I u1), (I u2), (I u3), (I u4), (I a)]⟩) (es3)) ∧
R 1 .ret ⟨⟨[(.bool true)], []⟩, [[(I (joinI tr (oneI (q i))))]], [(es3)]⟩)))))))))))))) ∧
((decide ((↑i : Int) < (↑n : Int))) = false → R 0 (.exit ((0 : Nat))) ⟨⟨[(I n), (I i), (I (o 0)), (I (o 1)), (I (o 2)), (I (o 3)), (I (o 4)), (I (o 5)), (I (o 6))], [⟨n, c⟩, ⟨n, c⟩]⟩, [[(I tr)], (js), [(I u1), (I u2), (I u3), (I u4), (I a)]], [(es)]⟩))) := by kernel_rfl
theorem b95t (a i n c : Nat) (u1 u2 u3 u4 v1 v2 v3 v4 : Int) (d : Nat) (f : Nat → Mv) (q : Nat → Nat) (js : List Value) (tr tr2 : Int) (es es2 es3 : List (Value × Value)) (o : Nat → Int) (R : Nat → AExit → Hw → Prop) : (vx.code none (.l p95) (leafW [T95, R95] R) (T95.inst (st95 o n c js [I u1, I u2, I u3, I u4, I a] tr es i)) ([(0, .split ((1, .val (.pointer (.some ⟨((5 : Nat)), ((0 : Nat) + i * (5 : Nat)), .none⟩))) :: (0, .val (.agg ⟨[(I ((f i).at_)), (I ((f i).place)), (I ((f i).lo)), (I ((f i).hi)), (I ((↑(q i) : Int)))]⟩)) :: (9, .val (I (tr / (2 : Int) ^ (↑(q i) : Int).toNat))) :: [(1, .split ([(6, .tm 0 [])]) ((5, .con (C77 o u1 u2 u3 u4 a (f i).at_ (f i).place (f i).lo (f i).hi (q i))) :: [(0, .split ([(4, .tm 0 [])]) ((8, .val (I (IntKind.i64.wrap ((1 : Int) * (2 : Int) ^ (↑(q i) : Int).toNat)))) :: (1, .again) :: (0, .con (C74 tr (oneI (q i)))) :: (3, .val (.tuple ⟨[(.agg ⟨[(I v1), (I v2), (I v3), (I v4), (I d)]⟩), (.bool true)]⟩)) :: (11, .conW (CW95 o n c js v1 v2 v3 v4 d (joinI tr (oneI (q i))) es true tr2 es2)) :: (5, .mset es3) :: [(1, .tm 1 [])]))]))]) ([(1, .tm 0 [])]))])) =
((((decide ((↑i : Int) < (↑n : Int))) = true → ((((((0 : Int) ≤ (↑i : Int))) ∧ (((↑i : Int) < (↑n : Int)))) ∧ (((.pointer (.some ⟨((5 : Nat)), ((0 : Nat) + i * (5 : Nat)), .none⟩)) : Value) = (.pointer (.some ⟨((5 : Nat)), ((0 : Nat) + i * (5 : Nat)), .none⟩)))) ∧
(((((0 : Nat) + i * (5 : Nat) + (5 : Nat) ≤ js.length)) ∧ (((.agg ⟨[(I ((f i).at_)), (I ((f i).place)), (I ((f i).lo)), (I ((f i).hi)), (I ((↑(q i) : Int)))]⟩) : Value) = (.agg ⟨(List.take ((5 : Nat)) (List.drop ((0 : Nat) + i * (5 : Nat)) (js)))⟩))) ∧
((((((0 : Int) ≤ (↑(q i) : Int))) ∧ (((↑(q i) : Int) ≤ (↑(64 : Nat) : Int)))) ∧ (((I (tr / (2 : Int) ^ (↑(q i) : Int).toNat)) : Value) = (I (tr / (2 : Int) ^ (↑(q i) : Int).toNat)))) ∧
(((bits BinOp.and IntKind.i64 (tr / (2 : Int) ^ (↑(q i) : Int).toNat) (1 : Int) == (1 : Int)) = true → R 0 .normal ⟨⟨[(I n), (I (IntKind.i64.wrap ((↑i : Int) + (1 : Int)))), (I (o 0)), (I (o 1)), (I (o 2)), (I (o 3)), (I (o 4)), (I (o 5)), (I (o 6))], [⟨n, c⟩, ⟨n, c⟩]⟩, [[(I tr)], (js), [(I u1), (I u2), (I u3), (I u4), (I a)]], [(es)]⟩) ∧
((bits BinOp.and IntKind.i64 (tr / (2 : Int) ^ (↑(q i) : Int).toNat) (1 : Int) == (1 : Int)) = false → ((ConOK Try.prog (OfNat.ofNat (77 : Nat)) (C77 o u1 u2 u3 u4 a (f i).at_ (f i).place (f i).lo (f i).hi (q i))) ∧ (Con.pre (C77 o u1 u2 u3 u4 a (f i).at_ (f i).place (f i).lo (f i).hi (q i)) ⟨⟨[(I (o 0)), (I (o 1)), (I (o 2)), (I (o 3)), (I (o 4)), (I (o 5)), (I (o 6)), (I u1), (I u2), (I u3), (I u4), (I a), (I ((f i).at_)), (I ((f i).place)), (I ((f i).lo)), (I ((f i).hi)), (I ((↑(q i) : Int)))], []⟩, []⟩) ∧
(((!hasI (o a) (q i)) = true → R 0 .normal ⟨⟨[(I n), (I (IntKind.i64.wrap ((↑i : Int) + (1 : Int)))), (I (o 0)), (I (o 1)), (I (o 2)), (I (o 3)), (I (o 4)), (I (o 5)), (I (o 6))], [⟨n, c⟩, ⟨n, c⟩]⟩, [[(I tr)], (js), [(I u1), (I u2), (I u3), (I u4), (I a)]], [(es)]⟩) ∧
((!hasI (o a) (q i)) = false → ((((((0 : Int) ≤ (↑(q i) : Int))) ∧ (((↑(q i) : Int) ≤ (↑(64 : Nat) : Int)))) ∧ (((I (IntKind.i64.wrap ((1 : Int) * (2 : Int) ^ (↑(q i) : Int).toNat))) : Value) = (I (IntKind.i64.wrap ((1 : Int) * (2 : Int) ^ (↑(q i) : Int).toNat))))) ∧
(((((some (I tr) : Option Value) = some (I tr))) ∧ (True)) ∧
((ConOK Try.prog 74 (C74 tr (oneI (q i)))) ∧ (Con.pre (C74 tr (oneI (q i))) ⟨⟨[], [⟨((2 : Nat)), ((2 : Nat))⟩]⟩, [[(I tr), (I (IntKind.i64.wrap ((1 : Int) * (2 : Int) ^ (↑(q i) : Int).toNat)))]]⟩) ∧
((LookC Try.prog (OfNat.ofNat (97 : Nat)) (.agg ⟨[(I 0), (I 0), (I 0), (I 0), (I 0)]⟩) (es) (.agg ⟨[(I ((f i).at_)), (I ((f i).place)), (I ((f i).lo)), (I ((f i).hi)), (I ((↑(q i) : Int)))]⟩) true (.tuple ⟨[(.agg ⟨[(I v1), (I v2), (I v3), (I v4), (I d)]⟩), (.bool true)]⟩)) ∧
((ConWOK Try.prog (OfNat.ofNat (95 : Nat)) (CW95 o n c js v1 v2 v3 v4 d (joinI tr (oneI (q i))) es true tr2 es2)) ∧ (ConW.pre (CW95 o n c js v1 v2 v3 v4 d (joinI tr (oneI (q i))) es true tr2 es2) ⟨⟨[(I v1), (I v2), (I v3), (I v4), (I d), (I (o 0)), (I (o 1)), (I (o 2)), (I (o 3)), (I (o 4)), (I (o 5)), (I (o 6))], [⟨n, c⟩]⟩, [[(I (joinI tr (oneI (q i))))], (js)], [(es)]⟩) ∧
((SetC Try.prog (OfNat.ofNat (97 : Nat)) (es2) (.agg ⟨[(I ((f i).at_)), (I ((f i).place)), (I ((f i).lo)), (I ((f i).hi)), (I ((↑(q i) : Int)))]⟩) (.agg ⟨[(I u1), (I u2), (I u3), (I u4), (I a)]⟩) (es3)) ∧
R 1 .ret ⟨⟨[(.bool true)], []⟩, [[(I tr2)]], [(es3)]⟩))))))))))))))) ∧
((decide ((↑i : Int) < (↑n : Int))) = false → R 0 (.exit ((0 : Nat))) ⟨⟨[(I n), (I i), (I (o 0)), (I (o 1)), (I (o 2)), (I (o 3)), (I (o 4)), (I (o 5)), (I (o 6))], [⟨n, c⟩, ⟨n, c⟩]⟩, [[(I tr)], (js), [(I u1), (I u2), (I u3), (I u4), (I a)]], [(es)]⟩))) := by kernel_rfl
theorem b95f (a i n c : Nat) (u1 u2 u3 u4 v1 v2 v3 v4 : Int) (d : Nat) (f : Nat → Mv) (q : Nat → Nat) (js : List Value) (tr tr2 : Int) (es es2 es3 : List (Value × Value)) (o : Nat → Int) (R : Nat → AExit → Hw → Prop) : (vx.code none (.l p95) (leafW [T95, R95] R) (T95.inst (st95 o n c js [I u1, I u2, I u3, I u4, I a] tr es i)) ([(0, .split ((1, .val (.pointer (.some ⟨((5 : Nat)), ((0 : Nat) + i * (5 : Nat)), .none⟩))) :: (0, .val (.agg ⟨[(I ((f i).at_)), (I ((f i).place)), (I ((f i).lo)), (I ((f i).hi)), (I ((↑(q i) : Int)))]⟩)) :: (9, .val (I (tr / (2 : Int) ^ (↑(q i) : Int).toNat))) :: [(1, .split ([(6, .tm 0 [])]) ((5, .con (C77 o u1 u2 u3 u4 a (f i).at_ (f i).place (f i).lo (f i).hi (q i))) :: [(0, .split ([(4, .tm 0 [])]) ((8, .val (I (IntKind.i64.wrap ((1 : Int) * (2 : Int) ^ (↑(q i) : Int).toNat)))) :: (1, .again) :: (0, .con (C74 tr (oneI (q i)))) :: (3, .val (.tuple ⟨[(.agg ⟨[(I v1), (I v2), (I v3), (I v4), (I d)]⟩), (.bool true)]⟩)) :: (11, .conW (CW95 o n c js v1 v2 v3 v4 d (joinI tr (oneI (q i))) es false tr2 es2)) :: [(4, .tm 0 [])]))]))]) ([(1, .tm 0 [])]))])) =
((((decide ((↑i : Int) < (↑n : Int))) = true → ((((((0 : Int) ≤ (↑i : Int))) ∧ (((↑i : Int) < (↑n : Int)))) ∧ (((.pointer (.some ⟨((5 : Nat)), ((0 : Nat) + i * (5 : Nat)), .none⟩)) : Value) = (.pointer (.some ⟨((5 : Nat)), ((0 : Nat) + i * (5 : Nat)), .none⟩)))) ∧
(((((0 : Nat) + i * (5 : Nat) + (5 : Nat) ≤ js.length)) ∧ (((.agg ⟨[(I ((f i).at_)), (I ((f i).place)), (I ((f i).lo)), (I ((f i).hi)), (I ((↑(q i) : Int)))]⟩) : Value) = (.agg ⟨(List.take ((5 : Nat)) (List.drop ((0 : Nat) + i * (5 : Nat)) (js)))⟩))) ∧
((((((0 : Int) ≤ (↑(q i) : Int))) ∧ (((↑(q i) : Int) ≤ (↑(64 : Nat) : Int)))) ∧ (((I (tr / (2 : Int) ^ (↑(q i) : Int).toNat)) : Value) = (I (tr / (2 : Int) ^ (↑(q i) : Int).toNat)))) ∧
(((bits BinOp.and IntKind.i64 (tr / (2 : Int) ^ (↑(q i) : Int).toNat) (1 : Int) == (1 : Int)) = true → R 0 .normal ⟨⟨[(I n), (I (IntKind.i64.wrap ((↑i : Int) + (1 : Int)))), (I (o 0)), (I (o 1)), (I (o 2)), (I (o 3)), (I (o 4)), (I (o 5)), (I (o 6))], [⟨n, c⟩, ⟨n, c⟩]⟩, [[(I tr)], (js), [(I u1), (I u2), (I u3), (I u4), (I a)]], [(es)]⟩) ∧
((bits BinOp.and IntKind.i64 (tr / (2 : Int) ^ (↑(q i) : Int).toNat) (1 : Int) == (1 : Int)) = false → ((ConOK Try.prog (OfNat.ofNat (77 : Nat)) (C77 o u1 u2 u3 u4 a (f i).at_ (f i).place (f i).lo (f i).hi (q i))) ∧ (Con.pre (C77 o u1 u2 u3 u4 a (f i).at_ (f i).place (f i).lo (f i).hi (q i)) ⟨⟨[(I (o 0)), (I (o 1)), (I (o 2)), (I (o 3)), (I (o 4)), (I (o 5)), (I (o 6)), (I u1), (I u2), (I u3), (I u4), (I a), (I ((f i).at_)), (I ((f i).place)), (I ((f i).lo)), (I ((f i).hi)), (I ((↑(q i) : Int)))], []⟩, []⟩) ∧
(((!hasI (o a) (q i)) = true → R 0 .normal ⟨⟨[(I n), (I (IntKind.i64.wrap ((↑i : Int) + (1 : Int)))), (I (o 0)), (I (o 1)), (I (o 2)), (I (o 3)), (I (o 4)), (I (o 5)), (I (o 6))], [⟨n, c⟩, ⟨n, c⟩]⟩, [[(I tr)], (js), [(I u1), (I u2), (I u3), (I u4), (I a)]], [(es)]⟩) ∧
((!hasI (o a) (q i)) = false → ((((((0 : Int) ≤ (↑(q i) : Int))) ∧ (((↑(q i) : Int) ≤ (↑(64 : Nat) : Int)))) ∧ (((I (IntKind.i64.wrap ((1 : Int) * (2 : Int) ^ (↑(q i) : Int).toNat))) : Value) = (I (IntKind.i64.wrap ((1 : Int) * (2 : Int) ^ (↑(q i) : Int).toNat))))) ∧
(((((some (I tr) : Option Value) = some (I tr))) ∧ (True)) ∧
((ConOK Try.prog 74 (C74 tr (oneI (q i)))) ∧ (Con.pre (C74 tr (oneI (q i))) ⟨⟨[], [⟨((2 : Nat)), ((2 : Nat))⟩]⟩, [[(I tr), (I (IntKind.i64.wrap ((1 : Int) * (2 : Int) ^ (↑(q i) : Int).toNat)))]]⟩) ∧
((LookC Try.prog (OfNat.ofNat (97 : Nat)) (.agg ⟨[(I 0), (I 0), (I 0), (I 0), (I 0)]⟩) (es) (.agg ⟨[(I ((f i).at_)), (I ((f i).place)), (I ((f i).lo)), (I ((f i).hi)), (I ((↑(q i) : Int)))]⟩) true (.tuple ⟨[(.agg ⟨[(I v1), (I v2), (I v3), (I v4), (I d)]⟩), (.bool true)]⟩)) ∧
((ConWOK Try.prog (OfNat.ofNat (95 : Nat)) (CW95 o n c js v1 v2 v3 v4 d (joinI tr (oneI (q i))) es false tr2 es2)) ∧ (ConW.pre (CW95 o n c js v1 v2 v3 v4 d (joinI tr (oneI (q i))) es false tr2 es2) ⟨⟨[(I v1), (I v2), (I v3), (I v4), (I d), (I (o 0)), (I (o 1)), (I (o 2)), (I (o 3)), (I (o 4)), (I (o 5)), (I (o 6))], [⟨n, c⟩]⟩, [[(I (joinI tr (oneI (q i))))], (js)], [(es)]⟩) ∧
R 0 .normal ⟨⟨[(I n), (I (IntKind.i64.wrap ((↑i : Int) + (1 : Int)))), (I (o 0)), (I (o 1)), (I (o 2)), (I (o 3)), (I (o 4)), (I (o 5)), (I (o 6))], [⟨n, c⟩, ⟨n, c⟩]⟩, [[(I tr2)], (js), [(I u1), (I u2), (I u3), (I u4), (I a)]], [(es2)]⟩)))))))))))))) ∧
((decide ((↑i : Int) < (↑n : Int))) = false → R 0 (.exit ((0 : Nat))) ⟨⟨[(I n), (I i), (I (o 0)), (I (o 1)), (I (o 2)), (I (o 3)), (I (o 4)), (I (o 5)), (I (o 6))], [⟨n, c⟩, ⟨n, c⟩]⟩, [[(I tr)], (js), [(I u1), (I u2), (I u3), (I u4), (I a)]], [(es)]⟩))) := by kernel_rfl
noncomputable def encJ (f : Nat → Mv) (q : Nat → Nat) (M : List (Nat × Nat)) : List (Value × Value) := M.map fun e => (jU f q e.1, jU f q e.2)
theorem aEq97' (a1 a2 a3 a4 a5 b1 b2 b3 b4 b5 : Int) : aEq Try.prog 97 (.agg ⟨[I a1, I a2, I a3, I a4, I a5]⟩) (.agg ⟨[I b1, I b2, I b3, I b4, I b5]⟩) = some (a1 == b1 && (a2 == b2 && (a3 == b3 && (a4 == b4 && (a5 == b5 && true))))) := by kernel_rfl
theorem aEqJ {f : Nat → Mv} {q : Nat → Nat} {n : Nat} (hq : ∀ i j, i < n → j < n → q i = q j → i = j) {i j : Nat} (hi : i < n) (hj : j < n) : aEq Try.prog 97 (jU f q i) (jU f q j) = some (decide (i = j)) := by
  refine (aEq97' _ _ _ _ _ _ _ _ _ _).trans ?_
  by_cases h : i = j
  · subst h
    simp
  · have : ¬ ((q i : Nat) : Int) = ((q j : Nat) : Int) := fun e => h (hq i j hi hj (by omega))
    simp [h, this]
def fndN : List (Nat × Nat) → Nat → Nat → Option (Nat × Nat)
  | [], _, _ => none
  | e :: l, h, i => if h = e.1 then some (i, e.2) else fndN l h (i + 1)
theorem findA_J {f : Nat → Mv} {q : Nat → Nat} {n : Nat} (hq : ∀ i j, i < n → j < n → q i = q j → i = j) (M : List (Nat × Nat)) (hM : ∀ e ∈ M, e.1 < n ∧ e.2 < n) {h : Nat} (hh : h < n) (i : Nat) : findA Try.prog 97 (jU f q h) (encJ f q M) i = some ((fndN M h i).map fun x => (x.1, jU f q x.2)) := by
  induction M generalizing i with
  | nil => rfl
  | cons e l ih =>
    simp only [encJ, List.map_cons, findA, fndN, aEqJ hq hh (hM e List.mem_cons_self).1, Option.bind_some]
    by_cases he : h = e.1
    · simp [he]
    · simp only [he, decide_false, cond_false, if_false]
      exact ih (fun e he => hM e (List.mem_cons_of_mem _ he)) (i + 1)
theorem fndN_get (M : List (Nat × Nat)) (h i : Nat) : (fndN M h i).map (·.2) = getN M h := by
  induction M generalizing i with
  | nil => rfl
  | cons e l ih =>
    simp only [fndN, getN]
    split
    · rfl
    · exact ih (i + 1)
theorem fndN_none {M : List (Nat × Nat)} {h i : Nat} (hf : fndN M h i = none) (a : Nat) : setN M h a = M ++ [(h, a)] := by
  induction M generalizing i with
  | nil => rfl
  | cons e l ih =>
    simp only [fndN] at hf
    split at hf
    · cases hf
    · rename_i he
      simp only [setN, if_neg he, ih hf, List.cons_append]
theorem fndN_some {M : List (Nat × Nat)} {h i j b : Nat} (hf : fndN M h i = some (j, b)) (a : Nat) : ∃ d, j = i + d ∧ M[d]? = some (h, b) ∧ setN M h a = M.set d (h, a) := by
  induction M generalizing i with
  | nil => cases hf
  | cons e l ih =>
    simp only [fndN] at hf
    split at hf
    · rename_i he
      cases hf
      exact ⟨0, rfl, by simp [he], by simp [setN, he]⟩
    · rename_i he
      obtain ⟨d, h1, h2, h3⟩ := ih hf
      exact ⟨d + 1, by omega, by simpa using h2, by simp only [setN, if_neg he, h3, List.set_cons_succ]⟩
section
variable {f : Nat → Mv} {q : Nat → Nat} {n : Nat}
theorem lookC_J (hq : ∀ i j, i < n → j < n → q i = q j → i = j) {M : List (Nat × Nat)} (hM : ∀ e ∈ M, e.1 < n ∧ e.2 < n) {h : Nat} (hh : h < n) {z v : Value} {ok : Bool} (hv : v = lookR z ok ((getN M h).map fun a => (0, jU f q a))) : LookC Try.prog 97 z (encJ f q M) (jU f q h) ok v := by
  refine ⟨?_⟩
  rw [findA_J hq M hM hh, Option.bind_some, hv]
  have := fndN_get M h 0
  cases hf : fndN M h 0 with
  | none => rw [hf] at this; rw [← this]; rfl
  | some x => rw [hf] at this; rw [← this]; rfl
theorem same_J (a : Nat) : Instr.sameBits 10000 (jU f q a) (jU f q a) = true := by
  simp [Instr.sameBits, jU, jobU, I]
theorem setC_J (hq : ∀ i j, i < n → j < n → q i = q j → i = j) {M : List (Nat × Nat)} (hM : ∀ e ∈ M, e.1 < n ∧ e.2 < n) {h : Nat} (hh : h < n) (a : Nat) : SetC Try.prog 97 (encJ f q M) (jU f q h) (jU f q a) (encJ f q (setN M h a)) := by
  refine ⟨?_⟩
  rw [findA_J hq M hM hh, Option.bind_some]
  cases hf : fndN M h 0 with
  | none =>
    simp only [Option.map_none, fndN_none hf a, encJ, List.map_append, List.map_cons, List.map_nil]
  | some x =>
    obtain ⟨j, b⟩ := x
    obtain ⟨d, h1, h2, h3⟩ := fndN_some hf a
    have hj : j = d := by omega
    subst hj
    have h4 : (encJ f q M)[j]? = some (jU f q h, jU f q b) := by simp only [encJ, List.getElem?_map, h2, Option.map_some]
    simp only [Option.map_some, h4, same_J, h3, and_true]
    rw [if_pos ⟨rfl, rfl⟩]
    simp only [encJ, List.map_set]
theorem encJ_cl (M : List (Nat × Nat)) : ∀ e ∈ encJ f q M, cl 50 e.1 = true ∧ cl 50 e.2 = true := by
  intro e hm
  simp only [encJ, List.mem_map] at hm
  obtain ⟨x, _, rfl⟩ := hm
  exact ⟨rfl, rfl⟩
end
theorem jobsU_len (m : Nat) (f : Nat → Mv) (q : Nat → Nat) : (jobsU m f q).length = m * 5 := flatC_len fun i _ => rfl
theorem jobsU_part {n i : Nat} (f : Nat → Mv) (q : Nat → Nat) (h : i < n) : ((jobsU n f q).drop (0 + i * 5)).take 5 = jobU f q i := by
  rw [Nat.zero_add]; exact flatC_part (k := 5) (fun i _ => rfl) h
theorem jobU_at (f : Nat → Mv) (q : Nat → Nat) (i : Nat) : ∀ v ∈ jobU f q i, atomic v = true := by
  intro v hv
  simp only [jobU, List.mem_cons, List.not_mem_nil, or_false] at hv
  rcases hv with rfl | rfl | rfl | rfl | rfl <;> rfl
theorem jobsU_at (n : Nat) (f : Nat → Mv) (q : Nat → Nat) : ∀ v ∈ jobsU n f q, atomic v = true := flatC_atomic fun i _ v hv => jobU_at f q i v hv
theorem joinT (T j : Nat) (hT : T < 128) (hj : j < 7) : joinI (T : Int) (oneI j) = ((T ||| 2 ^ j : Nat) : Int) := by
  have hp : 2 ^ j < 2 ^ 7 := Nat.pow_lt_pow_right (by omega) hj
  rw [one_nat j (by omega), joinI]
  have e0 : bits .or .i64 0 (T : Int) = (T : Int) := by
    have := or_nat 0 T (by decide) (by omega)
    simpa using this
  rw [e0, or_nat _ _ (by omega) (by omega)]
end Go.Ab
set_option maxRecDepth 100000
namespace Go.Ab
open Go Go.RowKit Go.Proofs
theorem f95t (a n c : Nat) (u1 u2 u3 u4 : Int) (js : List Value) (tr tr2 : Int) (es es2 : List (Value × Value)) (o : Nat → Int) (R : ARes → List WB → Prop) : (vx.call 95 [.agg ⟨[I u1, I u2, I u3, I u4, I a]⟩, pN 0, pN 1, pN 2, pN 3, pN 4] (retW bs95 R) (m95 o n c js tr es) ((6, .loopW T95 AExit.ret R95 fun x => { hs := { vs := [Value.bool true], ns := [] }, ls := [[I tr2]], es := [es2] }) :: [])) =
(((ClW ⟨⟨[(I n), (I 0), (I (o 0)), (I (o 1)), (I (o 2)), (I (o 3)), (I (o 4)), (I (o 5)), (I (o 6))], [⟨n, c⟩, ⟨n, c⟩]⟩, [[(I tr)], (js), [(I u1), (I u2), (I u3), (I u4), (I a)]], [(es)]⟩) ∧ (LoopOW Try.prog .none p95 (T95) ⟨⟨[(I n), (I 0), (I (o 0)), (I (o 1)), (I (o 2)), (I (o 3)), (I (o 4)), (I (o 5)), (I (o 6))], [⟨n, c⟩, ⟨n, c⟩]⟩, [[(I tr)], (js), [(I u1), (I u2), (I u3), (I u4), (I a)]], [(es)]⟩ .ret (R95) ⟨⟨[(.bool true)], []⟩, [[(I tr2)]], [(es2)]⟩) ∧
R (.ret (.bool true)) [(.lst [(I tr2)]), (.mp (es2))])) := by kernel_rfl
theorem f95f (a n c : Nat) (u1 u2 u3 u4 : Int) (js : List Value) (tr tr2 : Int) (es es2 : List (Value × Value)) (o : Nat → Int) (R : ARes → List WB → Prop) : (vx.call 95 [.agg ⟨[I u1, I u2, I u3, I u4, I a]⟩, pN 0, pN 1, pN 2, pN 3, pN 4] (retW bs95 R) (m95 o n c js tr es) ((6, .loopW T95 (.exit (0 : Nat)) T95 fun x => st95 o n c js [I u1, I u2, I u3, I u4, I (↑a : Int)] tr2 es2 n) :: [])) =
(((ClW ⟨⟨[(I n), (I 0), (I (o 0)), (I (o 1)), (I (o 2)), (I (o 3)), (I (o 4)), (I (o 5)), (I (o 6))], [⟨n, c⟩, ⟨n, c⟩]⟩, [[(I tr)], (js), [(I u1), (I u2), (I u3), (I u4), (I a)]], [(es)]⟩) ∧ (LoopOW Try.prog .none p95 (T95) ⟨⟨[(I n), (I 0), (I (o 0)), (I (o 1)), (I (o 2)), (I (o 3)), (I (o 4)), (I (o 5)), (I (o 6))], [⟨n, c⟩, ⟨n, c⟩]⟩, [[(I tr)], (js), [(I u1), (I u2), (I u3), (I u4), (I a)]], [(es)]⟩ (.exit ((0 : Nat))) (T95) ⟨⟨[(I n), (I n), (I (o 0)), (I (o 1)), (I (o 2)), (I (o 3)), (I (o 4)), (I (o 5)), (I (o 6))], [⟨n, c⟩, ⟨n, c⟩]⟩, [[(I tr2)], (js), [(I u1), (I u2), (I u3), (I u4), (I a)]], [(es2)]⟩) ∧
R (.ret (.bool false)) [(.lst [(I tr2)]), (.mp (es2))])) := by kernel_rfl
section
variable (o : Nat → Int) (n c : Nat) (f : Nat → Mv) (q : Nat → Nat)
def canO (i j : Nat) : Bool := hasI (o (q i)) (q j)
noncomputable def stM (a i : Nat) (σ : Ms) : Hw := st95 o n c (jobsU n f q) (jobU f q a) σ.T (encJ f q σ.M) i
noncomputable def outM (a i : Nat) (x : Bool × Ms) : AExit × Nat × Hw := match x with
  | (true, σ) => (.ret, 1, ⟨⟨[.bool true], []⟩, [[I (σ.T : Nat)]], [encJ f q σ.M]⟩)
  | (false, σ) => (.exit 0, 0, stM o n c f q a i σ)
noncomputable def C95 (a : Nat) (σ : Ms) (r : Bool × Ms) : ConW := CW95 o n c (jobsU n f q) (f a).at_ (f a).place (f a).lo (f a).hi (q a) σ.T (encJ f q σ.M) r.1 r.2.T (encJ f q r.2.M)
variable {o n c f q}
theorem clM (a i : Nat) (σ : Ms) : ClW (stM o n c f q a i σ) := by
  refine ⟨fun cs hcs v hv => ?_, fun es hes e he => ?_⟩
  · simp only [stM, st95, List.mem_cons, List.not_mem_nil, or_false] at hcs
    rcases hcs with rfl | rfl | rfl
    · simp only [List.mem_cons, List.not_mem_nil, or_false] at hv; subst hv; rfl
    · exact jobsU_at n f q v hv
    · exact jobU_at f q a v hv
  · simp only [stM, st95, List.mem_cons, List.not_mem_nil, or_false] at hes
    subst hes
    exact encJ_cl σ.M e he
theorem clMR (T : Nat) (M : List (Nat × Nat)) : ClW ⟨⟨[.bool true], []⟩, [[I (T : Nat)]], [encJ f q M]⟩ := by
  refine ⟨fun cs hcs v hv => ?_, fun es hes e he => ?_⟩
  · simp only [List.mem_cons, List.not_mem_nil, or_false] at hcs
    subst hcs
    simp only [List.mem_cons, List.not_mem_nil, or_false] at hv; subst hv; rfl
  · simp only [List.mem_cons, List.not_mem_nil, or_false] at hes
    subst hes
    exact encJ_cl M e he
theorem round95 (hn : n ≤ 7) (hq : ∀ i j, i < n → j < n → q i = q j → i = j) (hq7 : ∀ i, i < n → q i < 7) {k a i : Nat} {σ : Ms} (ha : a < n) (hσ : MsOK n σ) (hu : unt q n σ < k + 1)
    (ih : ∀ a σ, a < n → MsOK n σ → unt q n σ < k → ConWOK Try.prog 95 (C95 o n c f q a σ (matchF (canO o q) q n k a σ)))
    {R : Nat → AExit → Hw → Prop}
    (h1 : i < n → ∀ σ', MsOK n σ' → unt q n σ' ≤ unt q n σ → goF (canO o q) q (matchF (canO o q) q n k) a (n - i) i σ = goF (canO o q) q (matchF (canO o q) q n k) a (n - (i + 1)) (i + 1) σ' → R 0 .normal (stM o n c f q a (i + 1) σ'))
    (h2 : i < n → ∀ σ', goF (canO o q) q (matchF (canO o q) q n k) a (n - i) i σ = (true, σ') → R 1 .ret ⟨⟨[.bool true], []⟩, [[I (σ'.T : Nat)]], [encJ f q σ'.M]⟩)
    (h3 : ¬ i < n → R 0 (.exit 0) (stM o n c f q a i σ)) :
    ∃ hs, vx.code none (.l p95) (leafW [T95, R95] R) (T95.inst (stM o n c f q a i σ)) hs := by
  by_cases hi : i < n
  · have hw : IntKind.i64.wrap ((i : Int) + 1) = ((i + 1 : Nat) : Int) := wrapI (by omega) (by omega)
    have e1 : n - i = (n - (i + 1)) + 1 := by omega
    have hT : hasI (σ.T : Int) (q i) = σ.T.testBit (q i) := hasI_mask _ _ (by have := hσ.T; omega)
    have stp : goF (canO o q) q (matchF (canO o q) q n k) a (n - i) i σ = goF (canO o q) q (matchF (canO o q) q n k) a ((n - (i + 1)) + 1) i σ := by rw [e1]
    have hlen : 0 + i * 5 + 5 ≤ (jobsU n f q).length := by rw [jobsU_len]; have := flatC_bound (k := 5) hi; omega
    have hpart : (Value.agg ⟨[I (f i).at_, I (f i).place, I (f i).lo, I (f i).hi, I (q i : Nat)]⟩) = .agg ⟨((jobsU n f q).drop (0 + i * 5)).take 5⟩ := by rw [jobsU_part f q hi]; rfl
    have hqi := hq7 i hi
    have hqa := hq7 a ha
    have h77 := C77_ok o (f a).at_ (f a).place (f a).lo (f a).hi (q a) (f i).at_ (f i).place (f i).lo (f i).hi (q i) hqa hqi
    have skip : (σ.T.testBit (q i) || !canO o q a i) = true → R 0 .normal (stM o n c f q a (i + 1) σ) := fun hc => h1 hi σ hσ (Nat.le_refl _) (by rw [stp, goF_skip hc])
    have L1 : hasI (σ.T : Int) (q i) = true → R 0 .normal (stM o n c f q a (i + 1) σ) := fun h => skip (by rw [← hT, h]; rfl)
    have L2 : (!hasI (o (q a)) (q i)) = true → R 0 .normal (stM o n c f q a (i + 1) σ) := fun h => skip (by
      have : (!canO o q a i) = true := h
      rw [this, Bool.or_true])
    have hj := joinT σ.T (q i) hσ.T hqi
    have go : hasI (σ.T : Int) (q i) = false → (!hasI (o (q a)) (q i)) = false → (σ.T.testBit (q i) || !(canO o q a i)) = false := fun h1 h2 => by
      rw [← hT, h1]; exact h2
    cases hg : getN σ.M i with
    | none =>
      refine ⟨_, (b95n (q a) i n c (f a).at_ (f a).place (f a).lo (f a).hi f q (jobsU n f q) σ.T (encJ f q σ.M) (encJ f q (setN σ.M i a)) o R).mpr ⟨fun _ => ?_, fun h => absurd (by omega) (of_decide_eq_false h)⟩⟩
      refine ⟨⟨⟨by omega, by omega⟩, rfl⟩, ⟨hlen, hpart⟩, ⟨⟨by omega, by omega⟩, rfl⟩, fun h => ?_, fun hA => ⟨h77, rfl, fun h => ?_, fun hB => ?_⟩⟩
      · rw [hw]; exact L1 h
      · rw [hw]; exact L2 h
      · refine ⟨⟨⟨by omega, by omega⟩, rfl⟩, ⟨rfl, trivial⟩, C74_ok _ _, rfl, lookC_J hq hσ.keys hi (by rw [hg]; rfl), setC_J hq hσ.keys hi a, ?_⟩
        have := h2 hi (putN (markN q σ i) i a) (by rw [stp, goF_none (go hA hB) hg])
        simp only [putN, markN] at this
        rw [hj]
        exact this
    | some b =>
      have hb := hσ.get hg
      have hmk := hσ.mark hq7 hi
      have hlt : hasI (σ.T : Int) (q i) = false → unt q n (markN q σ i) < k := fun hA => by
        have := unt_mark (q := q) (n := n) hi (σ := σ) (by rw [← hT]; exact hA)
        omega
      have hS := (matchF_steps (can := canO o q) hq7 k).ok b (markN q σ i) hb hmk
      have hMo := (matchF_steps (can := canO o q) hq7 k).mono b (markN q σ i)
      have hC := ih b (markN q σ i) hb hmk
      generalize hr : matchF (canO o q) q n k b (markN q σ i) = r at hS hC hMo
      obtain ⟨rb, σ2⟩ := r
      simp only [C95, markN] at hC
      cases rb with
      | true =>
        refine ⟨_, (b95t (q a) i n c (f a).at_ (f a).place (f a).lo (f a).hi (f b).at_ (f b).place (f b).lo (f b).hi (q b) f q (jobsU n f q) σ.T σ2.T (encJ f q σ.M) (encJ f q σ2.M) (encJ f q (setN σ2.M i a)) o R).mpr ⟨fun _ => ?_, fun h => absurd (by omega) (of_decide_eq_false h)⟩⟩
        refine ⟨⟨⟨by omega, by omega⟩, rfl⟩, ⟨hlen, hpart⟩, ⟨⟨by omega, by omega⟩, rfl⟩, fun h => ?_, fun hA => ⟨h77, rfl, fun h => ?_, fun hB => ?_⟩⟩
        · rw [hw]; exact L1 h
        · rw [hw]; exact L2 h
        · refine ⟨⟨⟨by omega, by omega⟩, rfl⟩, ⟨rfl, trivial⟩, C74_ok _ _, rfl, lookC_J hq hσ.keys hi (by rw [hg]; rfl), by rw [hj]; exact hC (hlt hA), rfl, setC_J hq hS.keys hi a, ?_⟩
          exact h2 hi (putN σ2 i a) (by rw [stp, goF_true (go hA hB) hg hr])
      | false =>
        refine ⟨_, (b95f (q a) i n c (f a).at_ (f a).place (f a).lo (f a).hi (f b).at_ (f b).place (f b).lo (f b).hi (q b) f q (jobsU n f q) σ.T σ2.T (encJ f q σ.M) (encJ f q σ2.M) [] o R).mpr ⟨fun _ => ?_, fun h => absurd (by omega) (of_decide_eq_false h)⟩⟩
        refine ⟨⟨⟨by omega, by omega⟩, rfl⟩, ⟨hlen, hpart⟩, ⟨⟨by omega, by omega⟩, rfl⟩, fun h => ?_, fun hA => ⟨h77, rfl, fun h => ?_, fun hB => ?_⟩⟩
        · rw [hw]; exact L1 h
        · rw [hw]; exact L2 h
        · refine ⟨⟨⟨by omega, by omega⟩, rfl⟩, ⟨rfl, trivial⟩, C74_ok _ _, rfl, lookC_J hq hσ.keys hi (by rw [hg]; rfl), by rw [hj]; exact hC (hlt hA), rfl, ?_⟩
          rw [hw]
          exact h1 hi σ2 hS (unt_mono fun j hj => hMo j (mark_mono σ i j hj)) (by rw [stp, goF_false (go hA hB) hg hr])
  · refine ⟨_, (b95n (q a) i n c (f a).at_ (f a).place (f a).lo (f a).hi f q (jobsU n f q) σ.T (encJ f q σ.M) [] o R).mpr ⟨fun h => absurd (of_decide_eq_true h) (by omega), fun _ => h3 hi⟩⟩
theorem loop95 (hn : n ≤ 7) (hq : ∀ i j, i < n → j < n → q i = q j → i = j) (hq7 : ∀ i, i < n → q i < 7) {k a : Nat} {σ : Ms} (ha : a < n) (hσ : MsOK n σ) (hu : unt q n σ < k + 1)
    (ih : ∀ a σ, a < n → MsOK n σ → unt q n σ < k → ConWOK Try.prog 95 (C95 o n c f q a σ (matchF (canO o q) q n k a σ)))
    {T' : Tw} (hT' : [T95, R95][(outM o n c f q a n (matchF (canO o q) q n (k + 1) a σ)).2.1]? = some T') :
    LoopOW Try.prog none p95 T95 (stM o n c f q a 0 σ) (outM o n c f q a n (matchF (canO o q) q n (k + 1) a σ)).1 T' (outM o n c f q a n (matchF (canO o q) q n (k + 1) a σ)).2.2 := by
  refine loop_vcW (Ts := [T95, R95]) (k := 8) (X := Nat × Ms) (inv := fun x => x.1 ≤ n ∧ MsOK n x.2 ∧ unt q n x.2 < k + 1) (μ := fun x => n - x.1) (st := fun x => (0, stM o n c f q a x.1 x.2))
    (out := fun x => outM o n c f q a n (goF (canO o q) q (matchF (canO o q) q n k) a (n - x.1) x.1 x.2)) rfl vx_sound ?_ (by rw [nglob]; omega) (fun x hx => ?_) (x := (0, σ)) ⟨Nat.zero_le n, hσ, hu⟩ rfl (Nat.le_of_ble_eq_true rfl) (by decide) hT'
  · intro T hT
    simp only [List.mem_cons, List.not_mem_nil, or_false] at hT
    rcases hT with rfl | rfl <;> rfl
  · obtain ⟨i, σ⟩ := x
    obtain ⟨hi, hσ, hu⟩ := hx
    obtain ⟨hs, hr⟩ := round95 (o := o) (c := c) (f := f) (i := i) hn hq hq7 ha hσ hu ih (R := RoundW (fun x : Nat × Ms => x.1 ≤ n ∧ MsOK n x.2 ∧ unt q n x.2 < k + 1) (fun x => n - x.1) (fun x => (0, stM o n c f q a x.1 x.2)) (fun x => outM o n c f q a n (goF (canO o q) q (matchF (canO o q) q n k) a (n - x.1) x.1 x.2)) (i, σ))
      (fun hlt σ' h1 h2 h3 => ⟨⟨clM a _ _, trivial⟩, .inl ⟨rfl, (i + 1, σ'), ⟨hlt, h1, Nat.lt_of_le_of_lt h2 hu⟩, by show n - (i + 1) < n - i; omega, rfl, by show outM o n c f q a n (goF (canO o q) q (matchF (canO o q) q n k) a (n - (i + 1)) (i + 1) σ') = outM o n c f q a n (goF (canO o q) q (matchF (canO o q) q n k) a (n - i) i σ); rw [h3]⟩⟩)
      (fun hlt σ' h1 => ⟨⟨clMR _ _, trivial⟩, .inr ⟨by simp, by show outM o n c f q a n (goF (canO o q) q (matchF (canO o q) q n k) a (n - i) i σ) = _; rw [h1]; rfl⟩⟩)
      (fun hge => ⟨⟨clM a _ _, trivial⟩, .inr ⟨by simp, by
        have e : i = n := by have h9 : i ≤ n := hi; omega
        subst e
        show outM o i c f q a i (goF (canO o q) q (matchF (canO o q) q i k) a (i - i) i σ) = _
        rw [Nat.sub_self]
        rfl⟩⟩)
    exact ⟨T95, hs, rfl, hr⟩
theorem C95_ok (hn : n ≤ 7) (hq : ∀ i j, i < n → j < n → q i = q j → i = j) (hq7 : ∀ i, i < n → q i < 7) (k : Nat) : ∀ a σ, a < n → MsOK n σ → unt q n σ < k → ConWOK Try.prog 95 (C95 o n c f q a σ (matchF (canO o q) q n k a σ)) := by
  induction k with
  | zero => intro a σ _ _ h; omega
  | succ k ih =>
    intro a σ ha hσ hu
    have hl := fun T' => loop95 (T' := T') (o := o) (c := c) (f := f) hn hq hq7 ha hσ hu ih
    refine conW_of vx_sound (callable 95 _ _ rfl rfl) (fun x hx => ?_) (fun x _ => ⟨rfl, fun b hb => ?_⟩) (fun x hx => ?_) (Nat.le_of_ble_eq_true rfl) (by rw [nglob]; exact Nat.zero_le _)
    · cases hx
      generalize matchF (canO o q) q n (k + 1) a σ = r at hl
      obtain ⟨b, σ'⟩ := r
      cases b with
      | true => exact ⟨_, (f95t (q a) n c (f a).at_ (f a).place (f a).lo (f a).hi (jobsU n f q) σ.T σ'.T (encJ f q σ.M) (encJ f q σ'.M) o _).mpr ⟨clM a 0 σ, hl R95 rfl, rfl, rfl⟩⟩
      | false => exact ⟨_, (f95f (q a) n c (f a).at_ (f a).place (f a).lo (f a).hi (jobsU n f q) σ.T σ'.T (encJ f q σ.M) (encJ f q σ'.M) o _).mpr ⟨clM a 0 σ, hl T95 rfl, rfl, rfl⟩⟩
    · simp only [C95, CW95, List.mem_cons, List.not_mem_nil, or_false] at hb
      rcases hb with rfl | rfl
      · intro v hv
        simp only [List.mem_cons, List.not_mem_nil, or_false] at hv
        subst hv; rfl
      · exact encJ_cl _
    · cases hx
      refine ⟨fun cs hcs v hv => ?_, fun es hes e he => ?_⟩
      · simp only [List.mem_cons, List.not_mem_nil, or_false] at hcs
        rcases hcs with rfl | rfl
        · simp only [List.mem_cons, List.not_mem_nil, or_false] at hv; subst hv; rfl
        · exact jobsU_at n f q v hv
      · simp only [List.mem_cons, List.not_mem_nil, or_false] at hes
        subst hes
        exact encJ_cl σ.M e he
end
end Go.Ab
