/- package surf: the look whether a surf is valid, of any surf. -/
import Derived.Test.YtoelpblmhmhglaaDoorNJ
import Derived.Test.YtoelpblmhmhglaaDoorNF
set_option maxRecDepth 100000
namespace Go.Ab
open Go Go.RowKit Go.Proofs
theorem fwi (x a b : Int) (R : ARes → Prop) : (vx.call 56 [I x, I a, I b] (retK R) m2d ([(4, .split ([(3, .split ([]) ([]))]) ([]))])) =
((((decide (a ≤ x)) = true → (((decide (x ≤ b)) = true → R (.ret (.bool true))) ∧
((decide (x ≤ b)) = false → R (.ret (.bool false))))) ∧
((decide (a ≤ x)) = false → R (.ret (.bool false))))) := by kernel_rfl
theorem fna (lo hi most : Int) (b1 b2 b3 : Bool) (R : ARes → Prop) : (vx.call 95 [.agg ⟨[I lo, I hi]⟩, I most] (retK R) m2d ((6, .con (CWI lo 0 most b1)) :: [(0, .split ((3, .con (CWI hi 0 most b2)) :: [(0, .split ((6, .con (CWI (IntKind.i64.wrap (hi - lo)) 0 3 b3)) :: [(0, .split ([]) ([]))]) ([]))]) ([]))])) =
(((ConOK Tryd.prog 56 (CWI lo 0 most b1)) ∧ (Con.pre (CWI lo 0 most b1) ⟨⟨[(I lo), (I 0), (I most)], []⟩, []⟩) ∧
(((b1) = true → ((ConOK Tryd.prog 56 (CWI hi 0 most b2)) ∧ (Con.pre (CWI hi 0 most b2) ⟨⟨[(I hi), (I 0), (I most)], []⟩, []⟩) ∧
(((b2) = true → ((ConOK Tryd.prog 56 (CWI (IntKind.i64.wrap (hi - lo)) 0 3 b3)) ∧ (Con.pre (CWI (IntKind.i64.wrap (hi - lo)) 0 3 b3) ⟨⟨[(I (IntKind.i64.wrap (hi - lo))), (I 0), (I 3)], []⟩, []⟩) ∧
(((b3) = true → R (.ret (.bool true))) ∧
((b3) = false → R (.ret (.bool false)))))) ∧
((b2) = false → R (.ret (.bool false)))))) ∧
((b1) = false → R (.ret (.bool false)))))) := by kernel_rfl
theorem b79aR (rw st : Int) (n cw n2 cv m cu : Nat) (i : Nat) (bw bv : Bool) (w v : Nat → Sp) (u : Nat → Raw) (R : Nat → AExit → Hw → Prop) : (vx.code none (.l p79a) (leafW [T79a, R79] R) (T79a.inst (h79aR rw st n cw n2 cv m cu (spL n w) (spL n2 v) (raL m u) i)) ([(0, .split ((6, .val (.pointer (some ⟨2, 0 + i * 2, none⟩))) :: (0, .val (.agg ⟨[(I ((w i).lo)), (I ((w i).hi))]⟩)) :: (0, .con (CNA (w i).lo (w i).hi 30 bw)) :: [(0, .split ([(4, .tm 1 [])]) ((4, .val (.pointer (some ⟨3, 0 + i * 2, none⟩))) :: (0, .val (.agg ⟨[(I ((v i).lo)), (I ((v i).hi))]⟩)) :: (0, .con (CNA (v i).lo (v i).hi 10 bv)) :: [(0, .split ([(3, .tm 1 [])]) ([(4, .tm 0 [])]))]))]) ([(1, .tm 0 [])]))])) =
((((decide ((i : Int) < n)) = true → ((((((0 : Int) ≤ i)) ∧ (((i : Int) < n))) ∧ (((.pointer (some ⟨2, 0 + i * 2, none⟩)) : Value) = (.pointer (some ⟨2, 0 + i * 2, none⟩)))) ∧
((((0 + i * 2 + 2 ≤ (spL n w).length)) ∧ (((.agg ⟨[(I ((w i).lo)), (I ((w i).hi))]⟩) : Value) = (.agg ⟨(List.take 2 (List.drop (0 + i * 2) (spL n w)))⟩))) ∧
((ConOK Tryd.prog 95 (CNA (w i).lo (w i).hi 30 bw)) ∧ (Con.pre (CNA (w i).lo (w i).hi 30 bw) ⟨⟨[(I ((w i).lo)), (I ((w i).hi)), (I 30)], []⟩, []⟩) ∧
(((!bw) = true → R 1 .ret ⟨⟨[(.bool false)], []⟩, [], []⟩) ∧
((!bw) = false → ((((((0 : Int) ≤ i)) ∧ (((i : Int) < n2))) ∧ (((.pointer (some ⟨3, 0 + i * 2, none⟩)) : Value) = (.pointer (some ⟨3, 0 + i * 2, none⟩)))) ∧
((((0 + i * 2 + 2 ≤ (spL n2 v).length)) ∧ (((.agg ⟨[(I ((v i).lo)), (I ((v i).hi))]⟩) : Value) = (.agg ⟨(List.take 2 (List.drop (0 + i * 2) (spL n2 v)))⟩))) ∧
((ConOK Tryd.prog 95 (CNA (v i).lo (v i).hi 10 bv)) ∧ (Con.pre (CNA (v i).lo (v i).hi 10 bv) ⟨⟨[(I ((v i).lo)), (I ((v i).hi)), (I 10)], []⟩, []⟩) ∧
(((!bv) = true → R 1 .ret ⟨⟨[(.bool false)], []⟩, [], []⟩) ∧
((!bv) = false → R 0 .normal ⟨⟨[(I n), (I (IntKind.i64.wrap ((i : Int) + (1 : Int)))), (I rw), (I st)], [⟨n, cw⟩, ⟨n2, cv⟩, ⟨m, cu⟩]⟩, [(spL n w), (spL n2 v), (raL m u)], []⟩))))))))))) ∧
((decide ((i : Int) < n)) = false → R 0 (.exit 0) ⟨⟨[(I n), (I i), (I rw), (I st)], [⟨n, cw⟩, ⟨n2, cv⟩, ⟨m, cu⟩]⟩, [(spL n w), (spL n2 v), (raL m u)], []⟩))) := by kernel_rfl
theorem b79bR (rw st : Int) (n cw n2 cv m cu : Nat) (i : Nat) (b1 b2 b3 : Bool) (w v : Nat → Sp) (u : Nat → Raw) (R : Nat → AExit → Hw → Prop) : (vx.code none (.l p79b) (leafW [T79b, R79] R) (T79b.inst (h79bR rw st n cw n2 cv m cu (spL n w) (spL n2 v) (raL m u) i)) ([(0, .split ((1, .val (.pointer (some ⟨4, 0 + i * 3, none⟩))) :: (0, .val (.agg ⟨[(I ((u i).fl)), (I ((u i).br)), (I ((u i).row))]⟩)) :: (4, .con (CWI (u i).fl 0 40 b1)) :: [(0, .split ([(6, .tm 1 [])]) ((3, .con (CWI (u i).br 0 10 b2)) :: [(0, .split ([(5, .tm 1 [])]) ((7, .con (CWI (u i).row 0 (IntKind.i64.wrap (rw - 1)) b3)) :: [(0, .split ([(3, .tm 1 [])]) ([(4, .tm 0 [])]))]))]))]) ([(1, .tm 0 [])]))])) =
((((decide ((i : Int) < m)) = true → ((((((0 : Int) ≤ i)) ∧ (((i : Int) < m))) ∧ (((.pointer (some ⟨4, 0 + i * 3, none⟩)) : Value) = (.pointer (some ⟨4, 0 + i * 3, none⟩)))) ∧
((((0 + i * 3 + 3 ≤ (raL m u).length)) ∧ (((.agg ⟨[(I ((u i).fl)), (I ((u i).br)), (I ((u i).row))]⟩) : Value) = (.agg ⟨(List.take 3 (List.drop (0 + i * 3) (raL m u)))⟩))) ∧
((ConOK Tryd.prog 56 (CWI (u i).fl 0 40 b1)) ∧ (Con.pre (CWI (u i).fl 0 40 b1) ⟨⟨[(I ((u i).fl)), (I 0), (I 40)], []⟩, []⟩) ∧
(((!b1) = true → R 1 .ret ⟨⟨[(.bool false)], []⟩, [], []⟩) ∧
((!b1) = false → ((ConOK Tryd.prog 56 (CWI (u i).br 0 10 b2)) ∧ (Con.pre (CWI (u i).br 0 10 b2) ⟨⟨[(I ((u i).br)), (I 0), (I 10)], []⟩, []⟩) ∧
(((!b2) = true → R 1 .ret ⟨⟨[(.bool false)], []⟩, [], []⟩) ∧
((!b2) = false → ((ConOK Tryd.prog 56 (CWI (u i).row 0 (IntKind.i64.wrap (rw - 1)) b3)) ∧ (Con.pre (CWI (u i).row 0 (IntKind.i64.wrap (rw - 1)) b3) ⟨⟨[(I ((u i).row)), (I 0), (I (IntKind.i64.wrap (rw - (1 : Int))))], []⟩, []⟩) ∧
(((!b3) = true → R 1 .ret ⟨⟨[(.bool false)], []⟩, [], []⟩) ∧
((!b3) = false → R 0 .normal ⟨⟨[(I m), (I (IntKind.i64.wrap ((i : Int) + (1 : Int)))), (I rw), (I st)], [⟨m, cu⟩, ⟨n, cw⟩, ⟨n2, cv⟩, ⟨m, cu⟩]⟩, [(spL n w), (spL n2 v), (raL m u)], []⟩)))))))))))) ∧
((decide ((i : Int) < m)) = false → R 0 (.exit 2) ⟨⟨[(I m), (I i), (I rw), (I st)], [⟨m, cu⟩, ⟨n, cw⟩, ⟨n2, cv⟩, ⟨m, cu⟩]⟩, [(spL n w), (spL n2 v), (raL m u)], []⟩))) := by kernel_rfl
theorem f79tR (rw st : Int) (n cw n2 cv m cu : Nat) (b1 b2 : Bool) (w v : Nat → Sp) (u : Nat → Raw) (R : ARes → Prop) : (vx.call 79 [suR rw st n cw n2 cv m cu] (retK R) (mSd (spL n w) (spL n2 v) (raL m u)) ((5, .con (CWI rw 1 6 b1)) :: [(0, .split ([]) ((3, .con (CWI st 0 4 b2)) :: [(0, .split ([]) ([(5, .split ([]) ([(7, .split ([]) ([(5, .split ([]) ((6, .loopW T79a (.exit 0) T79a fun x => h79aR rw st n cw n2 cv m cu (spL n w) (spL n2 v) (raL m u) n) :: (4, .loopW T79b (.exit 2) T79b fun x => h79bR rw st n cw n2 cv m cu (spL n w) (spL n2 v) (raL m u) m) :: []))]))]))]))]))])) =
(((ConOK Tryd.prog 56 (CWI rw 1 6 b1)) ∧ (Con.pre (CWI rw 1 6 b1) ⟨⟨[(I rw), (I 1), (I 6)], []⟩, []⟩) ∧
(((!b1) = true → R (.ret (.bool false))) ∧
((!b1) = false → ((ConOK Tryd.prog 56 (CWI st 0 4 b2)) ∧ (Con.pre (CWI st 0 4 b2) ⟨⟨[(I st), (I 0), (I 4)], []⟩, []⟩) ∧
(((!b2) = true → R (.ret (.bool false))) ∧
((!b2) = false → (((decide ((n : Int) > 8)) = true → R (.ret (.bool false))) ∧
((decide ((n : Int) > 8)) = false → ((((n2 : Int) != n) = true → R (.ret (.bool false))) ∧
(((n2 : Int) != n) = false → (((decide ((m : Int) > 5)) = true → R (.ret (.bool false))) ∧
((decide ((m : Int) > 5)) = false → ((ClW ⟨⟨[(I n), (I 0), (I rw), (I st)], [⟨n, cw⟩, ⟨n2, cv⟩, ⟨m, cu⟩]⟩, [(spL n w), (spL n2 v), (raL m u)], []⟩) ∧ (LoopOW Tryd.prog .none p79a (T79a) ⟨⟨[(I n), (I 0), (I rw), (I st)], [⟨n, cw⟩, ⟨n2, cv⟩, ⟨m, cu⟩]⟩, [(spL n w), (spL n2 v), (raL m u)], []⟩ (.exit 0) (T79a) ⟨⟨[(I n), (I n), (I rw), (I st)], [⟨n, cw⟩, ⟨n2, cv⟩, ⟨m, cu⟩]⟩, [(spL n w), (spL n2 v), (raL m u)], []⟩) ∧
((ClW ⟨⟨[(I m), (I 0), (I rw), (I st)], [⟨m, cu⟩, ⟨n, cw⟩, ⟨n2, cv⟩, ⟨m, cu⟩]⟩, [(spL n w), (spL n2 v), (raL m u)], []⟩) ∧ (LoopOW Tryd.prog .none p79b (T79b) ⟨⟨[(I m), (I 0), (I rw), (I st)], [⟨m, cu⟩, ⟨n, cw⟩, ⟨n2, cv⟩, ⟨m, cu⟩]⟩, [(spL n w), (spL n2 v), (raL m u)], []⟩ (.exit 2) (T79b) ⟨⟨[(I m), (I m), (I rw), (I st)], [⟨m, cu⟩, ⟨n, cw⟩, ⟨n2, cv⟩, ⟨m, cu⟩]⟩, [(spL n w), (spL n2 v), (raL m u)], []⟩) ∧
R (.ret (.bool true))))))))))))))))) := by kernel_rfl
theorem f79uR (rw st : Int) (n cw n2 cv m cu : Nat) (b1 b2 : Bool) (w v : Nat → Sp) (u : Nat → Raw) (R : ARes → Prop) : (vx.call 79 [suR rw st n cw n2 cv m cu] (retK R) (mSd (spL n w) (spL n2 v) (raL m u)) ((5, .con (CWI rw 1 6 b1)) :: [(0, .split ([]) ((3, .con (CWI st 0 4 b2)) :: [(0, .split ([]) ([(5, .split ([]) ([(7, .split ([]) ([(5, .split ([]) ((6, .loopW T79a (.exit 0) T79a fun x => h79aR rw st n cw n2 cv m cu (spL n w) (spL n2 v) (raL m u) n) :: (4, .loopW T79b AExit.ret R79 fun x => { hs := { vs := [Value.bool false], ns := [] }, ls := [], es := [] }) :: []))]))]))]))]))])) =
(((ConOK Tryd.prog 56 (CWI rw 1 6 b1)) ∧ (Con.pre (CWI rw 1 6 b1) ⟨⟨[(I rw), (I 1), (I 6)], []⟩, []⟩) ∧
(((!b1) = true → R (.ret (.bool false))) ∧
((!b1) = false → ((ConOK Tryd.prog 56 (CWI st 0 4 b2)) ∧ (Con.pre (CWI st 0 4 b2) ⟨⟨[(I st), (I 0), (I 4)], []⟩, []⟩) ∧
(((!b2) = true → R (.ret (.bool false))) ∧
((!b2) = false → (((decide ((n : Int) > 8)) = true → R (.ret (.bool false))) ∧
((decide ((n : Int) > 8)) = false → ((((n2 : Int) != n) = true → R (.ret (.bool false))) ∧
(((n2 : Int) != n) = false → (((decide ((m : Int) > 5)) = true → R (.ret (.bool false))) ∧
((decide ((m : Int) > 5)) = false → ((ClW ⟨⟨[(I n), (I 0), (I rw), (I st)], [⟨n, cw⟩, ⟨n2, cv⟩, ⟨m, cu⟩]⟩, [(spL n w), (spL n2 v), (raL m u)], []⟩) ∧ (LoopOW Tryd.prog .none p79a (T79a) ⟨⟨[(I n), (I 0), (I rw), (I st)], [⟨n, cw⟩, ⟨n2, cv⟩, ⟨m, cu⟩]⟩, [(spL n w), (spL n2 v), (raL m u)], []⟩ (.exit 0) (T79a) ⟨⟨[(I n), (I n), (I rw), (I st)], [⟨n, cw⟩, ⟨n2, cv⟩, ⟨m, cu⟩]⟩, [(spL n w), (spL n2 v), (raL m u)], []⟩) ∧
((ClW ⟨⟨[(I m), (I 0), (I rw), (I st)], [⟨m, cu⟩, ⟨n, cw⟩, ⟨n2, cv⟩, ⟨m, cu⟩]⟩, [(spL n w), (spL n2 v), (raL m u)], []⟩) ∧ (LoopOW Tryd.prog .none p79b (T79b) ⟨⟨[(I m), (I 0), (I rw), (I st)], [⟨m, cu⟩, ⟨n, cw⟩, ⟨n2, cv⟩, ⟨m, cu⟩]⟩, [(spL n w), (spL n2 v), (raL m u)], []⟩ .ret (R79) ⟨⟨[(.bool false)], []⟩, [], []⟩) ∧
R (.ret (.bool false))))))))))))))))) := by kernel_rfl
theorem f79fR (rw st : Int) (n cw n2 cv m cu : Nat) (b1 b2 : Bool) (w v : Nat → Sp) (u : Nat → Raw) (R : ARes → Prop) : (vx.call 79 [suR rw st n cw n2 cv m cu] (retK R) (mSd (spL n w) (spL n2 v) (raL m u)) ((5, .con (CWI rw 1 6 b1)) :: [(0, .split ([]) ((3, .con (CWI st 0 4 b2)) :: [(0, .split ([]) ([(5, .split ([]) ([(7, .split ([]) ([(5, .split ([]) ((6, .loopW T79a AExit.ret R79 fun x => { hs := { vs := [Value.bool false], ns := [] }, ls := [], es := [] }) :: []))]))]))]))]))])) =
(((ConOK Tryd.prog 56 (CWI rw 1 6 b1)) ∧ (Con.pre (CWI rw 1 6 b1) ⟨⟨[(I rw), (I 1), (I 6)], []⟩, []⟩) ∧
(((!b1) = true → R (.ret (.bool false))) ∧
((!b1) = false → ((ConOK Tryd.prog 56 (CWI st 0 4 b2)) ∧ (Con.pre (CWI st 0 4 b2) ⟨⟨[(I st), (I 0), (I 4)], []⟩, []⟩) ∧
(((!b2) = true → R (.ret (.bool false))) ∧
((!b2) = false → (((decide ((n : Int) > 8)) = true → R (.ret (.bool false))) ∧
((decide ((n : Int) > 8)) = false → ((((n2 : Int) != n) = true → R (.ret (.bool false))) ∧
(((n2 : Int) != n) = false → (((decide ((m : Int) > 5)) = true → R (.ret (.bool false))) ∧
((decide ((m : Int) > 5)) = false → ((ClW ⟨⟨[(I n), (I 0), (I rw), (I st)], [⟨n, cw⟩, ⟨n2, cv⟩, ⟨m, cu⟩]⟩, [(spL n w), (spL n2 v), (raL m u)], []⟩) ∧ (LoopOW Tryd.prog .none p79a (T79a) ⟨⟨[(I n), (I 0), (I rw), (I st)], [⟨n, cw⟩, ⟨n2, cv⟩, ⟨m, cu⟩]⟩, [(spL n w), (spL n2 v), (raL m u)], []⟩ .ret (R79) ⟨⟨[(.bool false)], []⟩, [], []⟩) ∧
R (.ret (.bool false)))))))))))))))) := by kernel_rfl
theorem b79bnR (rw st : Int) (c1 m cu : Nat) (i : Nat) (b1 b2 b3 : Bool) (u : Nat → Raw) (R : Nat → AExit → Hw → Prop) : (vx.code none (.l p79b) (leafW [T79bn, R79] R) (T79bn.inst (h79n rw st c1 m cu (raL m u) i)) ([(0, .split ((1, .val (.pointer (some ⟨4, 0 + i * 3, none⟩))) :: (0, .val (.agg ⟨[(I ((u i).fl)), (I ((u i).br)), (I ((u i).row))]⟩)) :: (4, .con (CWI (u i).fl 0 40 b1)) :: [(0, .split ([(6, .tm 1 [])]) ((3, .con (CWI (u i).br 0 10 b2)) :: [(0, .split ([(5, .tm 1 [])]) ((7, .con (CWI (u i).row 0 (IntKind.i64.wrap (rw - 1)) b3)) :: [(0, .split ([(3, .tm 1 [])]) ([(4, .tm 0 [])]))]))]))]) ([(1, .tm 0 [])]))])) =
((((decide ((i : Int) < m)) = true → ((((((0 : Int) ≤ i)) ∧ (((i : Int) < m))) ∧ (((.pointer (some ⟨4, 0 + i * 3, none⟩)) : Value) = (.pointer (some ⟨4, 0 + i * 3, none⟩)))) ∧
((((0 + i * 3 + 3 ≤ (raL m u).length)) ∧ (((.agg ⟨[(I ((u i).fl)), (I ((u i).br)), (I ((u i).row))]⟩) : Value) = (.agg ⟨(List.take 3 (List.drop (0 + i * 3) (raL m u)))⟩))) ∧
((ConOK Tryd.prog 56 (CWI (u i).fl 0 40 b1)) ∧ (Con.pre (CWI (u i).fl 0 40 b1) ⟨⟨[(I ((u i).fl)), (I 0), (I 40)], []⟩, []⟩) ∧
(((!b1) = true → R 1 .ret ⟨⟨[(.bool false)], []⟩, [], []⟩) ∧
((!b1) = false → ((ConOK Tryd.prog 56 (CWI (u i).br 0 10 b2)) ∧ (Con.pre (CWI (u i).br 0 10 b2) ⟨⟨[(I ((u i).br)), (I 0), (I 10)], []⟩, []⟩) ∧
(((!b2) = true → R 1 .ret ⟨⟨[(.bool false)], []⟩, [], []⟩) ∧
((!b2) = false → ((ConOK Tryd.prog 56 (CWI (u i).row 0 (IntKind.i64.wrap (rw - 1)) b3)) ∧ (Con.pre (CWI (u i).row 0 (IntKind.i64.wrap (rw - 1)) b3) ⟨⟨[(I ((u i).row)), (I 0), (I (IntKind.i64.wrap (rw - (1 : Int))))], []⟩, []⟩) ∧
(((!b3) = true → R 1 .ret ⟨⟨[(.bool false)], []⟩, [], []⟩) ∧
((!b3) = false → R 0 .normal ⟨⟨[(I m), (I (IntKind.i64.wrap ((i : Int) + (1 : Int)))), (I rw), (I st)], [⟨m, cu⟩, ⟨m, cu⟩]⟩, [(raL m u)], []⟩)))))))))))) ∧
((decide ((i : Int) < m)) = false → R 0 (.exit 2) ⟨⟨[(I m), (I i), (I rw), (I st)], [⟨m, cu⟩, ⟨m, cu⟩]⟩, [(raL m u)], []⟩))) := by kernel_rfl
theorem f79tnR (rw st : Int) (c1 m cu : Nat) (b1 b2 : Bool) (u : Nat → Raw) (R : ARes → Prop) : (vx.call 79 [su_n rw st c1 m cu] (retK R) (mH (raL m u)) ((5, .con (CWI rw 1 6 b1)) :: [(0, .split ([]) ((3, .con (CWI st 0 4 b2)) :: [(0, .split ([]) ([(19, .split ([]) ((13, .loopW T79bn (.exit 2) T79bn fun x => h79n rw st c1 m cu (raL m u) m) :: []))]))]))])) =
(((ConOK Tryd.prog 56 (CWI rw 1 6 b1)) ∧ (Con.pre (CWI rw 1 6 b1) ⟨⟨[(I rw), (I 1), (I 6)], []⟩, []⟩) ∧
(((!b1) = true → R (.ret (.bool false))) ∧
((!b1) = false → ((ConOK Tryd.prog 56 (CWI st 0 4 b2)) ∧ (Con.pre (CWI st 0 4 b2) ⟨⟨[(I st), (I 0), (I 4)], []⟩, []⟩) ∧
(((!b2) = true → R (.ret (.bool false))) ∧
((!b2) = false → (((decide ((m : Int) > 5)) = true → R (.ret (.bool false))) ∧
((decide ((m : Int) > 5)) = false → ((ClW ⟨⟨[(I m), (I 0), (I rw), (I st)], [⟨m, cu⟩, ⟨m, cu⟩]⟩, [(raL m u)], []⟩) ∧ (LoopOW Tryd.prog .none p79b (T79bn) ⟨⟨[(I m), (I 0), (I rw), (I st)], [⟨m, cu⟩, ⟨m, cu⟩]⟩, [(raL m u)], []⟩ (.exit 2) (T79bn) ⟨⟨[(I m), (I m), (I rw), (I st)], [⟨m, cu⟩, ⟨m, cu⟩]⟩, [(raL m u)], []⟩) ∧
R (.ret (.bool true)))))))))))) := by kernel_rfl
theorem f79unR (rw st : Int) (c1 m cu : Nat) (b1 b2 : Bool) (u : Nat → Raw) (R : ARes → Prop) : (vx.call 79 [su_n rw st c1 m cu] (retK R) (mH (raL m u)) ((5, .con (CWI rw 1 6 b1)) :: [(0, .split ([]) ((3, .con (CWI st 0 4 b2)) :: [(0, .split ([]) ([(19, .split ([]) ((13, .loopW T79bn AExit.ret R79 fun x => { hs := { vs := [Value.bool false], ns := [] }, ls := [], es := [] }) :: []))]))]))])) =
(((ConOK Tryd.prog 56 (CWI rw 1 6 b1)) ∧ (Con.pre (CWI rw 1 6 b1) ⟨⟨[(I rw), (I 1), (I 6)], []⟩, []⟩) ∧
(((!b1) = true → R (.ret (.bool false))) ∧
((!b1) = false → ((ConOK Tryd.prog 56 (CWI st 0 4 b2)) ∧ (Con.pre (CWI st 0 4 b2) ⟨⟨[(I st), (I 0), (I 4)], []⟩, []⟩) ∧
(((!b2) = true → R (.ret (.bool false))) ∧
((!b2) = false → (((decide ((m : Int) > 5)) = true → R (.ret (.bool false))) ∧
((decide ((m : Int) > 5)) = false → ((ClW ⟨⟨[(I m), (I 0), (I rw), (I st)], [⟨m, cu⟩, ⟨m, cu⟩]⟩, [(raL m u)], []⟩) ∧ (LoopOW Tryd.prog .none p79b (T79bn) ⟨⟨[(I m), (I 0), (I rw), (I st)], [⟨m, cu⟩, ⟨m, cu⟩]⟩, [(raL m u)], []⟩ .ret (R79) ⟨⟨[(.bool false)], []⟩, [], []⟩) ∧
R (.ret (.bool false)))))))))))) := by kernel_rfl
theorem b79bvR (rw st : Int) (c1 m cu : Nat) (i : Nat) (b1 b2 b3 : Bool) (u : Nat → Raw) (R : Nat → AExit → Hw → Prop) : (vx.code none (.l p79b) (leafW [T79bv, R79] R) (T79bv.inst (h79v rw st c1 m cu (raL m u) i)) ([(0, .split ((1, .val (.pointer (some ⟨4, 0 + i * 3, none⟩))) :: (0, .val (.agg ⟨[(I ((u i).fl)), (I ((u i).br)), (I ((u i).row))]⟩)) :: (4, .con (CWI (u i).fl 0 40 b1)) :: [(0, .split ([(6, .tm 1 [])]) ((3, .con (CWI (u i).br 0 10 b2)) :: [(0, .split ([(5, .tm 1 [])]) ((7, .con (CWI (u i).row 0 (IntKind.i64.wrap (rw - 1)) b3)) :: [(0, .split ([(3, .tm 1 [])]) ([(4, .tm 0 [])]))]))]))]) ([(1, .tm 0 [])]))])) =
((((decide ((i : Int) < m)) = true → ((((((0 : Int) ≤ i)) ∧ (((i : Int) < m))) ∧ (((.pointer (some ⟨4, 0 + i * 3, none⟩)) : Value) = (.pointer (some ⟨4, 0 + i * 3, none⟩)))) ∧
((((0 + i * 3 + 3 ≤ (raL m u).length)) ∧ (((.agg ⟨[(I ((u i).fl)), (I ((u i).br)), (I ((u i).row))]⟩) : Value) = (.agg ⟨(List.take 3 (List.drop (0 + i * 3) (raL m u)))⟩))) ∧
((ConOK Tryd.prog 56 (CWI (u i).fl 0 40 b1)) ∧ (Con.pre (CWI (u i).fl 0 40 b1) ⟨⟨[(I ((u i).fl)), (I 0), (I 40)], []⟩, []⟩) ∧
(((!b1) = true → R 1 .ret ⟨⟨[(.bool false)], []⟩, [], []⟩) ∧
((!b1) = false → ((ConOK Tryd.prog 56 (CWI (u i).br 0 10 b2)) ∧ (Con.pre (CWI (u i).br 0 10 b2) ⟨⟨[(I ((u i).br)), (I 0), (I 10)], []⟩, []⟩) ∧
(((!b2) = true → R 1 .ret ⟨⟨[(.bool false)], []⟩, [], []⟩) ∧
((!b2) = false → ((ConOK Tryd.prog 56 (CWI (u i).row 0 (IntKind.i64.wrap (rw - 1)) b3)) ∧ (Con.pre (CWI (u i).row 0 (IntKind.i64.wrap (rw - 1)) b3) ⟨⟨[(I ((u i).row)), (I 0), (I (IntKind.i64.wrap (rw - (1 : Int))))], []⟩, []⟩) ∧
(((!b3) = true → R 1 .ret ⟨⟨[(.bool false)], []⟩, [], []⟩) ∧
((!b3) = false → R 0 .normal ⟨⟨[(I m), (I (IntKind.i64.wrap ((i : Int) + (1 : Int)))), (I rw), (I st)], [⟨m, cu⟩, ⟨0, c1⟩, ⟨m, cu⟩]⟩, [(raL m u)], []⟩)))))))))))) ∧
((decide ((i : Int) < m)) = false → R 0 (.exit 2) ⟨⟨[(I m), (I i), (I rw), (I st)], [⟨m, cu⟩, ⟨0, c1⟩, ⟨m, cu⟩]⟩, [(raL m u)], []⟩))) := by kernel_rfl
theorem f79tvR (rw st : Int) (c1 m cu : Nat) (b1 b2 : Bool) (u : Nat → Raw) (R : ARes → Prop) : (vx.call 79 [su_v rw st c1 m cu] (retK R) (mH (raL m u)) ((5, .con (CWI rw 1 6 b1)) :: [(0, .split ([]) ((3, .con (CWI st 0 4 b2)) :: [(0, .split ([]) ([(19, .split ([]) ((13, .loopW T79bv (.exit 2) T79bv fun x => h79v rw st c1 m cu (raL m u) m) :: []))]))]))])) =
(((ConOK Tryd.prog 56 (CWI rw 1 6 b1)) ∧ (Con.pre (CWI rw 1 6 b1) ⟨⟨[(I rw), (I 1), (I 6)], []⟩, []⟩) ∧
(((!b1) = true → R (.ret (.bool false))) ∧
((!b1) = false → ((ConOK Tryd.prog 56 (CWI st 0 4 b2)) ∧ (Con.pre (CWI st 0 4 b2) ⟨⟨[(I st), (I 0), (I 4)], []⟩, []⟩) ∧
(((!b2) = true → R (.ret (.bool false))) ∧
((!b2) = false → (((decide ((m : Int) > 5)) = true → R (.ret (.bool false))) ∧
((decide ((m : Int) > 5)) = false → ((ClW ⟨⟨[(I m), (I 0), (I rw), (I st)], [⟨m, cu⟩, ⟨0, c1⟩, ⟨m, cu⟩]⟩, [(raL m u)], []⟩) ∧ (LoopOW Tryd.prog .none p79b (T79bv) ⟨⟨[(I m), (I 0), (I rw), (I st)], [⟨m, cu⟩, ⟨0, c1⟩, ⟨m, cu⟩]⟩, [(raL m u)], []⟩ (.exit 2) (T79bv) ⟨⟨[(I m), (I m), (I rw), (I st)], [⟨m, cu⟩, ⟨0, c1⟩, ⟨m, cu⟩]⟩, [(raL m u)], []⟩) ∧
R (.ret (.bool true)))))))))))) := by kernel_rfl
theorem f79uvR (rw st : Int) (c1 m cu : Nat) (b1 b2 : Bool) (u : Nat → Raw) (R : ARes → Prop) : (vx.call 79 [su_v rw st c1 m cu] (retK R) (mH (raL m u)) ((5, .con (CWI rw 1 6 b1)) :: [(0, .split ([]) ((3, .con (CWI st 0 4 b2)) :: [(0, .split ([]) ([(19, .split ([]) ((13, .loopW T79bv AExit.ret R79 fun x => { hs := { vs := [Value.bool false], ns := [] }, ls := [], es := [] }) :: []))]))]))])) =
(((ConOK Tryd.prog 56 (CWI rw 1 6 b1)) ∧ (Con.pre (CWI rw 1 6 b1) ⟨⟨[(I rw), (I 1), (I 6)], []⟩, []⟩) ∧
(((!b1) = true → R (.ret (.bool false))) ∧
((!b1) = false → ((ConOK Tryd.prog 56 (CWI st 0 4 b2)) ∧ (Con.pre (CWI st 0 4 b2) ⟨⟨[(I st), (I 0), (I 4)], []⟩, []⟩) ∧
(((!b2) = true → R (.ret (.bool false))) ∧
((!b2) = false → (((decide ((m : Int) > 5)) = true → R (.ret (.bool false))) ∧
((decide ((m : Int) > 5)) = false → ((ClW ⟨⟨[(I m), (I 0), (I rw), (I st)], [⟨m, cu⟩, ⟨0, c1⟩, ⟨m, cu⟩]⟩, [(raL m u)], []⟩) ∧ (LoopOW Tryd.prog .none p79b (T79bv) ⟨⟨[(I m), (I 0), (I rw), (I st)], [⟨m, cu⟩, ⟨0, c1⟩, ⟨m, cu⟩]⟩, [(raL m u)], []⟩ .ret (R79) ⟨⟨[(.bool false)], []⟩, [], []⟩) ∧
R (.ret (.bool false)))))))))))) := by kernel_rfl
theorem b79bwR (rw st : Int) (c1 m cu : Nat) (i : Nat) (b1 b2 b3 : Bool) (u : Nat → Raw) (R : Nat → AExit → Hw → Prop) : (vx.code none (.l p79b) (leafW [T79bw, R79] R) (T79bw.inst (h79w rw st c1 m cu (raL m u) i)) ([(0, .split ((1, .val (.pointer (some ⟨4, 0 + i * 3, none⟩))) :: (0, .val (.agg ⟨[(I ((u i).fl)), (I ((u i).br)), (I ((u i).row))]⟩)) :: (4, .con (CWI (u i).fl 0 40 b1)) :: [(0, .split ([(6, .tm 1 [])]) ((3, .con (CWI (u i).br 0 10 b2)) :: [(0, .split ([(5, .tm 1 [])]) ((7, .con (CWI (u i).row 0 (IntKind.i64.wrap (rw - 1)) b3)) :: [(0, .split ([(3, .tm 1 [])]) ([(4, .tm 0 [])]))]))]))]) ([(1, .tm 0 [])]))])) =
((((decide ((i : Int) < m)) = true → ((((((0 : Int) ≤ i)) ∧ (((i : Int) < m))) ∧ (((.pointer (some ⟨4, 0 + i * 3, none⟩)) : Value) = (.pointer (some ⟨4, 0 + i * 3, none⟩)))) ∧
((((0 + i * 3 + 3 ≤ (raL m u).length)) ∧ (((.agg ⟨[(I ((u i).fl)), (I ((u i).br)), (I ((u i).row))]⟩) : Value) = (.agg ⟨(List.take 3 (List.drop (0 + i * 3) (raL m u)))⟩))) ∧
((ConOK Tryd.prog 56 (CWI (u i).fl 0 40 b1)) ∧ (Con.pre (CWI (u i).fl 0 40 b1) ⟨⟨[(I ((u i).fl)), (I 0), (I 40)], []⟩, []⟩) ∧
(((!b1) = true → R 1 .ret ⟨⟨[(.bool false)], []⟩, [], []⟩) ∧
((!b1) = false → ((ConOK Tryd.prog 56 (CWI (u i).br 0 10 b2)) ∧ (Con.pre (CWI (u i).br 0 10 b2) ⟨⟨[(I ((u i).br)), (I 0), (I 10)], []⟩, []⟩) ∧
(((!b2) = true → R 1 .ret ⟨⟨[(.bool false)], []⟩, [], []⟩) ∧
((!b2) = false → ((ConOK Tryd.prog 56 (CWI (u i).row 0 (IntKind.i64.wrap (rw - 1)) b3)) ∧ (Con.pre (CWI (u i).row 0 (IntKind.i64.wrap (rw - 1)) b3) ⟨⟨[(I ((u i).row)), (I 0), (I (IntKind.i64.wrap (rw - (1 : Int))))], []⟩, []⟩) ∧
(((!b3) = true → R 1 .ret ⟨⟨[(.bool false)], []⟩, [], []⟩) ∧
((!b3) = false → R 0 .normal ⟨⟨[(I m), (I (IntKind.i64.wrap ((i : Int) + (1 : Int)))), (I rw), (I st)], [⟨m, cu⟩, ⟨0, c1⟩, ⟨m, cu⟩]⟩, [(raL m u)], []⟩)))))))))))) ∧
((decide ((i : Int) < m)) = false → R 0 (.exit 2) ⟨⟨[(I m), (I i), (I rw), (I st)], [⟨m, cu⟩, ⟨0, c1⟩, ⟨m, cu⟩]⟩, [(raL m u)], []⟩))) := by kernel_rfl
theorem f79twR (rw st : Int) (c1 m cu : Nat) (b1 b2 : Bool) (u : Nat → Raw) (R : ARes → Prop) : (vx.call 79 [su_w rw st c1 m cu] (retK R) (mH (raL m u)) ((5, .con (CWI rw 1 6 b1)) :: [(0, .split ([]) ((3, .con (CWI st 0 4 b2)) :: [(0, .split ([]) ([(19, .split ([]) ((13, .loopW T79bw (.exit 2) T79bw fun x => h79w rw st c1 m cu (raL m u) m) :: []))]))]))])) =
(((ConOK Tryd.prog 56 (CWI rw 1 6 b1)) ∧ (Con.pre (CWI rw 1 6 b1) ⟨⟨[(I rw), (I 1), (I 6)], []⟩, []⟩) ∧
(((!b1) = true → R (.ret (.bool false))) ∧
((!b1) = false → ((ConOK Tryd.prog 56 (CWI st 0 4 b2)) ∧ (Con.pre (CWI st 0 4 b2) ⟨⟨[(I st), (I 0), (I 4)], []⟩, []⟩) ∧
(((!b2) = true → R (.ret (.bool false))) ∧
((!b2) = false → (((decide ((m : Int) > 5)) = true → R (.ret (.bool false))) ∧
((decide ((m : Int) > 5)) = false → ((ClW ⟨⟨[(I m), (I 0), (I rw), (I st)], [⟨m, cu⟩, ⟨0, c1⟩, ⟨m, cu⟩]⟩, [(raL m u)], []⟩) ∧ (LoopOW Tryd.prog .none p79b (T79bw) ⟨⟨[(I m), (I 0), (I rw), (I st)], [⟨m, cu⟩, ⟨0, c1⟩, ⟨m, cu⟩]⟩, [(raL m u)], []⟩ (.exit 2) (T79bw) ⟨⟨[(I m), (I m), (I rw), (I st)], [⟨m, cu⟩, ⟨0, c1⟩, ⟨m, cu⟩]⟩, [(raL m u)], []⟩) ∧
R (.ret (.bool true)))))))))))) := by kernel_rfl
theorem f79uwR (rw st : Int) (c1 m cu : Nat) (b1 b2 : Bool) (u : Nat → Raw) (R : ARes → Prop) : (vx.call 79 [su_w rw st c1 m cu] (retK R) (mH (raL m u)) ((5, .con (CWI rw 1 6 b1)) :: [(0, .split ([]) ((3, .con (CWI st 0 4 b2)) :: [(0, .split ([]) ([(19, .split ([]) ((13, .loopW T79bw AExit.ret R79 fun x => { hs := { vs := [Value.bool false], ns := [] }, ls := [], es := [] }) :: []))]))]))])) =
(((ConOK Tryd.prog 56 (CWI rw 1 6 b1)) ∧ (Con.pre (CWI rw 1 6 b1) ⟨⟨[(I rw), (I 1), (I 6)], []⟩, []⟩) ∧
(((!b1) = true → R (.ret (.bool false))) ∧
((!b1) = false → ((ConOK Tryd.prog 56 (CWI st 0 4 b2)) ∧ (Con.pre (CWI st 0 4 b2) ⟨⟨[(I st), (I 0), (I 4)], []⟩, []⟩) ∧
(((!b2) = true → R (.ret (.bool false))) ∧
((!b2) = false → (((decide ((m : Int) > 5)) = true → R (.ret (.bool false))) ∧
((decide ((m : Int) > 5)) = false → ((ClW ⟨⟨[(I m), (I 0), (I rw), (I st)], [⟨m, cu⟩, ⟨0, c1⟩, ⟨m, cu⟩]⟩, [(raL m u)], []⟩) ∧ (LoopOW Tryd.prog .none p79b (T79bw) ⟨⟨[(I m), (I 0), (I rw), (I st)], [⟨m, cu⟩, ⟨0, c1⟩, ⟨m, cu⟩]⟩, [(raL m u)], []⟩ .ret (R79) ⟨⟨[(.bool false)], []⟩, [], []⟩) ∧
R (.ret (.bool false)))))))))))) := by kernel_rfl
theorem b79aN (rw st : Int) (n cw n2 cv : Nat) (i : Nat) (bw bv : Bool) (w v : Nat → Sp) (R : Nat → AExit → Hw → Prop) : (vx.code none (.l p79a) (leafW [T79aN, R79] R) (T79aN.inst (h79N rw st n cw n2 cv (spL n w) (spL n2 v) i)) ([(0, .split ((6, .val (.pointer (some ⟨2, 0 + i * 2, none⟩))) :: (0, .val (.agg ⟨[(I ((w i).lo)), (I ((w i).hi))]⟩)) :: (0, .con (CNA (w i).lo (w i).hi 30 bw)) :: [(0, .split ([(4, .tm 1 [])]) ((4, .val (.pointer (some ⟨3, 0 + i * 2, none⟩))) :: (0, .val (.agg ⟨[(I ((v i).lo)), (I ((v i).hi))]⟩)) :: (0, .con (CNA (v i).lo (v i).hi 10 bv)) :: [(0, .split ([(3, .tm 1 [])]) ([(4, .tm 0 [])]))]))]) ([(1, .tm 0 [])]))])) =
((((decide ((i : Int) < n)) = true → ((((((0 : Int) ≤ i)) ∧ (((i : Int) < n))) ∧ (((.pointer (some ⟨2, 0 + i * 2, none⟩)) : Value) = (.pointer (some ⟨2, 0 + i * 2, none⟩)))) ∧
((((0 + i * 2 + 2 ≤ (spL n w).length)) ∧ (((.agg ⟨[(I ((w i).lo)), (I ((w i).hi))]⟩) : Value) = (.agg ⟨(List.take 2 (List.drop (0 + i * 2) (spL n w)))⟩))) ∧
((ConOK Tryd.prog 95 (CNA (w i).lo (w i).hi 30 bw)) ∧ (Con.pre (CNA (w i).lo (w i).hi 30 bw) ⟨⟨[(I ((w i).lo)), (I ((w i).hi)), (I 30)], []⟩, []⟩) ∧
(((!bw) = true → R 1 .ret ⟨⟨[(.bool false)], []⟩, [], []⟩) ∧
((!bw) = false → ((((((0 : Int) ≤ i)) ∧ (((i : Int) < n2))) ∧ (((.pointer (some ⟨3, 0 + i * 2, none⟩)) : Value) = (.pointer (some ⟨3, 0 + i * 2, none⟩)))) ∧
((((0 + i * 2 + 2 ≤ (spL n2 v).length)) ∧ (((.agg ⟨[(I ((v i).lo)), (I ((v i).hi))]⟩) : Value) = (.agg ⟨(List.take 2 (List.drop (0 + i * 2) (spL n2 v)))⟩))) ∧
((ConOK Tryd.prog 95 (CNA (v i).lo (v i).hi 10 bv)) ∧ (Con.pre (CNA (v i).lo (v i).hi 10 bv) ⟨⟨[(I ((v i).lo)), (I ((v i).hi)), (I 10)], []⟩, []⟩) ∧
(((!bv) = true → R 1 .ret ⟨⟨[(.bool false)], []⟩, [], []⟩) ∧
((!bv) = false → R 0 .normal ⟨⟨[(I n), (I (IntKind.i64.wrap ((i : Int) + (1 : Int)))), (I rw), (I st)], [⟨n, cw⟩, ⟨n2, cv⟩]⟩, [(spL n w), (spL n2 v)], []⟩))))))))))) ∧
((decide ((i : Int) < n)) = false → R 0 (.exit 0) ⟨⟨[(I n), (I i), (I rw), (I st)], [⟨n, cw⟩, ⟨n2, cv⟩]⟩, [(spL n w), (spL n2 v)], []⟩))) := by kernel_rfl
theorem f79tN (rw st : Int) (n cw n2 cv : Nat) (b1 b2 : Bool) (w v : Nat → Sp) (R : ARes → Prop) : (vx.call 79 [suN rw st n cw n2 cv] (retK R) (mN (spL n w) (spL n2 v)) ((5, .con (CWI rw 1 6 b1)) :: [(0, .split ([]) ((3, .con (CWI st 0 4 b2)) :: [(0, .split ([]) ([(5, .split ([]) ([(7, .split ([]) ((12, .loopW T79aN (.exit 0) T79aN fun x => h79N rw st n cw n2 cv (spL n w) (spL n2 v) n) :: []))]))]))]))])) =
(((ConOK Tryd.prog 56 (CWI rw 1 6 b1)) ∧ (Con.pre (CWI rw 1 6 b1) ⟨⟨[(I rw), (I 1), (I 6)], []⟩, []⟩) ∧
(((!b1) = true → R (.ret (.bool false))) ∧
((!b1) = false → ((ConOK Tryd.prog 56 (CWI st 0 4 b2)) ∧ (Con.pre (CWI st 0 4 b2) ⟨⟨[(I st), (I 0), (I 4)], []⟩, []⟩) ∧
(((!b2) = true → R (.ret (.bool false))) ∧
((!b2) = false → (((decide ((n : Int) > 8)) = true → R (.ret (.bool false))) ∧
((decide ((n : Int) > 8)) = false → ((((n2 : Int) != n) = true → R (.ret (.bool false))) ∧
(((n2 : Int) != n) = false → ((ClW ⟨⟨[(I n), (I 0), (I rw), (I st)], [⟨n, cw⟩, ⟨n2, cv⟩]⟩, [(spL n w), (spL n2 v)], []⟩) ∧ (LoopOW Tryd.prog .none p79a (T79aN) ⟨⟨[(I n), (I 0), (I rw), (I st)], [⟨n, cw⟩, ⟨n2, cv⟩]⟩, [(spL n w), (spL n2 v)], []⟩ (.exit 0) (T79aN) ⟨⟨[(I n), (I n), (I rw), (I st)], [⟨n, cw⟩, ⟨n2, cv⟩]⟩, [(spL n w), (spL n2 v)], []⟩) ∧
R (.ret (.bool true)))))))))))))) := by kernel_rfl
theorem f79uN (rw st : Int) (n cw n2 cv : Nat) (b1 b2 : Bool) (w v : Nat → Sp) (R : ARes → Prop) : (vx.call 79 [suN rw st n cw n2 cv] (retK R) (mN (spL n w) (spL n2 v)) ((5, .con (CWI rw 1 6 b1)) :: [(0, .split ([]) ((3, .con (CWI st 0 4 b2)) :: [(0, .split ([]) ([(5, .split ([]) ([(7, .split ([]) ((12, .loopW T79aN AExit.ret R79 fun x => { hs := { vs := [Value.bool false], ns := [] }, ls := [], es := [] }) :: []))]))]))]))])) =
(((ConOK Tryd.prog 56 (CWI rw 1 6 b1)) ∧ (Con.pre (CWI rw 1 6 b1) ⟨⟨[(I rw), (I 1), (I 6)], []⟩, []⟩) ∧
(((!b1) = true → R (.ret (.bool false))) ∧
((!b1) = false → ((ConOK Tryd.prog 56 (CWI st 0 4 b2)) ∧ (Con.pre (CWI st 0 4 b2) ⟨⟨[(I st), (I 0), (I 4)], []⟩, []⟩) ∧
(((!b2) = true → R (.ret (.bool false))) ∧
((!b2) = false → (((decide ((n : Int) > 8)) = true → R (.ret (.bool false))) ∧
((decide ((n : Int) > 8)) = false → ((((n2 : Int) != n) = true → R (.ret (.bool false))) ∧
(((n2 : Int) != n) = false → ((ClW ⟨⟨[(I n), (I 0), (I rw), (I st)], [⟨n, cw⟩, ⟨n2, cv⟩]⟩, [(spL n w), (spL n2 v)], []⟩) ∧ (LoopOW Tryd.prog .none p79a (T79aN) ⟨⟨[(I n), (I 0), (I rw), (I st)], [⟨n, cw⟩, ⟨n2, cv⟩]⟩, [(spL n w), (spL n2 v)], []⟩ .ret (R79) ⟨⟨[(.bool false)], []⟩, [], []⟩) ∧
R (.ret (.bool false)))))))))))))) := by kernel_rfl
theorem CWI_ok (x a b : Int) : ConOK Tryd.prog 56 (CWI x a b (inB x a b)) := by
 refine con_of vx_sound _ (fun y hy => ?_) rfl (fun y _ => rfl) (fun y hy => ?_) rfl (Nat.le_of_ble_eq_true rfl) (by rw [nglob]; exact Nat.le_of_ble_eq_true rfl)
 · cases hy
   have key : ∀ R : ARes → Prop, R (.ret (.bool (inB x a b))) → ∃ hs, vx.call 56 [I x, I a, I b] (retK R) m2d hs := fun R hR => by
    refine ⟨_, (fwi x a b R).mpr ?_⟩
    unfold inB at hR
    repeat' (first | with_reducible apply And.intro | with_reducible intro)
    all_goals simp_all
   obtain ⟨hs, h⟩ := key (fun r => r = .ret (.bool (inB x a b))) rfl
   exact ⟨hs, h⟩
 · cases hy
   intro cs hcs
   cases hcs
theorem CNA_ok (s : Sp) (most : Int) (hm : most ≤ 30) : ConOK Tryd.prog 95 (CNA s.lo s.hi most (spB s most)) := by
 refine con_of vx_sound _ (fun y hy => ?_) rfl (fun y _ => rfl) (fun y hy => ?_) rfl (Nat.le_of_ble_eq_true rfl) (by rw [nglob]; exact Nat.le_of_ble_eq_true rfl)
 · cases hy
   have e : spB s most = (inB s.lo 0 most && (inB s.hi 0 most && inB (IntKind.i64.wrap (s.hi - s.lo)) 0 3)) := by
    rw [Bool.eq_iff_iff]
    simp only [spB, inB, Bool.and_eq_true, decide_eq_true_eq]
    constructor
    · rintro ⟨h1, h2, h3, h4⟩
      rw [wrapI (by omega) (by omega)] at h4 ⊢
      omega
    · rintro ⟨⟨h1, h2⟩, ⟨h3, h4⟩, h5, h6⟩
      rw [wrapI (by omega) (by omega)] at h5 h6 ⊢
      omega
   have key : ∀ R : ARes → Prop, R (.ret (.bool (spB s most))) → ∃ hs, vx.call 95 [.agg ⟨[I s.lo, I s.hi]⟩, I most] (retK R) m2d hs := fun R hR => by
    rw [e] at hR
    refine ⟨_, (fna s.lo s.hi most (inB s.lo 0 most) (inB s.hi 0 most) (inB (IntKind.i64.wrap (s.hi - s.lo)) 0 3) R).mpr ?_⟩
    have c1 := CWI_ok s.lo 0 most
    have c2 := CWI_ok s.hi 0 most
    have c3 := CWI_ok (IntKind.i64.wrap (s.hi - s.lo)) 0 3
    repeat' (first | with_reducible apply And.intro | with_reducible intro)
    all_goals first
     | exact c1
     | exact c2
     | exact c3
     | rfl
     | simp_all
   obtain ⟨hs, h⟩ := key (fun r => r = .ret (.bool (spB s most))) rfl
   exact ⟨hs, h⟩
 · cases hy
   intro cs hcs
   cases hcs
section
variable {rw st : Int} {n cw n2 cv m cu : Nat} {w v : Nat → Sp} {u : Nat → Raw}
noncomputable def oa79 (rw st : Int) (n cw n2 cv m cu : Nat) (w v : Nat → Sp) (u : Nat → Raw) (b : Bool) : AExit × Nat × Hw :=
 if b = true then (.exit 0, 0, h79aR rw st n cw n2 cv m cu (spL n w) (spL n2 v) (raL m u) n) else (.ret, 1, ⟨⟨[.bool false], []⟩, [], []⟩)
noncomputable def ob79 (rw st : Int) (n cw n2 cv m cu : Nat) (w v : Nat → Sp) (u : Nat → Raw) (b : Bool) : AExit × Nat × Hw :=
 if b = true then (.exit 2, 0, h79bR rw st n cw n2 cv m cu (spL n w) (spL n2 v) (raL m u) m) else (.ret, 1, ⟨⟨[.bool false], []⟩, [], []⟩)
theorem loop79Ra (h8 : n ≤ 8) (hn2 : n2 = n) {b : Bool} (hb : allF (hoB w v) n 0 = b) {T1 : Tw} (h1 : [T79a, R79][(oa79 rw st n cw n2 cv m cu w v u b).2.1]? = some T1) :
    LoopOW Tryd.prog none p79a T79a (h79aR rw st n cw n2 cv m cu (spL n w) (spL n2 v) (raL m u) 0) (oa79 rw st n cw n2 cv m cu w v u b).1 T1 (oa79 rw st n cw n2 cv m cu w v u b).2.2 := by
 have e0 : b = allF (hoB w v) (n - 0) 0 := by rw [Nat.sub_zero, hb]
 rw [e0] at h1 ⊢
 refine loop_vcW (P := Tryd.prog) (ro := none) (p := p79a) (Ts := [T79a, R79]) (k := 6) (X := Nat) (inv := fun i => i ≤ n) (μ := fun i => n - i) (st := fun i => (0, h79aR rw st n cw n2 cv m cu (spL n w) (spL n2 v) (raL m u) i)) (out := fun i => oa79 rw st n cw n2 cv m cu w v u (allF (hoB w v) (n - i) i)) rfl vx_sound
  (by intro T hT; simp only [List.mem_cons, List.not_mem_nil, or_false] at hT; rcases hT with rfl | rfl <;> rfl) (by rw [nglob]; omega) (fun i hi => ?_) (x := 0) (Nat.zero_le n) (T0 := T79a) rfl (Nat.le_of_ble_eq_true rfl) (by decide) h1
 have hi : i ≤ n := hi
 by_cases hlt : i < n
 · have hw : IntKind.i64.wrap ((i : Int) + 1) = ((i + 1 : Nat) : Int) := wrapI (by omega) (by omega)
   have hstep : allF (hoB w v) (n - i) i = (hoB w v i && allF (hoB w v) (n - (i + 1)) (i + 1)) := by
    have : n - i = (n - (i + 1)) + 1 := by omega
    rw [this]; rfl
   have pw := spL_part w hlt
   have pv := spL_part v (show i < n2 by omega)
   have lw := spL_len n w
   have lv := spL_len n2 v
   refine ⟨T79a, _, rfl, (b79aR rw st n cw n2 cv m cu i (spB (w i) 30) (spB (v i) 10) w v u _).mpr ⟨fun _ => ⟨⟨⟨by omega, by omega⟩, rfl⟩, ⟨by rw [lw]; omega, by rw [pw]; rfl⟩, CNA_ok (w i) 30 (by omega), rfl, fun h => ?_, fun h => ⟨⟨⟨by omega, by omega⟩, rfl⟩, ⟨by rw [lv]; omega, by rw [pv]; rfl⟩, CNA_ok (v i) 10 (by omega), rfl, fun h' => ?_, fun h' => ?_⟩⟩, fun h => absurd (by omega) (of_decide_eq_false h)⟩⟩
   · have hf : allF (hoB w v) (n - i) i = false := by rw [hstep]; simp only [hoB]; rw [show spB (w i) 30 = false by simpa using h]; rfl
     exact ⟨⟨clF, trivial⟩, .inr ⟨by simp, by show oa79 rw st n cw n2 cv m cu w v u (allF (hoB w v) (n - i) i) = _; rw [hf]; rfl⟩⟩
   · have hf : allF (hoB w v) (n - i) i = false := by rw [hstep]; simp only [hoB]; rw [show spB (v i) 10 = false by simpa using h', Bool.and_false]; rfl
     exact ⟨⟨clF, trivial⟩, .inr ⟨by simp, by show oa79 rw st n cw n2 cv m cu w v u (allF (hoB w v) (n - i) i) = _; rw [hf]; rfl⟩⟩
   · have ht : hoB w v i = true := by simp only [hoB]; rw [show spB (w i) 30 = true by simpa using h, show spB (v i) 10 = true by simpa using h']; rfl
     rw [hw]
     refine ⟨⟨cl3r, trivial⟩, .inl ⟨rfl, i + 1, hlt, by show n - (i + 1) < n - i; omega, rfl, ?_⟩⟩
     show oa79 rw st n cw n2 cv m cu w v u (allF (hoB w v) (n - (i + 1)) (i + 1)) = oa79 rw st n cw n2 cv m cu w v u (allF (hoB w v) (n - i) i)
     rw [hstep, ht, Bool.true_and]
 · have e : i = n := by omega
   subst e
   refine ⟨T79a, _, rfl, (b79aR rw st i cw n2 cv m cu i false false w v u _).mpr ⟨fun h => absurd (of_decide_eq_true h) (by omega), fun _ => ?_⟩⟩
   refine ⟨⟨cl3r, trivial⟩, .inr ⟨by simp, ?_⟩⟩
   show oa79 rw st i cw n2 cv m cu w v u (allF (hoB w v) (i - i) i) = _
   rw [Nat.sub_self]
   rfl
theorem loop79Rb (h5 : m ≤ 5) {b : Bool} (hb : allF (huB rw u) m 0 = b) {T1 : Tw} (h1 : [T79b, R79][(ob79 rw st n cw n2 cv m cu w v u b).2.1]? = some T1) :
    LoopOW Tryd.prog none p79b T79b (h79bR rw st n cw n2 cv m cu (spL n w) (spL n2 v) (raL m u) 0) (ob79 rw st n cw n2 cv m cu w v u b).1 T1 (ob79 rw st n cw n2 cv m cu w v u b).2.2 := by
 have e0 : b = allF (huB rw u) (m - 0) 0 := by rw [Nat.sub_zero, hb]
 rw [e0] at h1 ⊢
 refine loop_vcW (P := Tryd.prog) (ro := none) (p := p79b) (Ts := [T79b, R79]) (k := 6) (X := Nat) (inv := fun i => i ≤ m) (μ := fun i => m - i) (st := fun i => (0, h79bR rw st n cw n2 cv m cu (spL n w) (spL n2 v) (raL m u) i)) (out := fun i => ob79 rw st n cw n2 cv m cu w v u (allF (huB rw u) (m - i) i)) rfl vx_sound
  (by intro T hT; simp only [List.mem_cons, List.not_mem_nil, or_false] at hT; rcases hT with rfl | rfl <;> rfl) (by rw [nglob]; omega) (fun i hi => ?_) (x := 0) (Nat.zero_le m) (T0 := T79b) rfl (Nat.le_of_ble_eq_true rfl) (by decide) h1
 have hi : i ≤ m := hi
 by_cases hlt : i < m
 · have hw : IntKind.i64.wrap ((i : Int) + 1) = ((i + 1 : Nat) : Int) := wrapI (by omega) (by omega)
   have hstep : allF (huB rw u) (m - i) i = (huB rw u i && allF (huB rw u) (m - (i + 1)) (i + 1)) := by
    have : m - i = (m - (i + 1)) + 1 := by omega
    rw [this]; rfl
   have pu := raL_part u hlt
   have lu := raL_len m u
   refine ⟨T79b, _, rfl, (b79bR rw st n cw n2 cv m cu i (inB (u i).fl 0 40) (inB (u i).br 0 10) (inB (u i).row 0 (IntKind.i64.wrap (rw - 1))) w v u _).mpr ⟨fun _ => ⟨⟨⟨by omega, by omega⟩, rfl⟩, ⟨by rw [lu]; omega, by rw [pu]; rfl⟩, CWI_ok _ _ _, rfl, fun h => ?_, fun h => ⟨CWI_ok _ _ _, rfl, fun h' => ?_, fun h' => ⟨CWI_ok _ _ _, rfl, fun h2 => ?_, fun h2 => ?_⟩⟩⟩, fun h => absurd (by omega) (of_decide_eq_false h)⟩⟩
   · have hf : allF (huB rw u) (m - i) i = false := by rw [hstep]; simp only [huB]; rw [show inB (u i).fl 0 40 = false by simpa using h]; rfl
     exact ⟨⟨clF, trivial⟩, .inr ⟨by simp, by show ob79 rw st n cw n2 cv m cu w v u (allF (huB rw u) (m - i) i) = _; rw [hf]; rfl⟩⟩
   · have hf : allF (huB rw u) (m - i) i = false := by rw [hstep]; simp only [huB]; rw [show inB (u i).br 0 10 = false by simpa using h', Bool.false_and, Bool.and_false]; rfl
     exact ⟨⟨clF, trivial⟩, .inr ⟨by simp, by show ob79 rw st n cw n2 cv m cu w v u (allF (huB rw u) (m - i) i) = _; rw [hf]; rfl⟩⟩
   · have hf : allF (huB rw u) (m - i) i = false := by rw [hstep]; simp only [huB]; rw [show inB (u i).row 0 (IntKind.i64.wrap (rw - 1)) = false by simpa using h2, Bool.and_false, Bool.and_false]; rfl
     exact ⟨⟨clF, trivial⟩, .inr ⟨by simp, by show ob79 rw st n cw n2 cv m cu w v u (allF (huB rw u) (m - i) i) = _; rw [hf]; rfl⟩⟩
   · have ht : huB rw u i = true := by simp only [huB]; rw [show inB (u i).fl 0 40 = true by simpa using h, show inB (u i).br 0 10 = true by simpa using h', show inB (u i).row 0 (IntKind.i64.wrap (rw - 1)) = true by simpa using h2]; rfl
     rw [hw]
     refine ⟨⟨cl3r, trivial⟩, .inl ⟨rfl, i + 1, hlt, by show m - (i + 1) < m - i; omega, rfl, ?_⟩⟩
     show ob79 rw st n cw n2 cv m cu w v u (allF (huB rw u) (m - (i + 1)) (i + 1)) = ob79 rw st n cw n2 cv m cu w v u (allF (huB rw u) (m - i) i)
     rw [hstep, ht, Bool.true_and]
 · have e : i = m := by omega
   subst e
   refine ⟨T79b, _, rfl, (b79bR rw st n cw n2 cv i cu i false false false w v u _).mpr ⟨fun h => absurd (of_decide_eq_true h) (by omega), fun _ => ?_⟩⟩
   refine ⟨⟨cl3r, trivial⟩, .inr ⟨by simp, ?_⟩⟩
   show ob79 rw st n cw n2 cv i cu w v u (allF (huB rw u) (i - i) i) = _
   rw [Nat.sub_self]
   rfl
theorem C79R_ok : ConOK Tryd.prog 79 (C20 rw st n cw n2 cv m cu (spL n w) (spL n2 v) (raL m u) (okSu rw st n n2 m w v u)) := by
 refine con_of vx_sound ⟨⟨[I rw, I st], [(n, cw), (n2, cv), (m, cu)]⟩, [spL n w, spL n2 v, raL m u]⟩ (fun y hy => ?_) rfl (fun y _ => rfl) (fun y hy => ?_) rfl (Nat.le_of_ble_eq_true rfl) (by rw [nglob]; exact Nat.le_of_ble_eq_true rfl)
 · cases hy
   have key : ∀ R : ARes → Prop, R (.ret (.bool (okSu rw st n n2 m w v u))) → ∃ hs, vx.call 79 [suR rw st n cw n2 cv m cu] (retK R) (mSd (spL n w) (spL n2 v) (raL m u)) hs := fun R hR => by
    have c1 := CWI_ok rw 1 6
    have c2 := CWI_ok st 0 4
    unfold okSu at hR
    have pre : ∀ X : Prop, ((decide ((n : Int) > 8)) = false → ((n2 : Int) != (n : Int)) = false → (decide ((m : Int) > 5)) = false → inB rw 1 6 = true → inB st 0 4 = true → X) → (((!inB rw 1 6) = true → R (.ret (.bool false))) ∧ ((!inB rw 1 6) = false → (ConOK Tryd.prog 56 (CWI st 0 4 (inB st 0 4)) ∧ (CWI st 0 4 (inB st 0 4)).pre ⟨⟨[I st, I 0, I 4], []⟩, []⟩ ∧ (((!inB st 0 4) = true → R (.ret (.bool false))) ∧ ((!inB st 0 4) = false → (((decide ((n : Int) > 8)) = true → R (.ret (.bool false))) ∧ ((decide ((n : Int) > 8)) = false → ((((n2 : Int) != (n : Int)) = true → R (.ret (.bool false))) ∧ (((n2 : Int) != (n : Int)) = false → (((decide ((m : Int) > 5)) = true → R (.ret (.bool false))) ∧ ((decide ((m : Int) > 5)) = false → X))))))))))) := fun X hX => by
     refine ⟨fun h => ?_, fun h => ⟨c2, rfl, fun h2 => ?_, fun h2 => ⟨fun h3 => ?_, fun h3 => ⟨fun h4 => ?_, fun h4 => ⟨fun h5 => ?_, fun h5 => hX h3 h4 h5 (by simpa using h) (by simpa using h2)⟩⟩⟩⟩⟩
     · rw [show inB rw 1 6 = false by simpa using h] at hR; exact hR
     · rw [show inB rw 1 6 = true by simpa using h, show inB st 0 4 = false by simpa using h2] at hR; exact hR
     · rw [show inB rw 1 6 = true by simpa using h, show inB st 0 4 = true by simpa using h2, h3] at hR; exact hR
     · rw [show inB rw 1 6 = true by simpa using h, show inB st 0 4 = true by simpa using h2, h3, h4] at hR; exact hR
     · rw [show inB rw 1 6 = true by simpa using h, show inB st 0 4 = true by simpa using h2, h3, h4, h5] at hR; exact hR
    have n8 : (decide ((n : Int) > 8)) = false → n ≤ 8 := fun h => by have := of_decide_eq_false h; omega
    have m5 : (decide ((m : Int) > 5)) = false → m ≤ 5 := fun h => by have := of_decide_eq_false h; omega
    have nn : ((n2 : Int) != (n : Int)) = false → n2 = n := fun h => by
     have : (n2 : Int) = n := by simpa using h
     omega
    cases ha : allF (hoB w v) n 0 with
    | false =>
     exact ⟨_, (f79fR rw st n cw n2 cv m cu (inB rw 1 6) (inB st 0 4) w v u R).mpr ⟨c1, rfl, pre _ fun h3 h4 h5 h1 h2 => ⟨cl3r, loop79Ra (n8 h3) (nn h4) ha rfl, by rw [h1, h2, h3, h4, h5, ha] at hR; exact hR⟩⟩⟩
    | true =>
     cases hb : allF (huB rw u) m 0 with
     | false => exact ⟨_, (f79uR rw st n cw n2 cv m cu (inB rw 1 6) (inB st 0 4) w v u R).mpr ⟨c1, rfl, pre _ fun h3 h4 h5 h1 h2 => ⟨cl3r, loop79Ra (n8 h3) (nn h4) ha rfl, cl3r, loop79Rb (m5 h5) hb rfl, by rw [h1, h2, h3, h4, h5, ha, hb] at hR; exact hR⟩⟩⟩
     | true => exact ⟨_, (f79tR rw st n cw n2 cv m cu (inB rw 1 6) (inB st 0 4) w v u R).mpr ⟨c1, rfl, pre _ fun h3 h4 h5 h1 h2 => ⟨cl3r, loop79Ra (n8 h3) (nn h4) ha rfl, cl3r, loop79Rb (m5 h5) hb rfl, by rw [h1, h2, h3, h4, h5, ha, hb] at hR; exact hR⟩⟩⟩
   obtain ⟨hs, h⟩ := key (fun r => r = .ret (.bool (okSu rw st n n2 m w v u))) rfl
   exact ⟨hs, h⟩
 · cases hy
   intro cs hc
   simp only [List.mem_cons, List.not_mem_nil, or_false] at hc
   rcases hc with rfl | rfl | rfl
   · exact spL_at _ _
   · exact spL_at _ _
   · exact raL_at _ _
end
section
variable {rw st : Int} {c1 m cu : Nat} {u : Nat → Raw}
noncomputable def ob79n (rw st : Int) (c1 m cu : Nat) (u : Nat → Raw) (b : Bool) : AExit × Nat × Hw := if b = true then (.exit 2, 0, h79n rw st c1 m cu (raL m u) m) else (.ret, 1, ⟨⟨[.bool false], []⟩, [], []⟩)
theorem loop79bnR (h5 : m ≤ 5) {b : Bool} (hb : allF (huB rw u) m 0 = b) {T1 : Tw} (h1 : [T79bn, R79][(ob79n rw st c1 m cu u b).2.1]? = some T1) :
    LoopOW Tryd.prog none p79b T79bn (h79n rw st c1 m cu (raL m u) 0) (ob79n rw st c1 m cu u b).1 T1 (ob79n rw st c1 m cu u b).2.2 := by
 have e0 : b = allF (huB rw u) (m - 0) 0 := by rw [Nat.sub_zero, hb]
 rw [e0] at h1 ⊢
 refine loop_vcW (P := Tryd.prog) (ro := none) (p := p79b) (Ts := [T79bn, R79]) (k := 6) (X := Nat) (inv := fun i => i ≤ m) (μ := fun i => m - i) (st := fun i => (0, h79n rw st c1 m cu (raL m u) i)) (out := fun i => ob79n rw st c1 m cu u (allF (huB rw u) (m - i) i)) rfl vx_sound
  (by intro T hT; simp only [List.mem_cons, List.not_mem_nil, or_false] at hT; rcases hT with rfl | rfl <;> rfl) (by rw [nglob]; omega) (fun i hi => ?_) (x := 0) (Nat.zero_le m) (T0 := T79bn) rfl (Nat.le_of_ble_eq_true rfl) (by decide) h1
 have hi : i ≤ m := hi
 by_cases hlt : i < m
 · have hw : IntKind.i64.wrap ((i : Int) + 1) = ((i + 1 : Nat) : Int) := wrapI (by omega) (by omega)
   have hstep : allF (huB rw u) (m - i) i = (huB rw u i && allF (huB rw u) (m - (i + 1)) (i + 1)) := by
    have : m - i = (m - (i + 1)) + 1 := by omega
    rw [this]; rfl
   have pu := raL_part u hlt
   have lu := raL_len m u
   refine ⟨T79bn, _, rfl, (b79bnR rw st c1 m cu i (inB (u i).fl 0 40) (inB (u i).br 0 10) (inB (u i).row 0 (IntKind.i64.wrap (rw - 1))) u _).mpr ⟨fun _ => ⟨⟨⟨by omega, by omega⟩, rfl⟩, ⟨by rw [lu]; omega, by rw [pu]; rfl⟩, CWI_ok _ _ _, rfl, fun h => ?_, fun h => ⟨CWI_ok _ _ _, rfl, fun h' => ?_, fun h' => ⟨CWI_ok _ _ _, rfl, fun h2 => ?_, fun h2 => ?_⟩⟩⟩, fun h => absurd (by omega) (of_decide_eq_false h)⟩⟩
   · have hf : allF (huB rw u) (m - i) i = false := by rw [hstep]; simp only [huB]; rw [show inB (u i).fl 0 40 = false by simpa using h]; rfl
     exact ⟨⟨clF, trivial⟩, .inr ⟨by simp, by show ob79n rw st c1 m cu u (allF (huB rw u) (m - i) i) = _; rw [hf]; rfl⟩⟩
   · have hf : allF (huB rw u) (m - i) i = false := by rw [hstep]; simp only [huB]; rw [show inB (u i).br 0 10 = false by simpa using h', Bool.false_and, Bool.and_false]; rfl
     exact ⟨⟨clF, trivial⟩, .inr ⟨by simp, by show ob79n rw st c1 m cu u (allF (huB rw u) (m - i) i) = _; rw [hf]; rfl⟩⟩
   · have hf : allF (huB rw u) (m - i) i = false := by rw [hstep]; simp only [huB]; rw [show inB (u i).row 0 (IntKind.i64.wrap (rw - 1)) = false by simpa using h2, Bool.and_false, Bool.and_false]; rfl
     exact ⟨⟨clF, trivial⟩, .inr ⟨by simp, by show ob79n rw st c1 m cu u (allF (huB rw u) (m - i) i) = _; rw [hf]; rfl⟩⟩
   · have ht : huB rw u i = true := by simp only [huB]; rw [show inB (u i).fl 0 40 = true by simpa using h, show inB (u i).br 0 10 = true by simpa using h', show inB (u i).row 0 (IntKind.i64.wrap (rw - 1)) = true by simpa using h2]; rfl
     rw [hw]
     refine ⟨⟨cl1r, trivial⟩, .inl ⟨rfl, i + 1, hlt, by show m - (i + 1) < m - i; omega, rfl, ?_⟩⟩
     show ob79n rw st c1 m cu u (allF (huB rw u) (m - (i + 1)) (i + 1)) = ob79n rw st c1 m cu u (allF (huB rw u) (m - i) i)
     rw [hstep, ht, Bool.true_and]
 · have e : i = m := by omega
   subst e
   refine ⟨T79bn, _, rfl, (b79bnR rw st c1 i cu i false false false u _).mpr ⟨fun h => absurd (of_decide_eq_true h) (by omega), fun _ => ?_⟩⟩
   refine ⟨⟨cl1r, trivial⟩, .inr ⟨by simp, ?_⟩⟩
   show ob79n rw st c1 i cu u (allF (huB rw u) (i - i) i) = _
   rw [Nat.sub_self]
   rfl
theorem C79nR_ok : ConOK Tryd.prog 79 (C20n rw st c1 m cu (raL m u) (okS0 rw st m u)) := by
 refine con_of vx_sound ⟨⟨[I rw, I st], [(m, cu)]⟩, [raL m u]⟩ (fun y hy => ?_) rfl (fun y _ => rfl) (fun y hy => ?_) rfl (Nat.le_of_ble_eq_true rfl) (by rw [nglob]; exact Nat.le_of_ble_eq_true rfl)
 · cases hy
   have key : ∀ R : ARes → Prop, R (.ret (.bool (okS0 rw st m u))) → ∃ hs, vx.call 79 [su_n rw st c1 m cu] (retK R) (mH (raL m u)) hs := fun R hR => by
    have k1 := CWI_ok rw 1 6
    have k2 := CWI_ok st 0 4
    unfold okS0 at hR
    have pre : ∀ X : Prop, ((decide ((m : Int) > 5)) = false → inB rw 1 6 = true → inB st 0 4 = true → X) → (((!inB rw 1 6) = true → R (.ret (.bool false))) ∧ ((!inB rw 1 6) = false → ConOK Tryd.prog 56 (CWI st 0 4 (inB st 0 4)) ∧ Con.pre (CWI st 0 4 (inB st 0 4)) ⟨⟨[I st, I 0, I 4], []⟩, []⟩ ∧ (((!inB st 0 4) = true → R (.ret (.bool false))) ∧ ((!inB st 0 4) = false → ((decide ((m : Int) > 5)) = true → R (.ret (.bool false))) ∧ ((decide ((m : Int) > 5)) = false → X))))) := fun X hX => by
     refine ⟨fun h => ?_, fun h => ⟨k2, rfl, fun h2 => ?_, fun h2 => ⟨fun h5 => ?_, fun h5 => hX h5 (by simpa using h) (by simpa using h2)⟩⟩⟩
     · rw [show inB rw 1 6 = false by simpa using h] at hR; exact hR
     · rw [show inB rw 1 6 = true by simpa using h, show inB st 0 4 = false by simpa using h2] at hR; exact hR
     · rw [show inB rw 1 6 = true by simpa using h, show inB st 0 4 = true by simpa using h2, h5] at hR; exact hR
    have m5 : (decide ((m : Int) > 5)) = false → m ≤ 5 := fun h => by have := of_decide_eq_false h; omega
    cases hb : allF (huB rw u) m 0 with
    | false => exact ⟨_, (f79unR rw st c1 m cu (inB rw 1 6) (inB st 0 4) u R).mpr ⟨k1, rfl, pre _ fun h5 h1 h2 => ⟨cl1r, loop79bnR (c1 := c1) (m5 h5) hb rfl, by rw [h1, h2, h5, hb] at hR; exact hR⟩⟩⟩
    | true => exact ⟨_, (f79tnR rw st c1 m cu (inB rw 1 6) (inB st 0 4) u R).mpr ⟨k1, rfl, pre _ fun h5 h1 h2 => ⟨cl1r, loop79bnR (c1 := c1) (m5 h5) hb rfl, by rw [h1, h2, h5, hb] at hR; exact hR⟩⟩⟩
   obtain ⟨hs, h⟩ := key (fun r => r = .ret (.bool (okS0 rw st m u))) rfl
   exact ⟨hs, h⟩
 · cases hy
   exact at1r
end
section
variable {rw st : Int} {c1 m cu : Nat} {u : Nat → Raw}
noncomputable def ob79v (rw st : Int) (c1 m cu : Nat) (u : Nat → Raw) (b : Bool) : AExit × Nat × Hw := if b = true then (.exit 2, 0, h79v rw st c1 m cu (raL m u) m) else (.ret, 1, ⟨⟨[.bool false], []⟩, [], []⟩)
theorem loop79bvR (h5 : m ≤ 5) {b : Bool} (hb : allF (huB rw u) m 0 = b) {T1 : Tw} (h1 : [T79bv, R79][(ob79v rw st c1 m cu u b).2.1]? = some T1) :
    LoopOW Tryd.prog none p79b T79bv (h79v rw st c1 m cu (raL m u) 0) (ob79v rw st c1 m cu u b).1 T1 (ob79v rw st c1 m cu u b).2.2 := by
 have e0 : b = allF (huB rw u) (m - 0) 0 := by rw [Nat.sub_zero, hb]
 rw [e0] at h1 ⊢
 refine loop_vcW (P := Tryd.prog) (ro := none) (p := p79b) (Ts := [T79bv, R79]) (k := 6) (X := Nat) (inv := fun i => i ≤ m) (μ := fun i => m - i) (st := fun i => (0, h79v rw st c1 m cu (raL m u) i)) (out := fun i => ob79v rw st c1 m cu u (allF (huB rw u) (m - i) i)) rfl vx_sound
  (by intro T hT; simp only [List.mem_cons, List.not_mem_nil, or_false] at hT; rcases hT with rfl | rfl <;> rfl) (by rw [nglob]; omega) (fun i hi => ?_) (x := 0) (Nat.zero_le m) (T0 := T79bv) rfl (Nat.le_of_ble_eq_true rfl) (by decide) h1
 have hi : i ≤ m := hi
 by_cases hlt : i < m
 · have hw : IntKind.i64.wrap ((i : Int) + 1) = ((i + 1 : Nat) : Int) := wrapI (by omega) (by omega)
   have hstep : allF (huB rw u) (m - i) i = (huB rw u i && allF (huB rw u) (m - (i + 1)) (i + 1)) := by
    have : m - i = (m - (i + 1)) + 1 := by omega
    rw [this]; rfl
   have pu := raL_part u hlt
   have lu := raL_len m u
   refine ⟨T79bv, _, rfl, (b79bvR rw st c1 m cu i (inB (u i).fl 0 40) (inB (u i).br 0 10) (inB (u i).row 0 (IntKind.i64.wrap (rw - 1))) u _).mpr ⟨fun _ => ⟨⟨⟨by omega, by omega⟩, rfl⟩, ⟨by rw [lu]; omega, by rw [pu]; rfl⟩, CWI_ok _ _ _, rfl, fun h => ?_, fun h => ⟨CWI_ok _ _ _, rfl, fun h' => ?_, fun h' => ⟨CWI_ok _ _ _, rfl, fun h2 => ?_, fun h2 => ?_⟩⟩⟩, fun h => absurd (by omega) (of_decide_eq_false h)⟩⟩
   · have hf : allF (huB rw u) (m - i) i = false := by rw [hstep]; simp only [huB]; rw [show inB (u i).fl 0 40 = false by simpa using h]; rfl
     exact ⟨⟨clF, trivial⟩, .inr ⟨by simp, by show ob79v rw st c1 m cu u (allF (huB rw u) (m - i) i) = _; rw [hf]; rfl⟩⟩
   · have hf : allF (huB rw u) (m - i) i = false := by rw [hstep]; simp only [huB]; rw [show inB (u i).br 0 10 = false by simpa using h', Bool.false_and, Bool.and_false]; rfl
     exact ⟨⟨clF, trivial⟩, .inr ⟨by simp, by show ob79v rw st c1 m cu u (allF (huB rw u) (m - i) i) = _; rw [hf]; rfl⟩⟩
   · have hf : allF (huB rw u) (m - i) i = false := by rw [hstep]; simp only [huB]; rw [show inB (u i).row 0 (IntKind.i64.wrap (rw - 1)) = false by simpa using h2, Bool.and_false, Bool.and_false]; rfl
     exact ⟨⟨clF, trivial⟩, .inr ⟨by simp, by show ob79v rw st c1 m cu u (allF (huB rw u) (m - i) i) = _; rw [hf]; rfl⟩⟩
   · have ht : huB rw u i = true := by simp only [huB]; rw [show inB (u i).fl 0 40 = true by simpa using h, show inB (u i).br 0 10 = true by simpa using h', show inB (u i).row 0 (IntKind.i64.wrap (rw - 1)) = true by simpa using h2]; rfl
     rw [hw]
     refine ⟨⟨cl1r, trivial⟩, .inl ⟨rfl, i + 1, hlt, by show m - (i + 1) < m - i; omega, rfl, ?_⟩⟩
     show ob79v rw st c1 m cu u (allF (huB rw u) (m - (i + 1)) (i + 1)) = ob79v rw st c1 m cu u (allF (huB rw u) (m - i) i)
     rw [hstep, ht, Bool.true_and]
 · have e : i = m := by omega
   subst e
   refine ⟨T79bv, _, rfl, (b79bvR rw st c1 i cu i false false false u _).mpr ⟨fun h => absurd (of_decide_eq_true h) (by omega), fun _ => ?_⟩⟩
   refine ⟨⟨cl1r, trivial⟩, .inr ⟨by simp, ?_⟩⟩
   show ob79v rw st c1 i cu u (allF (huB rw u) (i - i) i) = _
   rw [Nat.sub_self]
   rfl
theorem C79vR_ok : ConOK Tryd.prog 79 (C20v rw st c1 m cu (raL m u) (okS0 rw st m u)) := by
 refine con_of vx_sound ⟨⟨[I rw, I st], [(0, c1), (m, cu)]⟩, [raL m u]⟩ (fun y hy => ?_) rfl (fun y _ => rfl) (fun y hy => ?_) rfl (Nat.le_of_ble_eq_true rfl) (by rw [nglob]; exact Nat.le_of_ble_eq_true rfl)
 · cases hy
   have key : ∀ R : ARes → Prop, R (.ret (.bool (okS0 rw st m u))) → ∃ hs, vx.call 79 [su_v rw st c1 m cu] (retK R) (mH (raL m u)) hs := fun R hR => by
    have k1 := CWI_ok rw 1 6
    have k2 := CWI_ok st 0 4
    unfold okS0 at hR
    have pre : ∀ X : Prop, ((decide ((m : Int) > 5)) = false → inB rw 1 6 = true → inB st 0 4 = true → X) → (((!inB rw 1 6) = true → R (.ret (.bool false))) ∧ ((!inB rw 1 6) = false → ConOK Tryd.prog 56 (CWI st 0 4 (inB st 0 4)) ∧ Con.pre (CWI st 0 4 (inB st 0 4)) ⟨⟨[I st, I 0, I 4], []⟩, []⟩ ∧ (((!inB st 0 4) = true → R (.ret (.bool false))) ∧ ((!inB st 0 4) = false → ((decide ((m : Int) > 5)) = true → R (.ret (.bool false))) ∧ ((decide ((m : Int) > 5)) = false → X))))) := fun X hX => by
     refine ⟨fun h => ?_, fun h => ⟨k2, rfl, fun h2 => ?_, fun h2 => ⟨fun h5 => ?_, fun h5 => hX h5 (by simpa using h) (by simpa using h2)⟩⟩⟩
     · rw [show inB rw 1 6 = false by simpa using h] at hR; exact hR
     · rw [show inB rw 1 6 = true by simpa using h, show inB st 0 4 = false by simpa using h2] at hR; exact hR
     · rw [show inB rw 1 6 = true by simpa using h, show inB st 0 4 = true by simpa using h2, h5] at hR; exact hR
    have m5 : (decide ((m : Int) > 5)) = false → m ≤ 5 := fun h => by have := of_decide_eq_false h; omega
    cases hb : allF (huB rw u) m 0 with
    | false => exact ⟨_, (f79uvR rw st c1 m cu (inB rw 1 6) (inB st 0 4) u R).mpr ⟨k1, rfl, pre _ fun h5 h1 h2 => ⟨cl1r, loop79bvR (c1 := c1) (m5 h5) hb rfl, by rw [h1, h2, h5, hb] at hR; exact hR⟩⟩⟩
    | true => exact ⟨_, (f79tvR rw st c1 m cu (inB rw 1 6) (inB st 0 4) u R).mpr ⟨k1, rfl, pre _ fun h5 h1 h2 => ⟨cl1r, loop79bvR (c1 := c1) (m5 h5) hb rfl, by rw [h1, h2, h5, hb] at hR; exact hR⟩⟩⟩
   obtain ⟨hs, h⟩ := key (fun r => r = .ret (.bool (okS0 rw st m u))) rfl
   exact ⟨hs, h⟩
 · cases hy
   exact at1r
end
section
variable {rw st : Int} {c1 m cu : Nat} {u : Nat → Raw}
noncomputable def ob79w (rw st : Int) (c1 m cu : Nat) (u : Nat → Raw) (b : Bool) : AExit × Nat × Hw := if b = true then (.exit 2, 0, h79w rw st c1 m cu (raL m u) m) else (.ret, 1, ⟨⟨[.bool false], []⟩, [], []⟩)
theorem loop79bwR (h5 : m ≤ 5) {b : Bool} (hb : allF (huB rw u) m 0 = b) {T1 : Tw} (h1 : [T79bw, R79][(ob79w rw st c1 m cu u b).2.1]? = some T1) :
    LoopOW Tryd.prog none p79b T79bw (h79w rw st c1 m cu (raL m u) 0) (ob79w rw st c1 m cu u b).1 T1 (ob79w rw st c1 m cu u b).2.2 := by
 have e0 : b = allF (huB rw u) (m - 0) 0 := by rw [Nat.sub_zero, hb]
 rw [e0] at h1 ⊢
 refine loop_vcW (P := Tryd.prog) (ro := none) (p := p79b) (Ts := [T79bw, R79]) (k := 6) (X := Nat) (inv := fun i => i ≤ m) (μ := fun i => m - i) (st := fun i => (0, h79w rw st c1 m cu (raL m u) i)) (out := fun i => ob79w rw st c1 m cu u (allF (huB rw u) (m - i) i)) rfl vx_sound
  (by intro T hT; simp only [List.mem_cons, List.not_mem_nil, or_false] at hT; rcases hT with rfl | rfl <;> rfl) (by rw [nglob]; omega) (fun i hi => ?_) (x := 0) (Nat.zero_le m) (T0 := T79bw) rfl (Nat.le_of_ble_eq_true rfl) (by decide) h1
 have hi : i ≤ m := hi
 by_cases hlt : i < m
 · have hw : IntKind.i64.wrap ((i : Int) + 1) = ((i + 1 : Nat) : Int) := wrapI (by omega) (by omega)
   have hstep : allF (huB rw u) (m - i) i = (huB rw u i && allF (huB rw u) (m - (i + 1)) (i + 1)) := by
    have : m - i = (m - (i + 1)) + 1 := by omega
    rw [this]; rfl
   have pu := raL_part u hlt
   have lu := raL_len m u
   refine ⟨T79bw, _, rfl, (b79bwR rw st c1 m cu i (inB (u i).fl 0 40) (inB (u i).br 0 10) (inB (u i).row 0 (IntKind.i64.wrap (rw - 1))) u _).mpr ⟨fun _ => ⟨⟨⟨by omega, by omega⟩, rfl⟩, ⟨by rw [lu]; omega, by rw [pu]; rfl⟩, CWI_ok _ _ _, rfl, fun h => ?_, fun h => ⟨CWI_ok _ _ _, rfl, fun h' => ?_, fun h' => ⟨CWI_ok _ _ _, rfl, fun h2 => ?_, fun h2 => ?_⟩⟩⟩, fun h => absurd (by omega) (of_decide_eq_false h)⟩⟩
   · have hf : allF (huB rw u) (m - i) i = false := by rw [hstep]; simp only [huB]; rw [show inB (u i).fl 0 40 = false by simpa using h]; rfl
     exact ⟨⟨clF, trivial⟩, .inr ⟨by simp, by show ob79w rw st c1 m cu u (allF (huB rw u) (m - i) i) = _; rw [hf]; rfl⟩⟩
   · have hf : allF (huB rw u) (m - i) i = false := by rw [hstep]; simp only [huB]; rw [show inB (u i).br 0 10 = false by simpa using h', Bool.false_and, Bool.and_false]; rfl
     exact ⟨⟨clF, trivial⟩, .inr ⟨by simp, by show ob79w rw st c1 m cu u (allF (huB rw u) (m - i) i) = _; rw [hf]; rfl⟩⟩
   · have hf : allF (huB rw u) (m - i) i = false := by rw [hstep]; simp only [huB]; rw [show inB (u i).row 0 (IntKind.i64.wrap (rw - 1)) = false by simpa using h2, Bool.and_false, Bool.and_false]; rfl
     exact ⟨⟨clF, trivial⟩, .inr ⟨by simp, by show ob79w rw st c1 m cu u (allF (huB rw u) (m - i) i) = _; rw [hf]; rfl⟩⟩
   · have ht : huB rw u i = true := by simp only [huB]; rw [show inB (u i).fl 0 40 = true by simpa using h, show inB (u i).br 0 10 = true by simpa using h', show inB (u i).row 0 (IntKind.i64.wrap (rw - 1)) = true by simpa using h2]; rfl
     rw [hw]
     refine ⟨⟨cl1r, trivial⟩, .inl ⟨rfl, i + 1, hlt, by show m - (i + 1) < m - i; omega, rfl, ?_⟩⟩
     show ob79w rw st c1 m cu u (allF (huB rw u) (m - (i + 1)) (i + 1)) = ob79w rw st c1 m cu u (allF (huB rw u) (m - i) i)
     rw [hstep, ht, Bool.true_and]
 · have e : i = m := by omega
   subst e
   refine ⟨T79bw, _, rfl, (b79bwR rw st c1 i cu i false false false u _).mpr ⟨fun h => absurd (of_decide_eq_true h) (by omega), fun _ => ?_⟩⟩
   refine ⟨⟨cl1r, trivial⟩, .inr ⟨by simp, ?_⟩⟩
   show ob79w rw st c1 i cu u (allF (huB rw u) (i - i) i) = _
   rw [Nat.sub_self]
   rfl
theorem C79wR_ok : ConOK Tryd.prog 79 (C20w rw st c1 m cu (raL m u) (okS0 rw st m u)) := by
 refine con_of vx_sound ⟨⟨[I rw, I st], [(0, c1), (m, cu)]⟩, [raL m u]⟩ (fun y hy => ?_) rfl (fun y _ => rfl) (fun y hy => ?_) rfl (Nat.le_of_ble_eq_true rfl) (by rw [nglob]; exact Nat.le_of_ble_eq_true rfl)
 · cases hy
   have key : ∀ R : ARes → Prop, R (.ret (.bool (okS0 rw st m u))) → ∃ hs, vx.call 79 [su_w rw st c1 m cu] (retK R) (mH (raL m u)) hs := fun R hR => by
    have k1 := CWI_ok rw 1 6
    have k2 := CWI_ok st 0 4
    unfold okS0 at hR
    have pre : ∀ X : Prop, ((decide ((m : Int) > 5)) = false → inB rw 1 6 = true → inB st 0 4 = true → X) → (((!inB rw 1 6) = true → R (.ret (.bool false))) ∧ ((!inB rw 1 6) = false → ConOK Tryd.prog 56 (CWI st 0 4 (inB st 0 4)) ∧ Con.pre (CWI st 0 4 (inB st 0 4)) ⟨⟨[I st, I 0, I 4], []⟩, []⟩ ∧ (((!inB st 0 4) = true → R (.ret (.bool false))) ∧ ((!inB st 0 4) = false → ((decide ((m : Int) > 5)) = true → R (.ret (.bool false))) ∧ ((decide ((m : Int) > 5)) = false → X))))) := fun X hX => by
     refine ⟨fun h => ?_, fun h => ⟨k2, rfl, fun h2 => ?_, fun h2 => ⟨fun h5 => ?_, fun h5 => hX h5 (by simpa using h) (by simpa using h2)⟩⟩⟩
     · rw [show inB rw 1 6 = false by simpa using h] at hR; exact hR
     · rw [show inB rw 1 6 = true by simpa using h, show inB st 0 4 = false by simpa using h2] at hR; exact hR
     · rw [show inB rw 1 6 = true by simpa using h, show inB st 0 4 = true by simpa using h2, h5] at hR; exact hR
    have m5 : (decide ((m : Int) > 5)) = false → m ≤ 5 := fun h => by have := of_decide_eq_false h; omega
    cases hb : allF (huB rw u) m 0 with
    | false => exact ⟨_, (f79uwR rw st c1 m cu (inB rw 1 6) (inB st 0 4) u R).mpr ⟨k1, rfl, pre _ fun h5 h1 h2 => ⟨cl1r, loop79bwR (c1 := c1) (m5 h5) hb rfl, by rw [h1, h2, h5, hb] at hR; exact hR⟩⟩⟩
    | true => exact ⟨_, (f79twR rw st c1 m cu (inB rw 1 6) (inB st 0 4) u R).mpr ⟨k1, rfl, pre _ fun h5 h1 h2 => ⟨cl1r, loop79bwR (c1 := c1) (m5 h5) hb rfl, by rw [h1, h2, h5, hb] at hR; exact hR⟩⟩⟩
   obtain ⟨hs, h⟩ := key (fun r => r = .ret (.bool (okS0 rw st m u))) rfl
   exact ⟨hs, h⟩
 · cases hy
   exact at1r
end
section
variable {rw st : Int} {n cw n2 cv : Nat} {w v : Nat → Sp}
noncomputable def oa79N (rw st : Int) (n cw n2 cv : Nat) (w v : Nat → Sp) (b : Bool) : AExit × Nat × Hw := if b = true then (.exit 0, 0, h79N rw st n cw n2 cv (spL n w) (spL n2 v) n) else (.ret, 1, ⟨⟨[.bool false], []⟩, [], []⟩)
theorem loop79aN (h8 : n ≤ 8) (hn2 : n2 = n) {b : Bool} (hb : allF (hoB w v) n 0 = b) {T1 : Tw} (h1 : [T79aN, R79][(oa79N rw st n cw n2 cv w v b).2.1]? = some T1) :
    LoopOW Tryd.prog none p79a T79aN (h79N rw st n cw n2 cv (spL n w) (spL n2 v) 0) (oa79N rw st n cw n2 cv w v b).1 T1 (oa79N rw st n cw n2 cv w v b).2.2 := by
 have e0 : b = allF (hoB w v) (n - 0) 0 := by rw [Nat.sub_zero, hb]
 rw [e0] at h1 ⊢
 refine loop_vcW (P := Tryd.prog) (ro := none) (p := p79a) (Ts := [T79aN, R79]) (k := 6) (X := Nat) (inv := fun i => i ≤ n) (μ := fun i => n - i) (st := fun i => (0, h79N rw st n cw n2 cv (spL n w) (spL n2 v) i)) (out := fun i => oa79N rw st n cw n2 cv w v (allF (hoB w v) (n - i) i)) rfl vx_sound
  (by intro T hT; simp only [List.mem_cons, List.not_mem_nil, or_false] at hT; rcases hT with rfl | rfl <;> rfl) (by rw [nglob]; omega) (fun i hi => ?_) (x := 0) (Nat.zero_le n) (T0 := T79aN) rfl (Nat.le_of_ble_eq_true rfl) (by decide) h1
 have hi : i ≤ n := hi
 by_cases hlt : i < n
 · have hw : IntKind.i64.wrap ((i : Int) + 1) = ((i + 1 : Nat) : Int) := wrapI (by omega) (by omega)
   have hstep : allF (hoB w v) (n - i) i = (hoB w v i && allF (hoB w v) (n - (i + 1)) (i + 1)) := by
    have : n - i = (n - (i + 1)) + 1 := by omega
    rw [this]; rfl
   have pw := spL_part w hlt
   have pv := spL_part v (show i < n2 by omega)
   have lw := spL_len n w
   have lv := spL_len n2 v
   refine ⟨T79aN, _, rfl, (b79aN rw st n cw n2 cv i (spB (w i) 30) (spB (v i) 10) w v _).mpr ⟨fun _ => ⟨⟨⟨by omega, by omega⟩, rfl⟩, ⟨by rw [lw]; omega, by rw [pw]; rfl⟩, CNA_ok (w i) 30 (by omega), rfl, fun h => ?_, fun h => ⟨⟨⟨by omega, by omega⟩, rfl⟩, ⟨by rw [lv]; omega, by rw [pv]; rfl⟩, CNA_ok (v i) 10 (by omega), rfl, fun h' => ?_, fun h' => ?_⟩⟩, fun h => absurd (by omega) (of_decide_eq_false h)⟩⟩
   · have hf : allF (hoB w v) (n - i) i = false := by rw [hstep]; simp only [hoB]; rw [show spB (w i) 30 = false by simpa using h]; rfl
     exact ⟨⟨clF, trivial⟩, .inr ⟨by simp, by show oa79N rw st n cw n2 cv w v (allF (hoB w v) (n - i) i) = _; rw [hf]; rfl⟩⟩
   · have hf : allF (hoB w v) (n - i) i = false := by rw [hstep]; simp only [hoB]; rw [show spB (v i) 10 = false by simpa using h', Bool.and_false]; rfl
     exact ⟨⟨clF, trivial⟩, .inr ⟨by simp, by show oa79N rw st n cw n2 cv w v (allF (hoB w v) (n - i) i) = _; rw [hf]; rfl⟩⟩
   · have ht : hoB w v i = true := by simp only [hoB]; rw [show spB (w i) 30 = true by simpa using h, show spB (v i) 10 = true by simpa using h']; rfl
     rw [hw]
     refine ⟨⟨clN, trivial⟩, .inl ⟨rfl, i + 1, hlt, by show n - (i + 1) < n - i; omega, rfl, ?_⟩⟩
     show oa79N rw st n cw n2 cv w v (allF (hoB w v) (n - (i + 1)) (i + 1)) = oa79N rw st n cw n2 cv w v (allF (hoB w v) (n - i) i)
     rw [hstep, ht, Bool.true_and]
 · have e : i = n := by omega
   subst e
   refine ⟨T79aN, _, rfl, (b79aN rw st i cw n2 cv i false false w v _).mpr ⟨fun h => absurd (of_decide_eq_true h) (by omega), fun _ => ?_⟩⟩
   refine ⟨⟨clN, trivial⟩, .inr ⟨by simp, ?_⟩⟩
   show oa79N rw st i cw n2 cv w v (allF (hoB w v) (i - i) i) = _
   rw [Nat.sub_self]
   rfl
theorem C79N_ok : ConOK Tryd.prog 79 (C20N rw st n cw n2 cv (spL n w) (spL n2 v) (okSN rw st n n2 w v)) := by
 refine con_of vx_sound ⟨⟨[I rw, I st], [(n, cw), (n2, cv)]⟩, [spL n w, spL n2 v]⟩ (fun y hy => ?_) rfl (fun y _ => rfl) (fun y hy => ?_) rfl (Nat.le_of_ble_eq_true rfl) (by rw [nglob]; exact Nat.le_of_ble_eq_true rfl)
 · cases hy
   have key : ∀ R : ARes → Prop, R (.ret (.bool (okSN rw st n n2 w v))) → ∃ hs, vx.call 79 [suN rw st n cw n2 cv] (retK R) (mN (spL n w) (spL n2 v)) hs := fun R hR => by
    have k1 := CWI_ok rw 1 6
    have k2 := CWI_ok st 0 4
    unfold okSN at hR
    have pre : ∀ X : Prop, ((decide ((n : Int) > 8)) = false → ((n2 : Int) != (n : Int)) = false → inB rw 1 6 = true → inB st 0 4 = true → X) → (((!inB rw 1 6) = true → R (.ret (.bool false))) ∧ ((!inB rw 1 6) = false → ConOK Tryd.prog 56 (CWI st 0 4 (inB st 0 4)) ∧ Con.pre (CWI st 0 4 (inB st 0 4)) ⟨⟨[I st, I 0, I 4], []⟩, []⟩ ∧ (((!inB st 0 4) = true → R (.ret (.bool false))) ∧ ((!inB st 0 4) = false → ((decide ((n : Int) > 8)) = true → R (.ret (.bool false))) ∧ ((decide ((n : Int) > 8)) = false → ((((n2 : Int) != (n : Int)) = true → R (.ret (.bool false))) ∧ (((n2 : Int) != (n : Int)) = false → X))))))) := fun X hX => by
     refine ⟨fun h => ?_, fun h => ⟨k2, rfl, fun h2 => ?_, fun h2 => ⟨fun h3 => ?_, fun h3 => ⟨fun h4 => ?_, fun h4 => hX h3 h4 (by simpa using h) (by simpa using h2)⟩⟩⟩⟩
     · rw [show inB rw 1 6 = false by simpa using h] at hR; exact hR
     · rw [show inB rw 1 6 = true by simpa using h, show inB st 0 4 = false by simpa using h2] at hR; exact hR
     · rw [show inB rw 1 6 = true by simpa using h, show inB st 0 4 = true by simpa using h2, h3] at hR; exact hR
     · rw [show inB rw 1 6 = true by simpa using h, show inB st 0 4 = true by simpa using h2, h3, h4] at hR; exact hR
    have n8 : (decide ((n : Int) > 8)) = false → n ≤ 8 := fun h => by have := of_decide_eq_false h; omega
    have nn : ((n2 : Int) != (n : Int)) = false → n2 = n := fun h => by
     have : (n2 : Int) = n := by simpa using h
     omega
    cases ha : allF (hoB w v) n 0 with
    | false => exact ⟨_, (f79uN rw st n cw n2 cv (inB rw 1 6) (inB st 0 4) w v R).mpr ⟨k1, rfl, pre _ fun h3 h4 h1 h2 => ⟨clN, loop79aN (n8 h3) (nn h4) ha rfl, by rw [h1, h2, h3, h4, ha] at hR; exact hR⟩⟩⟩
    | true => exact ⟨_, (f79tN rw st n cw n2 cv (inB rw 1 6) (inB st 0 4) w v R).mpr ⟨k1, rfl, pre _ fun h3 h4 h1 h2 => ⟨clN, loop79aN (n8 h3) (nn h4) ha rfl, by rw [h1, h2, h3, h4, ha] at hR; exact hR⟩⟩⟩
   obtain ⟨hs, h⟩ := key (fun r => r = .ret (.bool (okSN rw st n n2 w v))) rfl
   exact ⟨hs, h⟩
 · cases hy
   intro cs hc
   simp only [List.mem_cons, List.not_mem_nil, or_false] at hc
   rcases hc with rfl | rfl
   · exact spL_at _ _
   · exact spL_at _ _
end
end Go.Ab
