/- package surf: the law SurfEnds, of valid surfs with hours and huts. -/
import Derived.Test.YtoelpblmhmhglaaDoorFR
set_option maxRecDepth 100000
namespace Go.Ab
open Go Go.RowKit Go.Proofs
theorem f5 (rw : Nat) (st wh : Int) (n cw cv m cu hut q sx px : Nat) (w v : Nat → Sp) (u : Nat → Hut) (ra : Nat → Int) (lo : Nat → Bool) (tb : List Value) (yes no : Nat) (R : ARes → Prop) : (vx.call 5 [suV rw st n cw cv m cu, .int .u8 wh] (retK R) (mSu tb (spL n w) (spL n v) (huL m u)) ([(21, .split ((9, .con (C11t tb)) :: []) ((4, .con (C20 rw st n cw n cv m cu (spL n w) (spL n v) (huL m u) true)) :: (7, .val (.bool false)) :: (10, .loopW T5a (.exit 0) T5a fun x => h5a (rw : Int) st wh n cw cv m cu (q : Int) tb (spL n w) (spL n v) (huL m u) (↑(wypN w v q) : Int) q) :: (1, .val (.bool false)) :: (6, .val (I hut)) :: (7, .loopW T5w (.exit 2) T5w fun x => h5w (rw : Int) st n cw cv m cu q hut tb (spL n w) (spL n v) (huL m u) (ints (3 : Nat) ra) (boolsL (3 : Nat) lo) (yes : Int) (no : Int) (↑(wypN w v q) : Int) (wypN w v q)) :: (2, .con (CS1 rw st n cw cv m cu tb (spL n w) (spL n v) (huL m u) hut (.tuple ⟨[I sx, I px, I 0]⟩))) :: (8, .val (I (IntKind.i64.wrap ((1 : Int) * (2 : Int) ^ q)))) :: (9, .val (.bool false)) :: (8, .val (.bool false)) :: (4, .loopW T5z (.exit 8) T5z fun x => h5z (rw : Int) st n cw cv m cu q hut tb (spL n w) (spL n v) (huL m u) (ints (3 : Nat) ra) (boolsL (3 : Nat) lo) q) :: (0, .con (C11t tb)) :: []))])) =
((((decide ((if (m : Int) > if (n : Int) > (n : Int) then (n : Int) else (n : Int) then (m : Int) else if (n : Int) > (n : Int) then (n : Int) else (n : Int)) > (40 : Int))) = true → ((ConOK Tryd.prog 11 (C11t tb)) ∧ (Con.pre (C11t tb) ⟨⟨[], []⟩, [(tb)]⟩) ∧
R (.ret (.bool true)))) ∧
((decide ((if (m : Int) > if (n : Int) > (n : Int) then (n : Int) else (n : Int) then (m : Int) else if (n : Int) > (n : Int) then (n : Int) else (n : Int)) > (40 : Int))) = false → ((ConOK Tryd.prog 20 (C20 rw st n cw n cv m cu (spL n w) (spL n v) (huL m u) true)) ∧ (Con.pre (C20 rw st n cw n cv m cu (spL n w) (spL n v) (huL m u) true) ⟨⟨[(I rw), (I st)], [⟨n, cw⟩, ⟨n, cv⟩, ⟨m, cu⟩]⟩, [(spL n w), (spL n v), (huL m u)]⟩) ∧
((((some (.bool ((m : Int) == 0)) : Option Value) = some (.bool false))) ∧
((ClW ⟨⟨[(.int .u8 (wh)), (I (if (n : Int) < (3 : Int) then (n : Int) else (3 : Int))), (I 1), (I (if (n : Int) < (3 : Int) then (n : Int) else (3 : Int))), (I 0), (I rw), (I st)], [⟨n, cw⟩, ⟨n, cv⟩, ⟨m, cu⟩]⟩, [(tb), (spL n w), (spL n v), (huL m u)], []⟩) ∧ (LoopOW Tryd.prog .none p5a (T5a) ⟨⟨[(.int .u8 (wh)), (I (if (n : Int) < (3 : Int) then (n : Int) else (3 : Int))), (I 1), (I (if (n : Int) < (3 : Int) then (n : Int) else (3 : Int))), (I 0), (I rw), (I st)], [⟨n, cw⟩, ⟨n, cv⟩, ⟨m, cu⟩]⟩, [(tb), (spL n w), (spL n v), (huL m u)], []⟩ (.exit 0) (T5a) ⟨⟨[(.int .u8 (wh)), (I q), (I ((↑(wypN w v q) : Int))), (I q), (I q), (I rw), (I st)], [⟨n, cw⟩, ⟨n, cv⟩, ⟨m, cu⟩]⟩, [(tb), (spL n w), (spL n v), (huL m u)], []⟩) ∧
((((some (.bool (decide ((↑(wypN w v q) : Int) > (700 : Int)))) : Option Value) = some (.bool false))) ∧
((((((m : Int) ≠ (0 : Int))) ∧ ((IntKind.i64 = IntKind.i64))) ∧ (((I hut) : Value) = (I ((IntKind.i64.wrap wh).tmod (m : Int))))) ∧
((ClW ⟨⟨[(I q), (I hut), (I 0), (I 0), (I ((↑(wypN w v q) : Int))), (I 0), (I rw), (I st)], [⟨n, cw⟩, ⟨n, cv⟩, ⟨m, cu⟩]⟩, [(tb), (spL n w), (spL n v), (huL m u), [(I 0), (I 0), (I 0)], [(.bool false), (.bool false), (.bool false)]], []⟩) ∧ (LoopOW Tryd.prog .none p5w (T5w) ⟨⟨[(I q), (I hut), (I 0), (I 0), (I ((↑(wypN w v q) : Int))), (I 0), (I rw), (I st)], [⟨n, cw⟩, ⟨n, cv⟩, ⟨m, cu⟩]⟩, [(tb), (spL n w), (spL n v), (huL m u), [(I 0), (I 0), (I 0)], [(.bool false), (.bool false), (.bool false)]], []⟩ (.exit 2) (T5w) ⟨⟨[(I q), (I hut), (I yes), (I no), (I ((↑(wypN w v q) : Int))), (I ((↑(wypN w v q) : Int))), (I rw), (I st)], [⟨n, cw⟩, ⟨n, cv⟩, ⟨m, cu⟩]⟩, [(tb), (spL n w), (spL n v), (huL m u), [(I (ra (0 : Nat))), (I (ra (1 : Nat))), (I (ra (2 : Nat)))], [(.bool (lo (0 : Nat))), (.bool (lo (1 : Nat))), (.bool (lo (2 : Nat)))]], []⟩) ∧
((ConOK Tryd.prog 14 (CS1 rw st n cw cv m cu tb (spL n w) (spL n v) (huL m u) hut (.tuple ⟨[I sx, I px, I 0]⟩))) ∧ (Con.pre (CS1 rw st n cw cv m cu tb (spL n w) (spL n v) (huL m u) hut (.tuple ⟨[I sx, I px, I 0]⟩)) ⟨⟨[(I rw), (I st), (I hut)], [⟨n, cw⟩, ⟨n, cv⟩, ⟨m, cu⟩]⟩, [(tb), (spL n w), (spL n v), (huL m u)]⟩) ∧
((((((0 : Int) ≤ q)) ∧ (((q : Int) ≤ (↑(64 : Nat) : Int)))) ∧ (((I (IntKind.i64.wrap ((1 : Int) * (2 : Int) ^ q))) : Value) = (I (IntKind.i64.wrap ((1 : Int) * (2 : Int) ^ q))))) ∧
((((some (.bool (bits BinOp.and IntKind.i64 (px : Int) (IntKind.i64.wrap (IntKind.i64.wrap ((1 : Int) * (2 : Int) ^ q) - (1 : Int))) != (yes : Int))) : Option Value) = some (.bool false))) ∧
((((some (.bool (bits BinOp.and IntKind.i64 (sx : Int) (IntKind.i64.wrap (IntKind.i64.wrap ((1 : Int) * (2 : Int) ^ q) - (1 : Int))) != bits BinOp.andNot IntKind.i64 (IntKind.i64.wrap (IntKind.i64.wrap ((1 : Int) * (2 : Int) ^ q) - (1 : Int))) (no : Int))) : Option Value) = some (.bool false))) ∧
((ClW ⟨⟨[(I hut), (I q), (I 0), (I rw), (I st)], [⟨n, cw⟩, ⟨n, cv⟩, ⟨m, cu⟩]⟩, [(tb), (spL n w), (spL n v), (huL m u), [(I (ra (0 : Nat))), (I (ra (1 : Nat))), (I (ra (2 : Nat)))], [(.bool (lo (0 : Nat))), (.bool (lo (1 : Nat))), (.bool (lo (2 : Nat)))]], []⟩) ∧ (LoopOW Tryd.prog .none p5z (T5z) ⟨⟨[(I hut), (I q), (I 0), (I rw), (I st)], [⟨n, cw⟩, ⟨n, cv⟩, ⟨m, cu⟩]⟩, [(tb), (spL n w), (spL n v), (huL m u), [(I (ra (0 : Nat))), (I (ra (1 : Nat))), (I (ra (2 : Nat)))], [(.bool (lo (0 : Nat))), (.bool (lo (1 : Nat))), (.bool (lo (2 : Nat)))]], []⟩ (.exit 8) (T5z) ⟨⟨[(I hut), (I q), (I q), (I rw), (I st)], [⟨n, cw⟩, ⟨n, cv⟩, ⟨m, cu⟩]⟩, [(tb), (spL n w), (spL n v), (huL m u), [(I (ra (0 : Nat))), (I (ra (1 : Nat))), (I (ra (2 : Nat)))], [(.bool (lo (0 : Nat))), (.bool (lo (1 : Nat))), (.bool (lo (2 : Nat)))]], []⟩) ∧
((ConOK Tryd.prog 11 (C11t tb)) ∧ (Con.pre (C11t tb) ⟨⟨[], []⟩, [(tb)]⟩) ∧
R (.ret (.bool true))))))))))))))))) := by kernel_rfl
theorem f5g (rw : Nat) (st wh : Int) (n cw cv m cu hut q sx px : Nat) (w v : Nat → Sp) (u : Nat → Hut) (ra : Nat → Int) (lo : Nat → Bool) (tb : List Value) (yes no : Nat) (R : ARes → Prop) : (vx.call 5 [suV rw st n cw cv m cu, .int .u8 wh] (retK R) (mSu tb (spL n w) (spL n v) (huL m u)) ([(21, .split ((9, .con (C11t tb)) :: []) ((4, .con (C20 rw st n cw n cv m cu (spL n w) (spL n v) (huL m u) true)) :: (7, .val (.bool false)) :: (10, .loopW T5a (.exit 0) T5a fun x => h5a (rw : Int) st wh n cw cv m cu (q : Int) tb (spL n w) (spL n v) (huL m u) (↑(wypN w v q) : Int) q) :: (1, .val (.bool true)) :: (1, .con (C11t tb)) :: []))])) =
((((decide ((if (m : Int) > if (n : Int) > (n : Int) then (n : Int) else (n : Int) then (m : Int) else if (n : Int) > (n : Int) then (n : Int) else (n : Int)) > (40 : Int))) = true → ((ConOK Tryd.prog 11 (C11t tb)) ∧ (Con.pre (C11t tb) ⟨⟨[], []⟩, [(tb)]⟩) ∧
R (.ret (.bool true)))) ∧
((decide ((if (m : Int) > if (n : Int) > (n : Int) then (n : Int) else (n : Int) then (m : Int) else if (n : Int) > (n : Int) then (n : Int) else (n : Int)) > (40 : Int))) = false → ((ConOK Tryd.prog 20 (C20 rw st n cw n cv m cu (spL n w) (spL n v) (huL m u) true)) ∧ (Con.pre (C20 rw st n cw n cv m cu (spL n w) (spL n v) (huL m u) true) ⟨⟨[(I rw), (I st)], [⟨n, cw⟩, ⟨n, cv⟩, ⟨m, cu⟩]⟩, [(spL n w), (spL n v), (huL m u)]⟩) ∧
((((some (.bool ((m : Int) == 0)) : Option Value) = some (.bool false))) ∧
((ClW ⟨⟨[(.int .u8 (wh)), (I (if (n : Int) < (3 : Int) then (n : Int) else (3 : Int))), (I 1), (I (if (n : Int) < (3 : Int) then (n : Int) else (3 : Int))), (I 0), (I rw), (I st)], [⟨n, cw⟩, ⟨n, cv⟩, ⟨m, cu⟩]⟩, [(tb), (spL n w), (spL n v), (huL m u)], []⟩) ∧ (LoopOW Tryd.prog .none p5a (T5a) ⟨⟨[(.int .u8 (wh)), (I (if (n : Int) < (3 : Int) then (n : Int) else (3 : Int))), (I 1), (I (if (n : Int) < (3 : Int) then (n : Int) else (3 : Int))), (I 0), (I rw), (I st)], [⟨n, cw⟩, ⟨n, cv⟩, ⟨m, cu⟩]⟩, [(tb), (spL n w), (spL n v), (huL m u)], []⟩ (.exit 0) (T5a) ⟨⟨[(.int .u8 (wh)), (I q), (I ((↑(wypN w v q) : Int))), (I q), (I q), (I rw), (I st)], [⟨n, cw⟩, ⟨n, cv⟩, ⟨m, cu⟩]⟩, [(tb), (spL n w), (spL n v), (huL m u)], []⟩) ∧
((((some (.bool (decide ((↑(wypN w v q) : Int) > (700 : Int)))) : Option Value) = some (.bool true))) ∧
((ConOK Tryd.prog 11 (C11t tb)) ∧ (Con.pre (C11t tb) ⟨⟨[], []⟩, [(tb)]⟩) ∧
R (.ret (.bool true)))))))))) := by kernel_rfl
section
variable {rw : Nat} {st : Int} {n cw cv m cu j : Nat} {w v : Nat → Sp} {u : Nat → Hut}
theorem law5_E (hS : SOK rw st n w v) (hU : HUK rw m u) (h0 : 0 < n) (hm : 0 < m) (hj : j < 256) :
    ∃ hs, vx.call 5 [suV rw st n cw cv m cu, .int .u8 j] (retK fun r => r = .ret (.bool true)) (mSu tabC (spL n w) (spL n v) (huL m u)) hs := by
 have h8 := hS.n8
 have h5 := hU.m5
 have h6 := hS.rw6
 have hh : j % m < m := Nat.mod_lt _ hm
 obtain ⟨u0, u1, u2, u3, u4⟩ := hU.u (j % m) hh
 have hr6 : (u (j % m)).row < 6 := by omega
 have hp : ∀ i, i < n → (w i).lo ≤ (w i).hi ∧ (v i).lo ≤ (v i).hi := fun j hj => ⟨(hS.w j hj).2.1, (hS.v j hj).2.1⟩
 have c20 : ConOK Tryd.prog 20 (C20 rw st n cw n cv m cu (spL n w) (spL n v) (huL m u) true) := by
  have h := C20_ok (rw := rw) (st := st) (n := n) (cw := cw) (n2 := n) (cv := cv) (m := m) (cu := cu) (w := w) (v := v) (u := rwH u)
  rw [okSu_of hS hU] at h
  exact h
 have c14 := C14_ok (cw := cw) (cv := cv) (cu := cu) hS hU hh
 have hwj : IntKind.i64.wrap ((j : Nat) : Int) = (j : Int) := wrapI (by omega) (by omega)
 have hmod : (Value.int .i64 ((j % m : Nat) : Int)) = .int .i64 ((IntKind.i64.wrap ((j : Nat) : Int)).tmod (m : Int)) := by rw [hwj]; rfl
 have hm0 : ((m : Int) == (0 : Int)) = false := by simp only [beq_eq_false_iff_ne, ne_eq]; omega
 obtain ⟨q, hq0, hqn, hq3, hmin⟩ : ∃ q : Nat, 0 < q ∧ q ≤ n ∧ q ≤ 3 ∧ (if (n : Int) < 3 then (n : Int) else 3) = (q : Int) := by
  by_cases h : n < 3
  · exact ⟨n, h0, Nat.le_refl _, by omega, if_pos (by omega)⟩
  · exact ⟨3, by omega, by omega, Nat.le_refl _, if_neg (by omega)⟩
 have la := loop5a (wh := (j : Int)) (cw := cw) (cv := cv) (m := m) (cu := cu) (u := u) hS hqn hq3
 by_cases hbig : ((wypN w v q : Nat) : Int) > 700
 · refine ⟨_, (f5g rw st j n cw cv m cu 0 q 0 0 w v u (fun _ => 0) (fun _ => false) tabC 0 0 _).mpr ?_⟩
   rw [hmin]
   exact ⟨fun _ => ⟨C11t_ok, rfl, rfl⟩, fun _ => ⟨c20, rfl, tf hm0, cl5, la, tt (decide_eq_true hbig), C11t_ok, rfl, rfl⟩⟩
 · have hlt := perH_lt (st := st) (w := w) (v := v) h8 (u (j % m))
   have hlx := surH_lt (st := st) (w := w) (v := v) (x := u (j % m)) h8
   have lw := loop5w (cw := cw) (cv := cv) (cu := cu) hS hU hh hqn hq3 hq0 (K := wypN w v q) (by omega)
   have lz := loop5z (cw := cw) (cv := cv) (cu := cu) hS hU hh hqn hq3
   unfold s5w at lw
   rw [show (ints 3 fun h => ((raF st (u (j % m)) w v q 0 0 h : Nat) : Int)) = ints 3 fun _ => (0 : Int) from ints_congr fun i _ => by rw [raF_zero]; rfl,
    show boolsL 3 (loF st (u (j % m)) w v q 0 0) = boolsL 3 fun _ => false from bools_congr fun i _ => loF_zero i, ysF_zero, nsF_zero] at lw
   have y1 : (bits BinOp.and IntKind.i64 ((perH st w v n (u (j % m)) : Nat) : Int) (IntKind.i64.wrap (IntKind.i64.wrap ((1 : Int) * (2 : Int) ^ q) - 1)) != ((ysF st (u (j % m)) w v q (wypN w v q) 0 : Nat) : Int)) = false := by
    rw [ad_eq hlt (by omega), ysF_all hr6 h8 hp hqn hq3]; simp
   have hc8 : surH st w v n (u (j % m)) &&& (2 ^ q - 1) < 8 := by
    have h1 : surH st w v n (u (j % m)) &&& (2 ^ q - 1) ≤ 2 ^ q - 1 := Nat.and_le_right
    have h2 : (2 : Nat) ^ q ≤ 2 ^ 3 := Nat.pow_le_pow_right (by omega) hq3
    have h3 : (2 : Nat) ^ 3 = 8 := rfl
    have h4 : 0 < (2 : Nat) ^ q := Nat.two_pow_pos q
    omega
   have y2 : (bits BinOp.and IntKind.i64 ((surH st w v n (u (j % m)) : Nat) : Int) (IntKind.i64.wrap (IntKind.i64.wrap ((1 : Int) * (2 : Int) ^ q) - 1)) != bits BinOp.andNot IntKind.i64 (IntKind.i64.wrap (IntKind.i64.wrap ((1 : Int) * (2 : Int) ^ q) - 1)) ((nsF st (u (j % m)) w v q (wypN w v q) 0 : Nat) : Int)) = false := by
    rw [ad_eq hlx (by omega), an_eq2 (r := q) (by omega) nsF_lt hc8 (nsF_all hr6 h8 hp hqn hq3)]; simp
   refine ⟨_, (f5 rw st j n cw cv m cu (j % m) q (surH st w v n (u (j % m))) (perH st w v n (u (j % m))) w v u (fun h => (raF st (u (j % m)) w v q (wypN w v q) 0 h : Nat)) (loF st (u (j % m)) w v q (wypN w v q) 0) tabC (ysF st (u (j % m)) w v q (wypN w v q) 0) (nsF st (u (j % m)) w v q (wypN w v q) 0) _).mpr ?_⟩
   rw [hmin]
   exact ⟨fun _ => ⟨C11t_ok, rfl, rfl⟩, fun _ => ⟨c20, rfl, tf hm0, cl5, la, tf (decide_eq_false hbig), ⟨⟨by omega, rfl⟩, hmod⟩, cl5w (ra := fun _ => 0) (lo := fun _ => false), lw, c14, rfl, ⟨⟨by omega, by omega⟩, rfl⟩, tf y1, tf y2, cl5w (ra := fun h => (raF st (u (j % m)) w v q (wypN w v q) 0 h : Nat)) (lo := loF st (u (j % m)) w v q (wypN w v q) 0), lz, C11t_ok, rfl, rfl⟩⟩
end
end Go.Ab
