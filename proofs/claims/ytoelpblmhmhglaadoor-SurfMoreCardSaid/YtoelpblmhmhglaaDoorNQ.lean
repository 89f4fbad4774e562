/- package surf: Save of surfs without hours, or without huts. -/
import Derived.Test.YtoelpblmhmhglaaDoorNL
import Derived.Test.YtoelpblmhmhglaaDoorNM
import Derived.Test.YtoelpblmhmhglaaDoorNK
import Derived.Test.YtoelpblmhmhglaaDoorNN
import Derived.Test.YtoelpblmhmhglaaDoorNP
set_option maxRecDepth 100000
namespace Go.Ab
open Go Go.RowKit Go.Proofs
theorem f21d (rw st : Int) (n cw cv m cu many F left : Nat) (f : Nat → Int) (L : Nat → Int) (w v : Nat → Sp) (u : Nat → Hut) (tb : List Value) (es2 : List (Value × Value)) (R : Hx → Prop) : (vx.call 21 [suV rw st n cw cv m cu, I many] (retN (rowTs 5 3) R) (mSu tb (spL n w) (spL n v) (huL m u)) ((20, .con (C79 rw st n cw cv m cu (spL n w) (spL n v) (huL m u))) :: (19, .val (.bool true)) :: (8, .conW (CW57 rw st n cw cv m cu many tb (spL n w) (spL n v) (huL m u) [] es2 F (f 0) (f 1) (f 2) (f 3) (f 4))) :: (19, .con (C101 F)) :: (2, .loopW T96od AExit.ret R96 fun _ => r96 m left L) :: [(22, .tm 0 [((5 : Nat), (25 : Nat))])])) =
((CA 79 (C79 rw st n cw cv m cu (spL n w) (spL n v) (huL m u)) ⟨⟨[(I rw), (I st)], [⟨n, cw⟩, ⟨n, cv⟩, ⟨m, cu⟩]⟩, [(spL n w), (spL n v), (huL m u)]⟩ <|
((OT (decide ((many : Int) ≤ 5)) true) ∧
(CW 57 (CW57 rw st n cw cv m cu many tb (spL n w) (spL n v) (huL m u) [] es2 F (f 0) (f 1) (f 2) (f 3) (f 4)) ⟨⟨[(I rw), (I st), (I many)], [⟨n, cw⟩, ⟨n, cv⟩, ⟨m, cu⟩]⟩, [tb, (spL n w), (spL n v), (huL m u)], [[]]⟩ <|
(CA 101 (C101 F) ⟨⟨[(I F)], []⟩, []⟩ <|
(LW p96o T96od ⟨⟨[(I F), (I (IntKind.i64.wrap ((↑(popN F) : Int) + (1 : Int)))), (I 0)], []⟩, [[(I many), (I m), (I F), (I (f (0 : Nat))), (I (f (1 : Nat))), (I (f (2 : Nat))), (I (f (3 : Nat))), (I (f (4 : Nat)))]], []⟩ .ret R96 ⟨⟨[(I left), (.bool true)], [⟨m, m⟩]⟩, [(ints m L)], []⟩ <|
R ⟨⟨[(I left), (I 0)], [⟨m, m⟩]⟩, [(ints m L)]⟩)))))) := by kernel_rfl
section
variable {rw st : Int} {n cw cv m cu many : Nat} {w v : Nat → Sp} {u : Nat → Hut}
theorem C21d_ok (hS : SOK rw st n w v) (hU : HUK rw m u) (hmany : many ≤ 5) : ConNOK Tryd.prog 21 (C21s rw st n cw cv m cu many tabC (spL n w) (spL n v) (huL m u) (ints m (savL st w v n m u many)) m (savQ st w v n m u many : Nat)) := by
 have h5 := hU.m5
 have h8 := hS.n8
 have hF : savF (perY st w v n u) m < 32 := Nat.lt_of_lt_of_le (savF_lt _ m) (Nat.pow_le_pow_right (n := 2) (by omega) h5)
 have hlim : ∀ i, i < m → limN (perY st w v n u) m i < 8 := fun i _ => by
  unfold limN
  split
  · rename_i h
    exact (tz_eq (y := perY st w v n u i) (perH_lt h8 (u i)) h.2).2.2.1
  · omega
 have c57 := C57_ok (cw := cw) (cv := cv) (cu := cu) (many := (many : Int)) hS hU (M := []) kp0
 have c101 := C101_ok (s := savF (perY st w v n u) m) (by omega)
 obtain ⟨q, hq⟩ := best_some (many := many) (m := m) (F := savF (perY st w v n u) m) (lim := limN (perY st w v n u) m)
 have hQ : savQ st w v n m u many = q := by unfold savQ; rw [hq]; rfl
 have hl := fun T' => loop96od (T' := T') h5 hmany hlim hF
 rw [hq] at hl
 have hwp : IntKind.i64.wrap (((popN (savF (perY st w v n u) m) : Nat) : Int) + 1) = (popN (savF (perY st w v n u) m) : Int) + 1 := by
  have : popN (savF (perY st w v n u) m) ≤ 8 := popN_le
  exact wrapI (by omega) (by omega)
 unfold savL
 rw [hQ]
 rw [show savF (fun j => perH st w v n (u j)) m = savF (perY st w v n u) m from rfl, show (fun j => perH st w v n (u j)) = perY st w v n u from rfl, limN_savT, limN_savT, limN_savT, limN_savT, limN_savT] at c57
 refine conRowS_of rfl vx_sound ⟨⟨[I rw, I st, I many], [(n, cw), (n, cv), (m, cu)]⟩, [tabC, spL n w, spL n v, huL m u]⟩ (fun x => Iff.rfl) rfl rfl rfl ⟨_, (f21d rw st n cw cv m cu many (savF (perY st w v n u) m) q (fun i => (limN (perY st w v n u) m i : Nat)) (drwG many m (savF (perY st w v n u) m) (limN (perY st w v n u) m) q).2.L w v u tabC (encK (savM st w v n u [] m)) _).mpr ?_⟩ at4 (ints_at _ _) rfl (Nat.le_of_ble_eq_true rfl) (by rw [nglob]; exact Nat.le_of_ble_eq_true rfl)
 rw [hwp]
 exact ⟨C79_ok hS hU, rfl, tt (decide_eq_true (by omega)), c57, rfl, c101, rfl, clOd 0, hl R96 rfl, rfl⟩
end
end Go.Ab
