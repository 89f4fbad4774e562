/- the law HorseLeave: contracts of Leave, and of what the law asks without a set. -/
import Derived.Test.YtamfplmmfbbabaaVB
import Derived.Test.YtamfplmmfbbabaaVK
import Derived.Test.YtamfplmmfbbabaaVL
set_option maxRecDepth 100000
namespace Go.Ab
open Go Go.RowKit Go.Proofs
theorem f23t (p : Int) (n c many left : Nat) (f : Nat → Mv) (R : ARes → Prop) : (vx.call 23 [hV p n c, I many, .bool true] (retK R) (m1 (mvs n f)) ((20, .con (C68t p n c f)) :: (21, .val (.bool true)) :: (18, .again) :: (0, .con (C44 true p n c f)) :: (0, .again) :: (0, .con (C59 p n c many f (ordF true p n f n) left)) :: [])) =
(((ConOK Try.prog 68 (C68t p n c f)) ∧ (Con.pre (C68t p n c f) ⟨⟨[(I p)], [⟨n, c⟩]⟩, [(mvs n f)]⟩) ∧
((((some (.bool (decide ((↑many : Int) ≤ (7 : Int)))) : Option Value) = some (.bool true))) ∧
(((((some (I many) : Option Value) = some (I many))) ∧ (((((2 : Nat) ≤ (2 : Nat))) ∧ (((.agg ⟨[(I p), (.slice (.some ⟨0, 0, .none⟩) (n) (c))]⟩) : Value) = (.agg ⟨[(I p), (.slice (.some ⟨0, 0, .none⟩) (n) (c))]⟩))) ∧ (((((2 : Nat) ≤ (2 : Nat))) ∧ (((.agg ⟨[(I p), (.slice (.some ⟨0, 0, .none⟩) (n) (c))]⟩) : Value) = (.agg ⟨[(I p), (.slice (.some ⟨0, 0, .none⟩) (n) (c))]⟩))) ∧ (True)))) ∧
((ConOK Try.prog 44 (C44 true p n c f)) ∧ (Con.pre (C44 true p n c f) ⟨⟨[(I p)], [⟨n, c⟩]⟩, [(mvs n f)]⟩) ∧
(((((some (I many) : Option Value) = some (I many))) ∧ (((((2 : Nat) ≤ (2 : Nat))) ∧ (((.agg ⟨[(I p), (.slice (.some ⟨0, 0, .none⟩) (n) (c))]⟩) : Value) = (.agg ⟨[(I p), (.slice (.some ⟨0, 0, .none⟩) (n) (c))]⟩))) ∧ (True))) ∧
((ConOK Try.prog 59 (C59 p n c many f (ordF true p n f n) left)) ∧ (Con.pre (C59 p n c many f (ordF true p n f n) left) ⟨⟨[(I p), (I (ordF true p n f n (0 : Nat))), (I (ordF true p n f n (1 : Nat))), (I (ordF true p n f n (2 : Nat))), (I (ordF true p n f n (3 : Nat))), (I (ordF true p n f n (4 : Nat))), (I (ordF true p n f n (5 : Nat))), (I (ordF true p n f n (6 : Nat))), (I many)], [⟨n, c⟩]⟩, [(mvs n f)]⟩) ∧
R (.ret (.tuple ⟨[(I left), (I 0)]⟩))))))))) := by kernel_rfl
theorem f23f (p : Int) (n c many left : Nat) (f : Nat → Mv) (R : ARes → Prop) : (vx.call 23 [hV p n c, I many, .bool false] (retK R) (m1 (mvs n f)) ((20, .con (C68t p n c f)) :: (21, .val (.bool true)) :: (18, .again) :: (0, .con (C44 false p n c f)) :: (0, .again) :: (0, .con (C59 p n c many f (ordF false p n f n) left)) :: [])) =
(((ConOK Try.prog 68 (C68t p n c f)) ∧ (Con.pre (C68t p n c f) ⟨⟨[(I p)], [⟨n, c⟩]⟩, [(mvs n f)]⟩) ∧
((((some (.bool (decide ((↑many : Int) ≤ (7 : Int)))) : Option Value) = some (.bool true))) ∧
(((((some (I many) : Option Value) = some (I many))) ∧ (((((2 : Nat) ≤ (2 : Nat))) ∧ (((.agg ⟨[(I p), (.slice (.some ⟨0, 0, .none⟩) (n) (c))]⟩) : Value) = (.agg ⟨[(I p), (.slice (.some ⟨0, 0, .none⟩) (n) (c))]⟩))) ∧ (((((2 : Nat) ≤ (2 : Nat))) ∧ (((.agg ⟨[(I p), (.slice (.some ⟨0, 0, .none⟩) (n) (c))]⟩) : Value) = (.agg ⟨[(I p), (.slice (.some ⟨0, 0, .none⟩) (n) (c))]⟩))) ∧ (True)))) ∧
((ConOK Try.prog 44 (C44 false p n c f)) ∧ (Con.pre (C44 false p n c f) ⟨⟨[(I p)], [⟨n, c⟩]⟩, [(mvs n f)]⟩) ∧
(((((some (I many) : Option Value) = some (I many))) ∧ (((((2 : Nat) ≤ (2 : Nat))) ∧ (((.agg ⟨[(I p), (.slice (.some ⟨0, 0, .none⟩) (n) (c))]⟩) : Value) = (.agg ⟨[(I p), (.slice (.some ⟨0, 0, .none⟩) (n) (c))]⟩))) ∧ (True))) ∧
((ConOK Try.prog 59 (C59 p n c many f (ordF false p n f n) left)) ∧ (Con.pre (C59 p n c many f (ordF false p n f n) left) ⟨⟨[(I p), (I (ordF false p n f n (0 : Nat))), (I (ordF false p n f n (1 : Nat))), (I (ordF false p n f n (2 : Nat))), (I (ordF false p n f n (3 : Nat))), (I (ordF false p n f n (4 : Nat))), (I (ordF false p n f n (5 : Nat))), (I (ordF false p n f n (6 : Nat))), (I many)], [⟨n, c⟩]⟩, [(mvs n f)]⟩) ∧
R (.ret (.tuple ⟨[(I left), (I 0)]⟩))))))))) := by kernel_rfl
theorem z24nt (p : Int) (R : Hx → Prop) : (vx.call 24 [.agg ⟨[I p, nilS]⟩, .bool true] (retN (rowT3 0 3) R) ⟨.nil, 0⟩ ((29, .val (.bool true)) :: (3, .val (.bool true)) :: (37, .again) :: (28, .again) :: (22, .con (C83z fun x => (0 : Int))) :: [(58, .tm (0 : Nat) [((0 : Nat), (23 : Nat))])])) =
(((((some (.bool (decide ((0 : Int) ≤ p))) : Option Value) = some (.bool true))) ∧
((((some (.bool (decide (p ≤ (3 : Int)))) : Option Value) = some (.bool true))) ∧
((((((2 : Nat) ≤ (2 : Nat))) ∧ (((.agg ⟨[(I p), (.slice .none ((0 : Nat)) ((0 : Nat)))]⟩) : Value) = (.agg ⟨[(I p), (.slice .none ((0 : Nat)) ((0 : Nat)))]⟩))) ∧ (((((2 : Nat) ≤ (2 : Nat))) ∧ (((.agg ⟨[(I p), (.slice .none ((0 : Nat)) ((0 : Nat)))]⟩) : Value) = (.agg ⟨[(I p), (.slice .none ((0 : Nat)) ((0 : Nat)))]⟩))) ∧ (True))) ∧
((((((2 : Nat) ≤ (2 : Nat))) ∧ (((.agg ⟨[(I p), (.slice .none ((0 : Nat)) ((0 : Nat)))]⟩) : Value) = (.agg ⟨[(I p), (.slice .none ((0 : Nat)) ((0 : Nat)))]⟩))) ∧ (True)) ∧
((ConOK Try.prog 83 (C83z fun x => (0 : Int))) ∧ (Con.pre (C83z fun x => (0 : Int)) ⟨⟨[(I 0), (I 0), (I 0), (I 0), (I 0), (I 0), (I 0)], []⟩, []⟩) ∧
R ⟨⟨[(I 0), (I 0)], [⟨((0 : Nat)), ((0 : Nat))⟩]⟩, [[]]⟩)))))) := by kernel_rfl
theorem z24nf (p : Int) (R : Hx → Prop) : (vx.call 24 [.agg ⟨[I p, nilS]⟩, .bool false] (retN (rowT3 0 3) R) ⟨.nil, 0⟩ ((29, .val (.bool true)) :: (3, .val (.bool true)) :: (37, .again) :: (28, .again) :: (22, .con (C83z fun x => (0 : Int))) :: [(58, .tm (0 : Nat) [((0 : Nat), (23 : Nat))])])) =
(((((some (.bool (decide ((0 : Int) ≤ p))) : Option Value) = some (.bool true))) ∧
((((some (.bool (decide (p ≤ (3 : Int)))) : Option Value) = some (.bool true))) ∧
((((((2 : Nat) ≤ (2 : Nat))) ∧ (((.agg ⟨[(I p), (.slice .none ((0 : Nat)) ((0 : Nat)))]⟩) : Value) = (.agg ⟨[(I p), (.slice .none ((0 : Nat)) ((0 : Nat)))]⟩))) ∧ (((((2 : Nat) ≤ (2 : Nat))) ∧ (((.agg ⟨[(I p), (.slice .none ((0 : Nat)) ((0 : Nat)))]⟩) : Value) = (.agg ⟨[(I p), (.slice .none ((0 : Nat)) ((0 : Nat)))]⟩))) ∧ (True))) ∧
((((((2 : Nat) ≤ (2 : Nat))) ∧ (((.agg ⟨[(I p), (.slice .none ((0 : Nat)) ((0 : Nat)))]⟩) : Value) = (.agg ⟨[(I p), (.slice .none ((0 : Nat)) ((0 : Nat)))]⟩))) ∧ (True)) ∧
((ConOK Try.prog 83 (C83z fun x => (0 : Int))) ∧ (Con.pre (C83z fun x => (0 : Int)) ⟨⟨[(I 0), (I 0), (I 0), (I 0), (I 0), (I 0), (I 0)], []⟩, []⟩) ∧
R ⟨⟨[(I 0), (I 0)], [⟨((0 : Nat)), ((0 : Nat))⟩]⟩, [[]]⟩)))))) := by kernel_rfl
section
variable {p : Int} {n c many : Nat} {f : Nat → Mv} {sure : Bool}
theorem hok_kept (h : HOK p n f) (s : Nat) : HOK p (kept s n).length (fun k => f (keptN s n k)) := ⟨h.p0, h.p3, by have := kept_len s n; have := h.n7; omega, fun k hk => h.mv _ (keptN_lt hk)⟩
def fewW (sure : Bool) (p : Int) (n : Nat) (f : Nat → Mv) (s : Nat) : Nat := fewH sure p (kept s n).length (fun k => f (keptN s n k))
theorem canK (h : HOK p n f) {s i j : Nat} (hi : i < (kept s n).length) (hj : j < (kept s n).length) : canO (ordF sure p n f n) (keptN s n) i j = canB sure p (fun k => f (keptN s n k)) i j := hasI_ord sure p f h.n7 (keptN_lt hi) (keptN_lt hj)
theorem fewK_W (h : HOK p n f) (s : Nat) : fewK (ordF sure p n f n) n s = fewW sure p n f s := by
  have hk := hok_kept h s
  have hl := hk.n7
  have hq : ∀ i j, i < (kept s n).length → j < (kept s n).length → keptN s n i = keptN s n j → i = j := fun i j hi hj e => keptN_inj hi hj e
  refine Nat.le_antisymm ?_ ?_
  · obtain ⟨X, h1, h2⟩ := anti_ex (can := canO (ordF sure p n f n) (keptN s n)) (q := keptN s n) (n := (kept s n).length) hq hl
    refine Nat.le_trans h2 (few_le (sure := sure) hk fun i j hi hj hx hy => ?_)
    rw [← canK h hi hj]
    exact h1 i j hi hj hx hy
  · obtain ⟨X, h1, h2⟩ := few_ex (sure := sure) hk
    refine Nat.le_trans h2 (anti_le (can := canO (ordF sure p n f n) (keptN s n)) (q := keptN s n) (n := (kept s n).length) hq hl (fun i => (f (keptN s n i)).at_.toNat) (fun i j hi hj hc => ?_) (fun i j k hi hj hk2 h3 h4 => ?_) (fun i j hi hj hx hy => ?_))
    · rw [canK h hi hj] at hc
      exact can_mu hk hi hj hc
    · rw [canK h hi hj] at h3
      rw [canK h hj hk2] at h4
      rw [canK h hi hk2]
      exact can_trans hk hi hj hk2 h3 h4
    · rw [canK h hi hj]
      exact h1 i j hi hj hx hy
def leaveH (sure : Bool) (p : Int) (n : Nat) (f : Nat → Mv) (many : Nat) : Nat := leaveF (ordF sure p n f n) n many
theorem leave_least (h : HOK p n f) : Least (fun s => decide (fewW sure p n f s ≤ many)) popN n (leaveH sure p n f many) := by
  have hl := leaveF_least (o := ordF sure p n f n) (many := many) h.n7
  have e : goodK (ordF sure p n f n) n many = fun s => decide (fewW sure p n f s ≤ many) := funext fun s => by unfold goodK; rw [fewK_W h]
  rw [e] at hl
  exact hl
theorem C23_ok (sure : Bool) (hok : okH p n f = true) (hm : many ≤ 7) : ConOK Try.prog 23 (C23 sure p n c many f (leaveH sure p n f many)) := by
  have hn := (okH_iff hok).n7
  refine con_of vx_sound _ (fun y hy => ?_) rfl (fun y _ => rfl) (fun y hy => ?_) rfl (Nat.le_of_ble_eq_true rfl) (by rw [nglob]; exact Nat.zero_le _)
  · cases hy
    have e7 : (some (.bool (decide ((many : Int) ≤ 7))) : Option Value) = some (.bool true) := by rw [decide_eq_true (by omega)]
    cases sure
    · refine ⟨_, (f23f p n c many (leaveF (ordF false p n f n) n many) f _).mpr ?_⟩
      repeat' (first | with_reducible apply And.intro | with_reducible intro)
      all_goals first | exact C68t_ok p n c f (by omega) | exact C44_ok _ p n c f hn | exact C59_ok hn | exact e7 | exact hok | exact trivial | rfl | exact Nat.le_refl _ | (exact ⟨rfl, hok⟩)
    · refine ⟨_, (f23t p n c many (leaveF (ordF true p n f n) n many) f _).mpr ?_⟩
      repeat' (first | with_reducible apply And.intro | with_reducible intro)
      all_goals first | exact C68t_ok p n c f (by omega) | exact C44_ok _ p n c f hn | exact C59_ok hn | exact e7 | exact hok | exact trivial | rfl | exact Nat.le_refl _ | (exact ⟨rfl, hok⟩)
  · cases hy
    exact mvs_atoms n f
theorem C24n_ok (sure : Bool) (h0 : 0 ≤ p) (h3 : p ≤ 3) : ConNOK Try.prog 24 (C24n sure p) := by
  refine conRow3_of rfl vx_sound (C := C24n sure p) (n := 0) (cells := []) (e := 3) (y0 := 0) (z := 0) ⟨⟨[I p, .bool sure], []⟩, []⟩ (fun x => Iff.rfl) rfl rfl rfl ?_ (fun cs h => (by cases h)) (fun v hv => by cases hv) rfl (Nat.le_of_ble_eq_true rfl) (by rw [nglob]; exact Nat.zero_le _)
  have e0 : decide (0 ≤ p) = true := decide_eq_true h0
  have e3 : decide (p ≤ 3) = true := decide_eq_true h3
  cases sure
  · refine ⟨_, (z24nf p _).mpr ?_⟩
    simp only [e0, e3]
    repeat' (first | with_reducible apply And.intro | with_reducible intro)
    all_goals first | exact C83z_ok | exact trivial | rfl | exact Nat.le_refl _ | omega
  · refine ⟨_, (z24nt p _).mpr ?_⟩
    simp only [e0, e3]
    repeat' (first | with_reducible apply And.intro | with_reducible intro)
    all_goals first | exact C83z_ok | exact trivial | rfl | exact Nat.le_refl _ | omega
end
end Go.Ab
