/- package horse: the jobs that are not left out. -/
import Derived.Test.YtamfplmmfbbabaaVB
import Derived.Test.YtamfplmmfbbabaaVI
set_option maxRecDepth 100000
namespace Go.Ab
open Go Go.RowKit Go.Proofs
theorem b84a (s : Int) (i n c : Nat) (f : Nat → Mv) (R : Nat → AExit → Hw → Prop) : (vx.code none (.l p84) (leafW [T84a, T84b] R) (T84a.inst (ha84 s n c i f)) ([(0, .split ((1, .val (.pointer (.some ⟨((2 : Nat)), ((0 : Nat) + i * (5 : Nat)), .none⟩))) :: (0, .val (.agg ⟨[(I ((f i).at_)), (I ((f i).place)), (I ((f i).lo)), (I ((f i).hi)), (I i)]⟩)) :: (9, .val (I (s / (2 : Int) ^ i))) :: [(1, .split ([(5, .tm 0 [])]) ([(10, .tm (1 : Nat) [((3 : Nat), (5 : Nat))])]))]) ([(1, .tm 0 [])]))])) =
((((decide ((↑i : Int) < (↑n : Int))) = true → ((((((0 : Int) ≤ (↑i : Int))) ∧ (((↑i : Int) < (↑n : Int)))) ∧ (((.pointer (.some ⟨((2 : Nat)), ((0 : Nat) + i * (5 : Nat)), .none⟩)) : Value) = (.pointer (.some ⟨((2 : Nat)), ((0 : Nat) + i * (5 : Nat)), .none⟩)))) ∧
(((((0 : Nat) + i * (5 : Nat) + (5 : Nat) ≤ (jobsC n f).length)) ∧ (((.agg ⟨[(I ((f i).at_)), (I ((f i).place)), (I ((f i).lo)), (I ((f i).hi)), (I i)]⟩) : Value) = (.agg ⟨(List.take ((5 : Nat)) (List.drop ((0 : Nat) + i * (5 : Nat)) (jobsC n f)))⟩))) ∧
((((((0 : Int) ≤ (↑i : Int))) ∧ (((↑i : Int) ≤ (↑(64 : Nat) : Int)))) ∧ (((I (s / (2 : Int) ^ i)) : Value) = (I (s / (2 : Int) ^ i)))) ∧
(((bits BinOp.and IntKind.i64 (s / (2 : Int) ^ i) (1 : Int) == (1 : Int)) = true → R 0 .normal ⟨⟨[(I s), (I n), (I (IntKind.i64.wrap ((↑i : Int) + (1 : Int))))], [⟨n, c⟩]⟩, [(jobsC n f)], []⟩) ∧
((bits BinOp.and IntKind.i64 (s / (2 : Int) ^ i) (1 : Int) == (1 : Int)) = false → R 1 .normal ⟨⟨[(I s), (I n), (I (IntKind.i64.wrap ((↑i : Int) + (1 : Int))))], [⟨((1 : Nat)), ((1 : Nat))⟩, ⟨n, c⟩]⟩, [(jobsC n f), [(I ((f i).at_)), (I ((f i).place)), (I ((f i).lo)), (I ((f i).hi)), (I i)]], []⟩)))))) ∧
((decide ((↑i : Int) < (↑n : Int))) = false → R 0 (.exit ((0 : Nat))) ⟨⟨[(I s), (I n), (I i)], [⟨n, c⟩]⟩, [(jobsC n f)], []⟩))) := by kernel_rfl
theorem b84b (s : Int) (i n c j : Nat) (f : Nat → Mv) (ls : List Value) (R : Nat → AExit → Hw → Prop) : (vx.code none (.l p84) (leafW [T84a, T84b] R) (T84b.inst (hb84 s n c i j f ls)) ([(0, .split ((1, .val (.pointer (.some ⟨((2 : Nat)), ((0 : Nat) + i * (5 : Nat)), .none⟩))) :: (0, .val (.agg ⟨[(I ((f i).at_)), (I ((f i).place)), (I ((f i).lo)), (I ((f i).hi)), (I i)]⟩)) :: (9, .val (I (s / (2 : Int) ^ i))) :: [(1, .split ([(5, .tm (1 : Nat) [((3 : Nat), (3 : Nat))])]) ((6, .grow) :: [(3, .tm (1 : Nat) [((3 : Nat), (6 : Nat))])]))]) ([(1, .tm (1 : Nat) [((3 : Nat), (3 : Nat))])]))])) =
((((decide ((↑i : Int) < (↑n : Int))) = true → ((((((0 : Int) ≤ (↑i : Int))) ∧ (((↑i : Int) < (↑n : Int)))) ∧ (((.pointer (.some ⟨((2 : Nat)), ((0 : Nat) + i * (5 : Nat)), .none⟩)) : Value) = (.pointer (.some ⟨((2 : Nat)), ((0 : Nat) + i * (5 : Nat)), .none⟩)))) ∧
(((((0 : Nat) + i * (5 : Nat) + (5 : Nat) ≤ (jobsC n f).length)) ∧ (((.agg ⟨[(I ((f i).at_)), (I ((f i).place)), (I ((f i).lo)), (I ((f i).hi)), (I i)]⟩) : Value) = (.agg ⟨(List.take ((5 : Nat)) (List.drop ((0 : Nat) + i * (5 : Nat)) (jobsC n f)))⟩))) ∧
((((((0 : Int) ≤ (↑i : Int))) ∧ (((↑i : Int) ≤ (↑(64 : Nat) : Int)))) ∧ (((I (s / (2 : Int) ^ i)) : Value) = (I (s / (2 : Int) ^ i)))) ∧
(((bits BinOp.and IntKind.i64 (s / (2 : Int) ^ i) (1 : Int) == (1 : Int)) = true → R 1 .normal ⟨⟨[(I s), (I n), (I (IntKind.i64.wrap ((↑i : Int) + (1 : Int))))], [⟨j, j⟩, ⟨n, c⟩]⟩, [(jobsC n f), (ls)], []⟩) ∧
((bits BinOp.and IntKind.i64 (s / (2 : Int) ^ i) (1 : Int) == (1 : Int)) = false → ((((¬j + (1 : Nat) ≤ j)) ∧ (((j * (5 : Nat) = ls.length)) ∧ ((((j + (1 : Nat)) * (40 : Nat) ≤ (140737488355328 : Nat))) ∧ ((j + (1 : Nat) ≤ (4611686018427387904 : Nat)))))) ∧
R 1 .normal ⟨⟨[(I s), (I n), (I (IntKind.i64.wrap ((↑i : Int) + (1 : Int))))], [⟨(j + (1 : Nat)), (j + (1 : Nat))⟩, ⟨n, c⟩]⟩, [(jobsC n f), ((List.take (j * (5 : Nat)) (ls)) ++ [(I ((f i).at_)), (I ((f i).place)), (I ((f i).lo)), (I ((f i).hi)), (I i)])], []⟩))))))) ∧
((decide ((↑i : Int) < (↑n : Int))) = false → R 1 (.exit ((0 : Nat))) ⟨⟨[(I s), (I n), (I i)], [⟨j, j⟩, ⟨n, c⟩]⟩, [(jobsC n f), (ls)], []⟩))) := by kernel_rfl
theorem f84 (p s : Int) (n c m : Nat) (f : Nat → Mv) (js : List Value) (R : Hx → Prop) : (vx.call 84 [hV p n c, I s] (retN (rowT 1 97) R) (m1 (mvs n f)) ((5, .conN (C49 p n c f)) :: (2, .loopW T84a (.exit (0 : Nat)) T84b fun x => hb84 s n n n m f js) :: [(2, .tm (0 : Nat) [((1 : Nat), (3 : Nat))])])) =
(((ConNOK Try.prog 49 (C49 p n c f)) ∧ (ConN.pre (C49 p n c f) ⟨⟨[(I p)], [⟨n, c⟩]⟩, [(mvs n f)]⟩) ∧
((ClW ⟨⟨[(I s), (I n), (I 0)], [⟨n, n⟩]⟩, [(jobsC n f)], []⟩) ∧ (LoopOW Try.prog .none p84 (T84a) ⟨⟨[(I s), (I n), (I 0)], [⟨n, n⟩]⟩, [(jobsC n f)], []⟩ (.exit ((0 : Nat))) (T84b) ⟨⟨[(I s), (I n), (I n)], [⟨m, m⟩, ⟨n, n⟩]⟩, [(jobsC n f), (js)], []⟩) ∧
R ⟨⟨[], [⟨m, m⟩]⟩, [(js)]⟩))) := by kernel_rfl
theorem f80c (n : Nat) (R : ARes → Prop) : (vx.call 80 [I n] (retK R) ⟨.nil, 0⟩ ((3, .val (I (IntKind.i64.wrap ((1 : Int) * (2 : Int) ^ n)))) :: [])) =
(((((((0 : Int) ≤ (↑n : Int))) ∧ (((↑n : Int) ≤ (↑(64 : Nat) : Int)))) ∧ (((I (IntKind.i64.wrap ((1 : Int) * (2 : Int) ^ n))) : Value) = (I (IntKind.i64.wrap ((1 : Int) * (2 : Int) ^ n))))) ∧
R (.ret (I (IntKind.i64.wrap (IntKind.i64.wrap ((1 : Int) * (2 : Int) ^ n) - (1 : Int))))))) := by kernel_rfl
theorem bitQ {s i : Nat} (hf : s < 128) : (bits BinOp.and IntKind.i64 ((s : Int) / (2 : Int) ^ i) (1 : Int) == (1 : Int)) = s.testBit i := by
  have e : (1 : Int) = ((1 : Nat) : Int) := rfl
  have e2 : ((s : Int) / (2 : Int) ^ i) = ((s / 2 ^ i : Nat) : Int) := by simp
  have h3 : s / 2 ^ i ≤ s := Nat.div_le_self _ _
  rw [e2, e, and_nat _ 1 (by omega) (by omega)]
  rw [Nat.and_one_is_mod]
  simp only [Nat.testBit, Nat.shiftRight_eq_div_pow, Nat.one_and_eq_mod_two]
  have : s / 2 ^ i % 2 = 0 ∨ s / 2 ^ i % 2 = 1 := by omega
  rcases this with h0 | h0 <;> rw [h0] <;> rfl
theorem jobsL_app (f : Nat → Mv) (l : List Nat) (i : Nat) : jobsL f (l ++ [i]) = jobsL f l ++ jobV f i := by simp [jobsL]
theorem jobsL_len (f : Nat → Mv) (l : List Nat) : (jobsL f l).length = l.length * 5 := by
  induction l with
  | nil => rfl
  | cons i l ih =>
    show (jobV f i ++ jobsL f l).length = _
    rw [List.length_append, ih, List.length_cons]
    show 5 + _ = _
    omega
theorem jobsL_at (f : Nat → Mv) (l : List Nat) : ∀ v ∈ jobsL f l, atomic v = true := by
  induction l with
  | nil => intro v hv; cases hv
  | cons i l ih =>
    intro v hv
    rcases List.mem_append.1 (show v ∈ jobV f i ++ jobsL f l from hv) with hv | hv
    · simp only [jobV, List.mem_cons, List.not_mem_nil, or_false] at hv
      rcases hv with rfl | rfl | rfl | rfl | rfl <;> rfl
    · exact ih v hv
theorem flatL {g : Nat → List Value} : ∀ (l : List Nat), flatC l.length (fun k => g (l.getD k 0)) = l.flatMap g := by
  have key : ∀ (l a : List Nat), flatC l.length (fun k => g ((a ++ l).getD (a.length + k) 0)) = l.flatMap g := by
    intro l
    induction l with
    | nil => intro a; rfl
    | cons i l ih =>
      intro a
      have h := ih (a ++ [i])
      simp only [flatC, List.length_cons, List.range_succ_eq_map, List.flatMap_cons, List.flatMap_map] at h ⊢
      have e0 : (a ++ i :: l).getD (a.length + 0) 0 = i := by simp [List.getD_eq_getElem?_getD]
      rw [e0, ← h]
      congr 1
      congr 1
      funext k
      simp only [List.append_assoc, List.singleton_append, List.length_append, List.length_singleton, Nat.succ_eq_add_one]
      congr 2
      omega
  intro l
  have := key l []
  simpa using this
theorem jobsL_U (f : Nat → Mv) (s n : Nat) : jobsL f (kept s n) = jobsU (kept s n).length (fun k => f (keptN s n k)) (keptN s n) := by
  unfold jobsU jobsL
  rw [← flatL]
  rfl
section
variable {p : Int} {n c s : Nat} {f : Nat → Mv}
noncomputable def st84 (s n i : Nat) (f : Nat → Mv) : Nat × Hw := if (kept s i).length = 0 then (0, ha84 s n n i f) else (1, hb84 s n n i (kept s i).length f (jobsL f (kept s i)))
theorem cl84 (i : Nat) : ClW (st84 s n i f).2 := by
  unfold st84
  split
  · refine ⟨fun cs hc => ?_, fun es hc => (by cases hc)⟩
    simp only [ha84, List.mem_singleton] at hc
    subst hc
    exact jobsC_atoms n f
  · refine ⟨fun cs hc => ?_, fun es hc => (by cases hc)⟩
    simp only [hb84, List.mem_cons, List.not_mem_nil, or_false] at hc
    rcases hc with rfl | rfl
    · exact jobsC_atoms n f
    · exact jobsL_at f _
theorem jobsC_part {i : Nat} (h : i < n) : ((jobsC n f).drop (0 + i * 5)).take 5 = jobV f i := by
  rw [Nat.zero_add]
  exact flatC_part (g := jobV f) (fun i _ => rfl) h
theorem loop84 (hs : s < 128) (hn : n ≤ 7) {T1 : Tw} (h1 : [T84a, T84b][(st84 s n n f).1]? = some T1) : LoopOW Try.prog none p84 T84a (ha84 s n n 0 f) (.exit 0) T1 (st84 s n n f).2 := by
  refine loop_forW (Ts := [T84a, T84b]) (k := 3) (n := n) (e := .exit 0) (st := fun i => st84 s n i f) rfl vx_sound ?_ (by rw [nglob]; omega) ⟨by simp, trivial⟩ (fun i _ => cl84 i) (fun i hi R hR => ?_) (fun R hR => ?_) rfl (Nat.le_of_ble_eq_true rfl) (by decide) h1
  · intro T hT
    simp only [List.mem_cons, List.not_mem_nil, or_false] at hT
    rcases hT with rfl | rfl <;> rfl
  · have hw : IntKind.i64.wrap ((i : Int) + 1) = ((i + 1 : Nat) : Int) := wrapI (by omega) (by omega)
    have hlen : 0 + i * 5 + 5 ≤ (jobsC n f).length := by rw [jobsC_len]; have := flatC_bound (k := 5) hi; omega
    have hpart : (Value.agg ⟨[I (f i).at_, I (f i).place, I (f i).lo, I (f i).hi, I (i : Nat)]⟩) = .agg ⟨((jobsC n f).drop (0 + i * 5)).take 5⟩ := by rw [jobsC_part hi]; rfl
    have hk := kept_len s i
    by_cases hz : (kept s i).length = 0
    · have e0 : st84 s n i f = (0, ha84 s n n i f) := by unfold st84; rw [if_pos hz]
      refine ⟨T84a, ?_⟩
      rw [e0]
      refine ⟨_, rfl, (b84a s i n n f R).mpr ⟨fun _ => ⟨⟨⟨by omega, by omega⟩, rfl⟩, ⟨hlen, hpart⟩, ⟨⟨by omega, by omega⟩, rfl⟩, fun hb => ?_, fun hb => ?_⟩, fun h => absurd (by omega) (of_decide_eq_false h)⟩⟩
      · rw [bitQ hs] at hb
        have e1 : kept s (i + 1) = kept s i := by simp only [kept, hb, if_true]
        have e2 : st84 s n (i + 1) f = (0, ha84 s n n (i + 1) f) := by unfold st84; rw [e1, if_pos hz]
        rw [hw]
        rw [e2] at hR
        exact hR
      · rw [bitQ hs] at hb
        have e1 : kept s (i + 1) = [i] := by
          have : kept s i = [] := List.length_eq_zero_iff.1 hz
          simp only [kept, hb, this]
          rfl
        have e2 : st84 s n (i + 1) f = (1, hb84 s n n (i + 1) 1 f (jobV f i)) := by
          unfold st84
          rw [e1, if_neg (by simp)]
          show (1, hb84 s n n (i + 1) 1 f (jobsL f [i])) = _
          have : jobsL f [i] = jobV f i := by simp [jobsL]
          rw [this]
        rw [hw]
        rw [e2] at hR
        exact hR
    · have e0 : st84 s n i f = (1, hb84 s n n i (kept s i).length f (jobsL f (kept s i))) := by unfold st84; rw [if_neg hz]
      refine ⟨T84b, ?_⟩
      rw [e0]
      refine ⟨_, rfl, (b84b s i n n (kept s i).length f (jobsL f (kept s i)) R).mpr ⟨fun _ => ⟨⟨⟨by omega, by omega⟩, rfl⟩, ⟨hlen, hpart⟩, ⟨⟨by omega, by omega⟩, rfl⟩, fun hb => ?_, fun hb => ?_⟩, fun h => absurd (by omega) (of_decide_eq_false h)⟩⟩
      · rw [bitQ hs] at hb
        have e1 : kept s (i + 1) = kept s i := by simp only [kept, hb, if_true]
        have e2 : st84 s n (i + 1) f = (1, hb84 s n n (i + 1) (kept s i).length f (jobsL f (kept s i))) := by unfold st84; rw [e1, if_neg hz]
        rw [hw]
        rw [e2] at hR
        exact hR
      · rw [bitQ hs] at hb
        have e1 : kept s (i + 1) = kept s i ++ [i] := by simp only [kept, hb, Bool.false_eq_true, if_false]
        have e2 : st84 s n (i + 1) f = (1, hb84 s n n (i + 1) ((kept s i).length + 1) f (jobsL f (kept s i) ++ jobV f i)) := by
          unfold st84
          rw [e1, if_neg (by simp), jobsL_app, List.length_append, List.length_singleton]
        refine ⟨⟨by omega, by rw [jobsL_len], by omega, by omega⟩, ?_⟩
        rw [hw, ← jobsL_len f, List.take_length]
        rw [e2] at hR
        exact hR
  · by_cases hz : (kept s n).length = 0
    · have e0 : st84 s n n f = (0, ha84 s n n n f) := by unfold st84; rw [if_pos hz]
      rw [e0] at hR ⊢
      exact ⟨T84a, _, rfl, (b84a s n n n f R).mpr ⟨fun h => absurd (of_decide_eq_true h) (by omega), fun _ => hR⟩⟩
    · have e0 : st84 s n n f = (1, hb84 s n n n (kept s n).length f (jobsL f (kept s n))) := by unfold st84; rw [if_neg hz]
      rw [e0] at hR ⊢
      exact ⟨T84b, _, rfl, (b84b s n n n (kept s n).length f (jobsL f (kept s n)) R).mpr ⟨fun h => absurd (of_decide_eq_true h) (by omega), fun _ => hR⟩⟩
theorem C84_ok (hs : s < 128) (hn : n ≤ 7) (hk : (kept s n).length ≠ 0) : ConNOK Try.prog 84 (C84 p s n c (kept s n).length (mvs n f) (jobsL f (kept s n))) := by
  have hn0 : 0 < n := by have := kept_len s n; omega
  refine conRow_of rfl vx_sound (C := C84 p s n c (kept s n).length (mvs n f) (jobsL f (kept s n))) (n := (kept s n).length) (cells := jobsL f (kept s n)) (e := 97) ⟨⟨[I p, I s], [(n, c)]⟩, [mvs n f]⟩ (fun x => Iff.rfl) rfl rfl rfl ⟨_, (f84 p s n c (kept s n).length f (jobsL f (kept s n)) _).mpr ⟨C49_ok p n c f hn0 (by omega), rfl, ?_, ?_, rfl⟩⟩ (mvs_atoms n f) (jobsL_at f _) rfl (Nat.le_of_ble_eq_true rfl) (by rw [nglob]; exact Nat.zero_le _)
  · exact ⟨fun cs hc => by simp only [List.mem_singleton] at hc; subst hc; exact jobsC_atoms n f, fun es hc => (by cases hc)⟩
  · have e0 : st84 s n n f = (1, hb84 s n n n (kept s n).length f (jobsL f (kept s n))) := by unfold st84; rw [if_neg hk]
    have h := loop84 (f := f) (T1 := T84b) hs hn (by rw [e0]; rfl)
    rw [e0] at h
    exact h
theorem C80_ok (hn : n ≤ 7) : ConOK Try.prog 80 (C80 n) := by
  refine con_of vx_sound _ (fun y hy => ?_) rfl (fun y _ => rfl) (fun y hy => ?_) rfl (Nat.le_of_ble_eq_true rfl) (by rw [nglob]; exact Nat.zero_le _)
  · cases hy
    refine ⟨_, (f80c n _).mpr ⟨⟨⟨by omega, by omega⟩, rfl⟩, ?_⟩⟩
    obtain ⟨h1, h2⟩ := two_pow_lt hn
    have e : (1 : Int) * 2 ^ n = ((2 ^ n : Nat) : Int) := by simp
    show ARes.ret _ = ARes.ret (I (2 ^ n - 1 : Nat))
    rw [e]
    generalize 2 ^ n = z at h1 h2
    rw [wrapI (x := (z : Int)) (by omega) (by omega), wrapI (x := (z : Int) - 1) (by omega) (by omega)]
    have : (z : Int) - 1 = ((z - 1 : Nat) : Int) := by omega
    first | (rw [this]; done) | (rw [this]; rfl)
  · cases hy
    intro cs hcs
    cases hcs
end
end Go.Ab
