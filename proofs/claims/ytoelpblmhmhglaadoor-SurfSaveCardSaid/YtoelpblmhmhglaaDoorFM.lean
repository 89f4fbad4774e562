/- package surf: what comes of an hour, sea by sea; a hut that is farther in, or more is held, never is farther out. -/
import Derived.Test.YtoelpblmhmhglaaDoorSZ
import Derived.Test.YtoelpblmhmhglaaDoorFJ
import Derived.Test.YtoelpblmhmhglaaDoorFL
import Derived.Test.YtoelpblmhmhglaaDoorFD
import Derived.Test.YtoelpblmhmhglaaDoorFK
set_option maxRecDepth 100000
namespace Go.Ab
open Go Go.RowKit Go.Proofs
end Go.Ab
set_option maxRecDepth 100000
namespace Go.Ab
open Go Go.RowKit Go.Proofs
section
variable {y y' : Nat → Nat} {many m : Nat}
theorem best_of (y : Nat → Nat) (many m : Nat) : ∃ q, seekS (okP many m (savF y m) (limN y m)) (savF y m) (popN (savF y m) + 1) 0 = some q := best_some
def bestQ (y : Nat → Nat) (many m : Nat) : Nat := (seekS (okP many m (savF y m) (limN y m)) (savF y m) (popN (savF y m) + 1) 0).getD 0
def bestL (y : Nat → Nat) (many m : Nat) : Nat → Int := (drwG many m (savF y m) (limN y m) (bestQ y many m)).2.L
theorem bestQ_spec (y : Nat → Nat) (many m : Nat) : bestQ y many m &&& savF y m = bestQ y many m ∧ Vl (skpN (savF y m) (bestQ y many m)) (limN y m) many m (bestL y many m) ∧ (∀ Q, Vl (skpN (savF y m) (bestQ y many m)) (limN y m) many m Q → BefI m (bestL y many m) Q) ∧
    ∀ s Q, s &&& savF y m = s → Vl (skpN (savF y m) s) (limN y m) many m Q → popN (bestQ y many m) < popN s ∨ (popN (bestQ y many m) = popN s ∧ bestQ y many m ≤ s) := by
 obtain ⟨q, hq⟩ := best_of y many m
 have e : bestQ y many m = q := by unfold bestQ; rw [hq]; rfl
 unfold bestL
 rw [e]
 exact best_spec hq
theorem best_right (y : Nat → Nat) (many m : Nat) : okA y many (bestL y many m) m = true ∧ outR y (bestL y many m) m = bestQ y many m := by
 obtain ⟨h1, h2, _, _⟩ := bestQ_spec y many m
 exact right_of h1 h2
theorem best_least {Q : Nat → Int} (h : okA y many Q m = true) : popN (bestQ y many m) < popN (outR y Q m) ∨ (popN (bestQ y many m) = popN (outR y Q m) ∧ bestQ y many m ≤ outR y Q m) := by
 obtain ⟨h1, h2⟩ := right_vl h
 exact (bestQ_spec y many m).2.2.2 _ Q h2 h1
theorem best_first {Q : Nat → Int} (h : okA y many Q m = true) (e : bestQ y many m = outR y Q m) : BefI m (bestL y many m) Q := by
 obtain ⟨h1, h2⟩ := right_vl h
 rw [← e] at h1
 exact (bestQ_spec y many m).2.2.1 Q h1
end
end Go.Ab
set_option maxRecDepth 100000
namespace Go.Ab
open Go Go.RowKit Go.Proofs
theorem b7a (rw st mz : Int) (n cw cv m cu k d : Nat) (w v : Nat → Sp) (u : Nat → Hut) (L _ bs : Nat → Int) (tb : List Value) (a : Int) (_ j : Nat) (R : Nat → AExit → Hw → Prop) : (vx.code none (.l p7b) (leafW [T7a, T7b] R) (T7a.inst (h7a rw st mz n cw cv m cu k d tb (spL n w) (spL n v) (huL m u) (u8L k bs) (ints m L) a 0)) ((0, .val (.bool true)) :: (6, .val (.bool true)) :: (5, .val (I j)) :: (0, .val (.pointer (some ⟨5, 0 + j * 1, none⟩))) :: (0, .val (.int .u8 (bs j))) :: [(11, .tm 1 [((11 : Nat), (12 : Nat))])])) =
(((OT (decide ((↑(0 : Nat) : Int) < (m : Int))) true) ∧
((OT (decide ((k : Int) > 0)) true) ∧
((((((k : Int) ≠ (0 : Int))) ∧ ((IntKind.i64 = IntKind.i64))) ∧ (((I j) : Value) = (I ((↑(0 : Nat) : Int).tmod (k : Int))))) ∧
((((((0 : Int) ≤ j)) ∧ (((j : Int) < k))) ∧ (VR (.pointer (some ⟨5, 0 + j * 1, none⟩)))) ∧
((((u8L k bs)[0 + j * 1]? = some (.int .u8 (bs j)))) ∧
R 1 .normal ⟨⟨[(I a), (I m), (I (IntKind.i64.wrap ((↑(0 : Nat) : Int) + (1 : Int)))), (I rw), (I st), (I mz)], [⟨k, d⟩, ⟨m, m⟩, ⟨((1 : Nat)), ((1 : Nat))⟩, ⟨n, cw⟩, ⟨n, cv⟩, ⟨m, cu⟩]⟩, [tb, (spL n w), (spL n v), (huL m u), (u8L k bs), (ints m L), [(I (IntKind.i64.wrap ((IntKind.i64.wrap (bs j)).tmod (9 : Int) - (1 : Int))))]], []⟩)))))) := by kernel_rfl
theorem b7b (rw st mz : Int) (n cw cv m cu k d : Nat) (w v : Nat → Sp) (u : Nat → Hut) (L Q bs : Nat → Int) (tb : List Value) (a : Int) (i j : Nat) (R : Nat → AExit → Hw → Prop) : (vx.code none (.l p7b) (leafW [T7a, T7b] R) (T7b.inst (h7b rw st mz n cw cv m cu k d tb (spL n w) (spL n v) (huL m u) (u8L k bs) (ints m L) (ints i Q) a i)) ((0, .val (.bool true)) :: (6, .val (.bool true)) :: (5, .val (I j)) :: (0, .val (.pointer (some ⟨5, 0 + j * 1, none⟩))) :: (0, .val (.int .u8 (bs j))) :: (7, .grow) :: [(3, .tm 1 [((11 : Nat), (13 : Nat))])])) =
(((OT (decide ((i : Int) < m)) true) ∧
((OT (decide ((k : Int) > 0)) true) ∧
((((((k : Int) ≠ (0 : Int))) ∧ ((IntKind.i64 = IntKind.i64))) ∧ (((I j) : Value) = (I ((i : Int).tmod (k : Int))))) ∧
((((((0 : Int) ≤ j)) ∧ (((j : Int) < k))) ∧ (VR (.pointer (some ⟨5, 0 + j * 1, none⟩)))) ∧
((((u8L k bs)[0 + j * 1]? = some (.int .u8 (bs j)))) ∧
((((¬i + (1 : Nat) ≤ i)) ∧ (((i * (1 : Nat) = (ints i Q).length)) ∧ ((((i + (1 : Nat)) * (8 : Nat) ≤ (140737488355328 : Nat))) ∧ ((i + (1 : Nat) ≤ (4611686018427387904 : Nat)))))) ∧
R 1 .normal ⟨⟨[(I a), (I m), (I (IntKind.i64.wrap ((i : Int) + (1 : Int)))), (I rw), (I st), (I mz)], [⟨k, d⟩, ⟨m, m⟩, ⟨(i + (1 : Nat)), (i + (1 : Nat))⟩, ⟨n, cw⟩, ⟨n, cv⟩, ⟨m, cu⟩]⟩, [tb, (spL n w), (spL n v), (huL m u), (u8L k bs), (ints m L), ((List.take (i * (1 : Nat)) (ints i Q)) ++ [(I (IntKind.i64.wrap ((IntKind.i64.wrap (bs j)).tmod (9 : Int) - (1 : Int))))])], []⟩))))))) := by kernel_rfl
theorem b7x (rw st mz : Int) (n cw cv m cu k d : Nat) (w v : Nat → Sp) (u : Nat → Hut) (L Q bs : Nat → Int) (tb : List Value) (a : Int) (i _ : Nat) (R : Nat → AExit → Hw → Prop) : (vx.code none (.l p7b) (leafW [T7a, T7b] R) (T7b.inst (h7b rw st mz n cw cv m cu k d tb (spL n w) (spL n v) (huL m u) (u8L k bs) (ints m L) (ints i Q) a i)) ((0, .val (.bool false)) :: [(1, .tm 1 [((11 : Nat), (11 : Nat))])])) =
(((OT (decide ((i : Int) < m)) false) ∧
R 1 (.exit 0) ⟨⟨[(I a), (I m), (I i), (I rw), (I st), (I mz)], [⟨k, d⟩, ⟨m, m⟩, ⟨i, i⟩, ⟨n, cw⟩, ⟨n, cv⟩, ⟨m, cu⟩]⟩, [tb, (spL n w), (spL n v), (huL m u), (u8L k bs), (ints m L), (ints i Q)], []⟩)) := by kernel_rfl
theorem b7az (rw st mz : Int) (n cw cv m cu _ d : Nat) (w v : Nat → Sp) (u : Nat → Hut) (L _ bs : Nat → Int) (tb : List Value) (a : Int) (_ _ : Nat) (R : Nat → AExit → Hw → Prop) : (vx.code none (.l p7b) (leafW [T7a, T7b] R) (T7a.inst (h7a rw st mz n cw cv m cu 0 d tb (spL n w) (spL n v) (huL m u) (u8L 0 bs) (ints m L) a 0)) ((0, .val (.bool true)) :: [(15, .tm 1 [((11 : Nat), (12 : Nat))])])) =
(((OT (decide ((↑(0 : Nat) : Int) < (m : Int))) true) ∧
R 1 .normal ⟨⟨[(I a), (I m), (I (IntKind.i64.wrap ((↑(0 : Nat) : Int) + (1 : Int)))), (I rw), (I st), (I mz)], [⟨0, d⟩, ⟨m, m⟩, ⟨((1 : Nat)), ((1 : Nat))⟩, ⟨n, cw⟩, ⟨n, cv⟩, ⟨m, cu⟩]⟩, [tb, (spL n w), (spL n v), (huL m u), [], (ints m L), [(I ((-1 : Int)))]], []⟩)) := by kernel_rfl
theorem b7bz (rw st mz : Int) (n cw cv m cu _ d : Nat) (w v : Nat → Sp) (u : Nat → Hut) (L Q bs : Nat → Int) (tb : List Value) (a : Int) (i _ : Nat) (R : Nat → AExit → Hw → Prop) : (vx.code none (.l p7b) (leafW [T7a, T7b] R) (T7b.inst (h7b rw st mz n cw cv m cu 0 d tb (spL n w) (spL n v) (huL m u) (u8L 0 bs) (ints m L) (ints i Q) a i)) ((0, .val (.bool true)) :: (11, .grow) :: [(3, .tm 1 [((11 : Nat), (13 : Nat))])])) =
(((OT (decide ((i : Int) < m)) true) ∧
((((¬i + (1 : Nat) ≤ i)) ∧ (((i * (1 : Nat) = (ints i Q).length)) ∧ ((((i + (1 : Nat)) * (8 : Nat) ≤ (140737488355328 : Nat))) ∧ ((i + (1 : Nat) ≤ (4611686018427387904 : Nat)))))) ∧
R 1 .normal ⟨⟨[(I a), (I m), (I (IntKind.i64.wrap ((i : Int) + (1 : Int)))), (I rw), (I st), (I mz)], [⟨0, d⟩, ⟨m, m⟩, ⟨(i + (1 : Nat)), (i + (1 : Nat))⟩, ⟨n, cw⟩, ⟨n, cv⟩, ⟨m, cu⟩]⟩, [tb, (spL n w), (spL n v), (huL m u), [], (ints m L), ((List.take (i * (1 : Nat)) (ints i Q)) ++ [(I ((-1 : Int)))])], []⟩))) := by kernel_rfl
theorem b7an (rw st mz : Int) (n cw cv m cu _ _ : Nat) (w v : Nat → Sp) (u : Nat → Hut) (L _ _ : Nat → Int) (tb : List Value) (a : Int) (_ _ : Nat) (R : Nat → AExit → Hw → Prop) : (vx.code none (.l p7b) (leafW [T7an, T7bn] R) (T7an.inst (h7an rw st mz n cw cv m cu tb (spL n w) (spL n v) (huL m u) (ints m L) a 0)) ((0, .val (.bool true)) :: [(15, .tm 1 [((11 : Nat), (12 : Nat))])])) =
(((OT (decide ((↑(0 : Nat) : Int) < (m : Int))) true) ∧
R 1 .normal ⟨⟨[(I a), (I m), (I (IntKind.i64.wrap ((↑(0 : Nat) : Int) + (1 : Int)))), (I rw), (I st), (I mz)], [⟨m, m⟩, ⟨((1 : Nat)), ((1 : Nat))⟩, ⟨n, cw⟩, ⟨n, cv⟩, ⟨m, cu⟩]⟩, [tb, (spL n w), (spL n v), (huL m u), (ints m L), [(I ((-1 : Int)))]], []⟩)) := by kernel_rfl
theorem b7bn (rw st mz : Int) (n cw cv m cu _ _ : Nat) (w v : Nat → Sp) (u : Nat → Hut) (L Q _ : Nat → Int) (tb : List Value) (a : Int) (i _ : Nat) (R : Nat → AExit → Hw → Prop) : (vx.code none (.l p7b) (leafW [T7an, T7bn] R) (T7bn.inst (h7bn rw st mz n cw cv m cu tb (spL n w) (spL n v) (huL m u) (ints m L) (ints i Q) a i)) ((0, .val (.bool true)) :: (11, .grow) :: [(3, .tm 1 [((11 : Nat), (13 : Nat))])])) =
(((OT (decide ((i : Int) < m)) true) ∧
((((¬i + (1 : Nat) ≤ i)) ∧ (((i * (1 : Nat) = (ints i Q).length)) ∧ ((((i + (1 : Nat)) * (8 : Nat) ≤ (140737488355328 : Nat))) ∧ ((i + (1 : Nat) ≤ (4611686018427387904 : Nat)))))) ∧
R 1 .normal ⟨⟨[(I a), (I m), (I (IntKind.i64.wrap ((i : Int) + (1 : Int)))), (I rw), (I st), (I mz)], [⟨m, m⟩, ⟨(i + (1 : Nat)), (i + (1 : Nat))⟩, ⟨n, cw⟩, ⟨n, cv⟩, ⟨m, cu⟩]⟩, [tb, (spL n w), (spL n v), (huL m u), (ints m L), ((List.take (i * (1 : Nat)) (ints i Q)) ++ [(I ((-1 : Int)))])], []⟩))) := by kernel_rfl
theorem b7xn (rw st mz : Int) (n cw cv m cu _ _ : Nat) (w v : Nat → Sp) (u : Nat → Hut) (L Q _ : Nat → Int) (tb : List Value) (a : Int) (i _ : Nat) (R : Nat → AExit → Hw → Prop) : (vx.code none (.l p7b) (leafW [T7an, T7bn] R) (T7bn.inst (h7bn rw st mz n cw cv m cu tb (spL n w) (spL n v) (huL m u) (ints m L) (ints i Q) a i)) ((0, .val (.bool false)) :: [(1, .tm 1 [((11 : Nat), (11 : Nat))])])) =
(((OT (decide ((i : Int) < m)) false) ∧
R 1 (.exit 0) ⟨⟨[(I a), (I m), (I i), (I rw), (I st), (I mz)], [⟨m, m⟩, ⟨i, i⟩, ⟨n, cw⟩, ⟨n, cv⟩, ⟨m, cu⟩]⟩, [tb, (spL n w), (spL n v), (huL m u), (ints m L), (ints i Q)], []⟩)) := by kernel_rfl
theorem b7ce (m i : Nat) (L Q : Nat → Int) (a b : Nat) (tb : List Value) (R : Nat → AExit → Hw → Prop) : (vx.code none (.l p7c) (leafW [T7c, R7] R) (T7c.inst (h7c m tb (ints m L) (ints m Q) a b i)) ((0, .val (.bool true)) :: (5, .val (.bool true)) :: (3, .val (.pointer (some ⟨10, 0 + i * 1, none⟩))) :: (0, .val (I (L i))) :: (2, .val (.pointer (some ⟨11, 0 + i * 1, none⟩))) :: (0, .val (I (Q i))) :: (0, .val (.bool false)) :: [(4, .tm 0 [])])) =
(((OT (decide ((i : Int) < m)) true) ∧
((OT ((a : Int) == b) true) ∧
((((((0 : Int) ≤ i)) ∧ (((i : Int) < m))) ∧ (VR (.pointer (some ⟨10, 0 + i * 1, none⟩)))) ∧
((((ints m L)[0 + i * 1]? = some (I (L i)))) ∧
((((((0 : Int) ≤ i)) ∧ (((i : Int) < m))) ∧ (VR (.pointer (some ⟨11, 0 + i * 1, none⟩)))) ∧
((((ints m Q)[0 + i * 1]? = some (I (Q i)))) ∧
((OT (L i != Q i) false) ∧
R 0 .normal ⟨⟨[(I a), (I b), (I m), (I (IntKind.i64.wrap ((i : Int) + (1 : Int))))], [⟨m, m⟩, ⟨m, m⟩]⟩, [tb, (ints m L), (ints m Q)], []⟩)))))))) := by kernel_rfl
theorem b7cn (m i : Nat) (L Q : Nat → Int) (a b : Nat) (tb : List Value) (R : Nat → AExit → Hw → Prop) : (vx.code none (.l p7c) (leafW [T7c, R7] R) (T7c.inst (h7c m tb (ints m L) (ints m Q) a b i)) ((0, .val (.bool true)) :: (5, .val (.bool false)) :: [(5, .tm 0 [])])) =
(((OT (decide ((i : Int) < m)) true) ∧
((OT ((a : Int) == b) false) ∧
R 0 .normal ⟨⟨[(I a), (I b), (I m), (I (IntKind.i64.wrap ((i : Int) + (1 : Int))))], [⟨m, m⟩, ⟨m, m⟩]⟩, [tb, (ints m L), (ints m Q)], []⟩))) := by kernel_rfl
theorem b7cr (m i : Nat) (L Q : Nat → Int) (a b : Nat) (tb : List Value) (R : Nat → AExit → Hw → Prop) : (vx.code none (.l p7c) (leafW [T7c, R7] R) (T7c.inst (h7c m tb (ints m L) (ints m Q) a b i)) ((0, .val (.bool true)) :: (5, .val (.bool true)) :: (3, .val (.pointer (some ⟨10, 0 + i * 1, none⟩))) :: (0, .val (I (L i))) :: (2, .val (.pointer (some ⟨11, 0 + i * 1, none⟩))) :: (0, .val (I (Q i))) :: (0, .val (.bool true)) :: (4, .val (.pointer (some ⟨10, 0 + i * 1, none⟩))) :: (0, .val (I (L i))) :: (2, .val (.pointer (some ⟨11, 0 + i * 1, none⟩))) :: (0, .val (I (Q i))) :: (0, .val (.bool true)) :: (1, .con (C11t tb)) :: [(2, .tm 1 [])])) =
(((OT (decide ((i : Int) < m)) true) ∧
((OT ((a : Int) == b) true) ∧
((((((0 : Int) ≤ i)) ∧ (((i : Int) < m))) ∧ (VR (.pointer (some ⟨10, 0 + i * 1, none⟩)))) ∧
((((ints m L)[0 + i * 1]? = some (I (L i)))) ∧
((((((0 : Int) ≤ i)) ∧ (((i : Int) < m))) ∧ (VR (.pointer (some ⟨11, 0 + i * 1, none⟩)))) ∧
((((ints m Q)[0 + i * 1]? = some (I (Q i)))) ∧
((OT (L i != Q i) true) ∧
((((((0 : Int) ≤ i)) ∧ (((i : Int) < m))) ∧ (VR (.pointer (some ⟨10, 0 + i * 1, none⟩)))) ∧
((((ints m L)[0 + i * 1]? = some (I (L i)))) ∧
((((((0 : Int) ≤ i)) ∧ (((i : Int) < m))) ∧ (VR (.pointer (some ⟨11, 0 + i * 1, none⟩)))) ∧
((((ints m Q)[0 + i * 1]? = some (I (Q i)))) ∧
((OT (decide (L i < Q i)) true) ∧
(CA 11 (C11t tb) ⟨⟨[], []⟩, [tb]⟩ <|
R 1 .ret ⟨⟨[(.bool true)], []⟩, [], []⟩)))))))))))))) := by kernel_rfl
theorem b7cx (m i : Nat) (L Q : Nat → Int) (a b : Nat) (tb : List Value) (R : Nat → AExit → Hw → Prop) : (vx.code none (.l p7c) (leafW [T7c, R7] R) (T7c.inst (h7c m tb (ints m L) (ints m Q) a b i)) ((0, .val (.bool false)) :: [(1, .tm 0 [])])) =
(((OT (decide ((i : Int) < m)) false) ∧
R 0 (.exit 2) ⟨⟨[(I a), (I b), (I m), (I i)], [⟨m, m⟩, ⟨m, m⟩]⟩, [tb, (ints m L), (ints m Q)], []⟩)) := by kernel_rfl
theorem u8L_at (k : Nat) (b : Nat → Int) : ∀ v ∈ u8L k b, atomic v = true := flatC_atomic fun i _ v hv => by
 simp only [List.mem_cons, List.not_mem_nil, or_false] at hv
 subst hv
 rfl
theorem u8L_get {k i : Nat} (b : Nat → Int) (h : i < k) : (u8L k b)[0 + i * 1]? = some (.int .u8 (b i)) := by
 rw [Nat.zero_add]
 have := flatC_get (n := k) (k := 1) (g := fun i => [Value.int .u8 (b i)]) (fun _ _ => rfl) h (j := 0) (by omega)
 simpa [u8L] using this
def ow (k : Nat) (bs : Nat → Int) (i : Nat) : Int := if k = 0 then -1 else IntKind.i64.wrap ((IntKind.i64.wrap (bs (i % k))).tmod 9 - 1)
theorem first_ex {p : Nat → Prop} : ∀ m, (∃ j, j < m ∧ p j) → ∃ j, j < m ∧ p j ∧ ∀ i, i < j → ¬ p i := by
 intro m
 induction m with
 | zero => intro ⟨j, h, _⟩; omega
 | succ m ih =>
  intro ⟨j, h1, h2⟩
  by_cases he : ∃ j, j < m ∧ p j
  · obtain ⟨x, hx, h3, h4⟩ := ih he
    exact ⟨x, by omega, h3, h4⟩
  · have : j = m := by
     by_cases e : j < m
     · exact absurd ⟨j, e, h2⟩ he
     · omega
    subst this
    exact ⟨j, h1, h2, fun i hi hp => he ⟨i, hi, hp⟩⟩
section
variable {rw st : Int} {n cw cv m cu k d many : Nat} {w v : Nat → Sp} {u : Nat → Hut} {L Q bs : Nat → Int} {mz a : Int}
theorem cl7a {x : List Value} {y : List (Nat × Nat)} : ClW ⟨⟨x, y⟩, [tabC, spL n w, spL n v, huL m u, u8L k bs, ints m L], []⟩ := by
 refine ⟨fun cs hc => ?_, fun e hc => (by cases hc)⟩
 simp only [List.mem_cons, List.not_mem_nil, or_false] at hc
 rcases hc with rfl | rfl | rfl | rfl | rfl | rfl
 · exact tabC_at
 · exact spL_at _ _
 · exact spL_at _ _
 · exact huL_at _ _
 · exact u8L_at _ _
 · exact ints_at _ _
theorem cl7b {x : List Value} {y : List (Nat × Nat)} {i : Nat} : ClW ⟨⟨x, y⟩, [tabC, spL n w, spL n v, huL m u, u8L k bs, ints m L, ints i Q], []⟩ := by
 refine ⟨fun cs hc => ?_, fun e hc => (by cases hc)⟩
 simp only [List.mem_cons, List.not_mem_nil, or_false] at hc
 rcases hc with rfl | rfl | rfl | rfl | rfl | rfl | rfl
 · exact tabC_at
 · exact spL_at _ _
 · exact spL_at _ _
 · exact huL_at _ _
 · exact u8L_at _ _
 · exact ints_at _ _
 · exact ints_at _ _
theorem cl7an {x : List Value} {y : List (Nat × Nat)} : ClW ⟨⟨x, y⟩, [tabC, spL n w, spL n v, huL m u, ints m L], []⟩ := by
 refine ⟨fun cs hc => ?_, fun e hc => (by cases hc)⟩
 simp only [List.mem_cons, List.not_mem_nil, or_false] at hc
 rcases hc with rfl | rfl | rfl | rfl | rfl
 · exact tabC_at
 · exact spL_at _ _
 · exact spL_at _ _
 · exact huL_at _ _
 · exact ints_at _ _
theorem cl7bn {x : List Value} {y : List (Nat × Nat)} {i : Nat} : ClW ⟨⟨x, y⟩, [tabC, spL n w, spL n v, huL m u, ints m L, ints i Q], []⟩ := by
 refine ⟨fun cs hc => ?_, fun e hc => (by cases hc)⟩
 simp only [List.mem_cons, List.not_mem_nil, or_false] at hc
 rcases hc with rfl | rfl | rfl | rfl | rfl | rfl
 · exact tabC_at
 · exact spL_at _ _
 · exact spL_at _ _
 · exact huL_at _ _
 · exact ints_at _ _
 · exact ints_at _ _
theorem cl7c {x : List Value} {y : List (Nat × Nat)} : ClW ⟨⟨x, y⟩, [tabC, ints m L, ints m Q], []⟩ := by
 refine ⟨fun cs hc => ?_, fun e hc => (by cases hc)⟩
 simp only [List.mem_cons, List.not_mem_nil, or_false] at hc
 rcases hc with rfl | rfl | rfl
 · exact tabC_at
 · exact ints_at _ _
 · exact ints_at _ _
noncomputable def st7 (rw st mz : Int) (n cw cv m cu k d : Nat) (w v : Nat → Sp) (u : Nat → Hut) (L bs : Nat → Int) (a : Int) : Nat → Nat × Hw
 | 0 => (0, h7a rw st mz n cw cv m cu k d tabC (spL n w) (spL n v) (huL m u) (u8L k bs) (ints m L) a 0)
 | i + 1 => (1, h7b rw st mz n cw cv m cu k d tabC (spL n w) (spL n v) (huL m u) (u8L k bs) (ints m L) (ints (i + 1) (ow k bs)) a (i + 1))
noncomputable def st7n (rw st mz : Int) (n cw cv m cu : Nat) (w v : Nat → Sp) (u : Nat → Hut) (L : Nat → Int) (a : Int) : Nat → Nat × Hw
 | 0 => (0, h7an rw st mz n cw cv m cu tabC (spL n w) (spL n v) (huL m u) (ints m L) a 0)
 | i + 1 => (1, h7bn rw st mz n cw cv m cu tabC (spL n w) (spL n v) (huL m u) (ints m L) (ints (i + 1) (ow 0 fun _ => 0)) a (i + 1))
theorem grow7 {i : Nat} (hi : i < 6) : (¬ i + 1 ≤ i) ∧ i * 1 = (ints i Q).length ∧ (i + 1) * 8 ≤ 140737488355328 ∧ i + 1 ≤ 4611686018427387904 := ⟨by omega, by rw [ints_len], by omega, by omega⟩
theorem loop7b (h0 : 0 < m) (h5 : m ≤ 5) : LoopOW Tryd.prog none p7b T7a (h7a rw st mz n cw cv m cu k d tabC (spL n w) (spL n v) (huL m u) (u8L k bs) (ints m L) a 0) (.exit 0) T7b
    (h7b rw st mz n cw cv m cu k d tabC (spL n w) (spL n v) (huL m u) (u8L k bs) (ints m L) (ints m (ow k bs)) a m) := by
 have hst : st7 rw st mz n cw cv m cu k d w v u L bs a m = (1, h7b rw st mz n cw cv m cu k d tabC (spL n w) (spL n v) (huL m u) (u8L k bs) (ints m L) (ints m (ow k bs)) a m) := by
  obtain ⟨j, rfl⟩ : ∃ j, m = j + 1 := ⟨m - 1, by omega⟩
  rfl
 have main := loop_forW (P := Tryd.prog) (ro := none) (p := p7b) (Ts := [T7a, T7b]) (k := 11) (n := m) (e := .exit 0) (st := st7 rw st mz n cw cv m cu k d w v u L bs a) rfl vx_sound (by
  intro T hT
  simp only [List.mem_cons, List.not_mem_nil, or_false] at hT
  rcases hT with rfl | rfl <;> rfl) (by rw [nglob]; omega) ⟨by simp, trivial⟩ (fun i _ => by
   cases i with
   | zero => exact cl7a
   | succ i => exact cl7b) (fun i hi R hR => by
  have hw := wrS (i := i) (by omega)
  have sq : ints (i + 1) (ow k bs) = ints i (ow k bs) ++ [I (ow k bs i)] := flatC_succ
  by_cases hk : k = 0
  · subst hk
    have e0 : ow 0 bs i = -1 := if_pos rfl
    cases i with
    | zero =>
     refine ⟨T7a, _, rfl, (b7az rw st mz n cw cv m cu 0 d w v u L (fun _ => 0) bs tabC a 0 0 R).mpr ?_⟩
     rw [hw, ← e0]
     exact ⟨tt (decide_eq_true (by omega)), hR⟩
    | succ i =>
     have hR : R 1 .normal (h7b rw st mz n cw cv m cu 0 d tabC (spL n w) (spL n v) (huL m u) (u8L 0 bs) (ints m L) (ints (i + 1 + 1) (ow 0 bs)) a (i + 1 + 1)) := hR
     rw [sq] at hR
     refine ⟨T7b, _, rfl, (b7bz rw st mz n cw cv m cu 0 d w v u L (ow 0 bs) bs tabC a (i + 1) 0 R).mpr ?_⟩
     rw [hw, take_ints, ← e0]
     exact ⟨tt (decide_eq_true (by omega)), grow7 (by omega), hR⟩
  · have hj : i % k < k := Nat.mod_lt _ (by omega)
    have e0 : ow k bs i = IntKind.i64.wrap ((IntKind.i64.wrap (bs (i % k))).tmod 9 - 1) := if_neg hk
    have r1 : (((k : Nat) : Int) ≠ 0 ∧ IntKind.i64 = IntKind.i64) := ⟨by omega, rfl⟩
    have gb := u8L_get bs hj
    cases i with
    | zero =>
     refine ⟨T7a, _, rfl, (b7a rw st mz n cw cv m cu k d w v u L (fun _ => 0) bs tabC a 0 (0 % k) R).mpr ?_⟩
     rw [hw, ← e0]
     exact ⟨tt (decide_eq_true (by omega)), tt (decide_eq_true (by omega)), ⟨r1, rfl⟩, ⟨⟨by omega, by omega⟩, rfl⟩, gb, hR⟩
    | succ i =>
     have hR : R 1 .normal (h7b rw st mz n cw cv m cu k d tabC (spL n w) (spL n v) (huL m u) (u8L k bs) (ints m L) (ints (i + 1 + 1) (ow k bs)) a (i + 1 + 1)) := hR
     rw [sq] at hR
     refine ⟨T7b, _, rfl, (b7b rw st mz n cw cv m cu k d w v u L (ow k bs) bs tabC a (i + 1) ((i + 1) % k) R).mpr ?_⟩
     rw [hw, take_ints, ← e0]
     exact ⟨tt (decide_eq_true (by omega)), tt (decide_eq_true (by omega)), ⟨r1, rfl⟩, ⟨⟨by omega, by omega⟩, rfl⟩, gb, grow7 (by omega), hR⟩) (fun R hR => by
  rw [hst] at hR ⊢
  exact ⟨T7b, _, rfl, (b7x rw st mz n cw cv m cu k d w v u L (ow k bs) bs tabC a m 0 R).mpr ⟨tf (decide_eq_false (by omega)), hR⟩⟩) (T0 := T7a) (T1 := T7b) rfl (Nat.le_of_ble_eq_true rfl) (by decide) (by rw [hst]; rfl)
 rw [hst] at main
 exact main
theorem loop7bn (h0 : 0 < m) (h5 : m ≤ 5) : LoopOW Tryd.prog none p7b T7an (h7an rw st mz n cw cv m cu tabC (spL n w) (spL n v) (huL m u) (ints m L) a 0) (.exit 0) T7bn
    (h7bn rw st mz n cw cv m cu tabC (spL n w) (spL n v) (huL m u) (ints m L) (ints m (ow 0 fun _ => 0)) a m) := by
 have hst : st7n rw st mz n cw cv m cu w v u L a m = (1, h7bn rw st mz n cw cv m cu tabC (spL n w) (spL n v) (huL m u) (ints m L) (ints m (ow 0 fun _ => 0)) a m) := by
  obtain ⟨j, rfl⟩ : ∃ j, m = j + 1 := ⟨m - 1, by omega⟩
  rfl
 have main := loop_forW (P := Tryd.prog) (ro := none) (p := p7b) (Ts := [T7an, T7bn]) (k := 11) (n := m) (e := .exit 0) (st := st7n rw st mz n cw cv m cu w v u L a) rfl vx_sound (by
  intro T hT
  simp only [List.mem_cons, List.not_mem_nil, or_false] at hT
  rcases hT with rfl | rfl <;> rfl) (by rw [nglob]; omega) ⟨by simp, trivial⟩ (fun i _ => by
   cases i with
   | zero => exact cl7an
   | succ i => exact cl7bn) (fun i hi R hR => by
  have hw := wrS (i := i) (by omega)
  have sq : ints (i + 1) (ow 0 fun _ => 0) = ints i (ow 0 fun _ => 0) ++ [I (ow 0 (fun _ => 0) i)] := flatC_succ
  have e0 : ow 0 (fun _ => 0) i = -1 := if_pos rfl
  cases i with
  | zero =>
   refine ⟨T7an, _, rfl, (b7an rw st mz n cw cv m cu 0 0 w v u L (fun _ => 0) (fun _ => 0) tabC a 0 0 R).mpr ?_⟩
   rw [hw, ← e0]
   exact ⟨tt (decide_eq_true (by omega)), hR⟩
  | succ i =>
   have hR : R 1 .normal (h7bn rw st mz n cw cv m cu tabC (spL n w) (spL n v) (huL m u) (ints m L) (ints (i + 1 + 1) (ow 0 fun _ => 0)) a (i + 1 + 1)) := hR
   rw [sq] at hR
   refine ⟨T7bn, _, rfl, (b7bn rw st mz n cw cv m cu 0 0 w v u L (ow 0 fun _ => 0) (fun _ => 0) tabC a (i + 1) 0 R).mpr ?_⟩
   rw [hw, take_ints, ← e0]
   exact ⟨tt (decide_eq_true (by omega)), grow7 (by omega), hR⟩) (fun R hR => by
  rw [hst] at hR ⊢
  exact ⟨T7bn, _, rfl, (b7xn rw st mz n cw cv m cu 0 0 w v u L (ow 0 fun _ => 0) (fun _ => 0) tabC a m 0 R).mpr ⟨tf (decide_eq_false (by omega)), hR⟩⟩) (T0 := T7an) (T1 := T7bn) rfl (Nat.le_of_ble_eq_true rfl) (by decide) (by rw [hst]; rfl)
 rw [hst] at main
 exact main
theorem loop7cx {p q : Nat} (h5 : m ≤ 5) (h : p = q → ∀ i, i < m → L i = Q i) : LoopOW Tryd.prog none p7c T7c (h7c m tabC (ints m L) (ints m Q) (p : Nat) (q : Nat) 0) (.exit 2) T7c (h7c m tabC (ints m L) (ints m Q) (p : Nat) (q : Nat) m) := by
 refine loop_forW (Ts := [T7c, R7]) (k := 12) (n := m) (e := .exit 2) (st := fun i => (0, h7c m tabC (ints m L) (ints m Q) (p : Nat) (q : Nat) i)) rfl vx_sound ?_ (by rw [nglob]; omega) ⟨by simp, trivial⟩ (fun i _ => cl7c) (fun i hi R hR => ?_) (fun R hR => ?_) rfl (Nat.le_of_ble_eq_true rfl) (by decide) rfl
 · intro T hT; simp only [List.mem_cons, List.not_mem_nil, or_false] at hT; rcases hT with rfl | rfl <;> rfl
 · have hw := wrS (i := i) (by omega)
   have hR : R 0 .normal (h7c m tabC (ints m L) (ints m Q) (p : Nat) (q : Nat) (i + 1)) := hR
   unfold h7c at hR
   rw [← hw] at hR
   by_cases e : p = q
   · have hne : (L i != Q i) = false := by rw [h e i hi]; simp
     exact ⟨T7c, _, rfl, (b7ce m i L Q p q tabC R).mpr ⟨tt (decide_eq_true (by omega)), tt (by rw [e]; simp), ⟨⟨by omega, by omega⟩, rfl⟩, ints_get L hi, ⟨⟨by omega, by omega⟩, rfl⟩, ints_get Q hi, tf hne, hR⟩⟩
   · exact ⟨T7c, _, rfl, (b7cn m i L Q p q tabC R).mpr ⟨tt (decide_eq_true (by omega)), tf (by simp only [beq_eq_false_iff_ne, ne_eq]; omega), hR⟩⟩
 · exact ⟨T7c, _, rfl, (b7cx m m L Q p q tabC R).mpr ⟨tf (decide_eq_false (by omega)), hR⟩⟩
theorem clr7 (b : Bool) : ClW (r7 b) := ⟨fun _ hc => (by cases hc), fun _ hc => (by cases hc)⟩
theorem loop7cr {p : Nat} (h5 : m ≤ 5) (hB : BefI m L Q) (hd : ∃ i, i < m ∧ L i ≠ Q i) : LoopOW Tryd.prog none p7c T7c (h7c m tabC (ints m L) (ints m Q) (p : Nat) (p : Nat) 0) .ret R7 (r7 true) := by
 obtain ⟨j, hj, hd1, hd2⟩ := first_ex m hd
 have hlt : L j < Q j := by
  have := hB j hj fun i hi => Classical.byContradiction fun h => hd2 i hi h
  omega
 refine loop_vcW (Ts := [T7c, R7]) (k := 12) (X := Nat) (inv := fun i => i ≤ j) (μ := fun i => j - i) (st := fun i => (0, h7c m tabC (ints m L) (ints m Q) (p : Nat) (p : Nat) i))
  (out := fun _ => (.ret, 1, r7 true)) rfl vx_sound ?_ (by rw [nglob]; omega) (fun i hi => ?_) (x := 0) (Nat.zero_le _) rfl (Nat.le_of_ble_eq_true rfl) (by decide) rfl
 · intro T hT; simp only [List.mem_cons, List.not_mem_nil, or_false] at hT; rcases hT with rfl | rfl <;> rfl
 · have hi : i ≤ j := hi
   have him : i < m := by omega
   have hw := wrS (i := i) (by omega)
   have i1 : ∀ b : Nat, ((0 : Int) ≤ (i : Int) ∧ (i : Int) < (m : Int)) ∧ ((.pointer (some ⟨b, 0 + i * 1, none⟩) : Value) = .pointer (some ⟨b, 0 + i * 1, none⟩)) := fun b => ⟨⟨by omega, by omega⟩, rfl⟩
   have pp : (((p : Nat) : Int) == (p : Int)) = true := by simp
   by_cases e : i = j
   · subst e
     refine ⟨T7c, _, rfl, (b7cr m i L Q p p tabC _).mpr ⟨tt (decide_eq_true (by omega)), tt pp, i1 10, ints_get L him, i1 11, ints_get Q him, tt (by simpa using hd1), i1 10, ints_get L him, i1 11, ints_get Q him, tt (decide_eq_true hlt), C11t_ok, rfl, ?_⟩⟩
     exact ⟨⟨clr7 _, trivial⟩, .inr ⟨by simp, rfl⟩⟩
   · have hne : (L i != Q i) = false := by
      have : L i = Q i := Classical.byContradiction fun h => hd2 i (by omega) h
      rw [this]; simp
     refine ⟨T7c, _, rfl, (b7ce m i L Q p p tabC _).mpr ⟨tt (decide_eq_true (by omega)), tt pp, i1 10, ints_get L him, i1 11, ints_get Q him, tf hne, ?_⟩⟩
     rw [hw]
     exact ⟨⟨cl7c, trivial⟩, .inl ⟨rfl, i + 1, by show i + 1 ≤ j; omega, by show j - (i + 1) < j - i; omega, rfl, rfl⟩⟩
end
end Go.Ab
set_option maxRecDepth 100000
namespace Go.Ab
open Go Go.RowKit Go.Proofs
noncomputable def B96d : List TBw := [.dead, .dead, .dead, .dead, .dead, .dead, .dead, .cells Zp 99 .var, .cells Z1 37 .var, .cells Zp 99 .var, .dead, .dead, .dead, .dead, .dead, .cells Zp 99 .var, .cells (.func 84 .nil .nil .nil) 130 .var, .cells Zp 99 .var, .cells Zp 99 .var, .defs, .loop 15 (mkS 15 [(2, .ptr 16 0 .nil), (4, .ptr 17 0 .nil), (5, .ptr 18 0 .nil)]) #[8] p83, .list 104 .var, .cells (.yield 20 .nil) 128 .var, .defs, .loop 15 (mkS 15 [(2, .ptr 21 0 .nil), (3, .ptr 22 0 .nil)]) #[8] p85]
noncomputable def T96od : Tw := ⟨35, mkS 35 [(0, .hole .nil), (1, .yield 24 .nil), (8, .hole .nil), (9, .hole .nil)], 25, B96d⟩
noncomputable def T96id : Tw := ⟨35, mkS 35 [(0, .hole .nil), (1, .yield 24 .nil), (4, .hole .nil), (8, .hole .nil), (9, .hole .nil), (13, .hole .nil), (14, .hole .nil)], 25, B96d⟩
noncomputable def h96od (s : Nat) (rl : List Value) (lim : Int) (i : Nat) : Hw := ⟨⟨[I s, I lim, I i], []⟩, [rl], []⟩
noncomputable def h96id (s size : Nat) (rl : List Value) (lim : Int) (i : Nat) (lim2 : Int) (p : Nat) : Hw := ⟨⟨[I s, I size, I lim, I i, I lim2, I p], []⟩, [rl], []⟩
end Go.Ab
set_option maxRecDepth 100000
namespace Go.Ab
open Go Go.RowKit Go.Proofs
noncomputable def mH6 (us : List Value) : Mem := ⟨fillX [.dead, .dead, .dead, .dead, .cells us 1 .ro, .dead] 0 .nil, 6⟩
noncomputable def mD6 : Mem := ⟨fillX [.dead, .dead, .dead, .dead, .dead, .dead] 0 .nil, 6⟩
noncomputable def sh_n (rw st : Int) (c1 m cu : Nat) : Value := .agg ⟨[I rw, I st, nilS, nilS, slV 4 m cu, .map (some 5)]⟩
noncomputable def ShLn : TL := .hole (.hole (.val nilS (.val nilS (.slice 4 0 (.map 5 .nil)))))
noncomputable def C57n (rw st : Int) (c1 m cu : Nat) (us : List Value) (many : Int) : Con where
 A := .agg ShLn (.hole .nil)
 bs := [.dead, .dead, .dead, .dead, .list 1 .ro, .dead]
 pre y := y = ⟨⟨[I rw, I st, I many], [(m, cu)]⟩, [us]⟩
 res _ := .ret (.agg ⟨[I many, I m, I 0, I 0, I 0, I 0, I 0, I 0]⟩)
noncomputable def C21n (rw st : Int) (c1 m cu : Nat) (us : List Value) (many : Int) (r : List Value) (left : Int) : ConN where
 A := .agg SuTn (.hole .nil)
 bs := [.dead, .dead, .dead, .dead, .list 1 .ro]
 pre x := x = ⟨⟨[I rw, I st, I many], [(m, cu)]⟩, [us]⟩
 news _ := [(r, 3)]
 one := false
 res _ := [.sl 0 m, .cv (I left), .cv (I 0)]
noncomputable def sh_v (rw st : Int) (c1 m cu : Nat) : Value := .agg ⟨[I rw, I st, nilS, slV 3 0 c1, slV 4 m cu, .map (some 5)]⟩
noncomputable def ShLv : TL := .hole (.hole (.val nilS (.slice 3 0 (.slice 4 0 (.map 5 .nil)))))
noncomputable def C57v (rw st : Int) (c1 m cu : Nat) (us : List Value) (many : Int) : Con where
 A := .agg ShLv (.hole .nil)
 bs := [.dead, .dead, .dead, .dead, .list 1 .ro, .dead]
 pre y := y = ⟨⟨[I rw, I st, I many], [(0, c1), (m, cu)]⟩, [us]⟩
 res _ := .ret (.agg ⟨[I many, I m, I 0, I 0, I 0, I 0, I 0, I 0]⟩)
noncomputable def C21v (rw st : Int) (c1 m cu : Nat) (us : List Value) (many : Int) (r : List Value) (left : Int) : ConN where
 A := .agg SuTv (.hole .nil)
 bs := [.dead, .dead, .dead, .dead, .list 1 .ro]
 pre x := x = ⟨⟨[I rw, I st, I many], [(0, c1), (m, cu)]⟩, [us]⟩
 news _ := [(r, 3)]
 one := false
 res _ := [.sl 0 m, .cv (I left), .cv (I 0)]
noncomputable def sh_w (rw st : Int) (c1 m cu : Nat) : Value := .agg ⟨[I rw, I st, slV 2 0 c1, nilS, slV 4 m cu, .map (some 5)]⟩
noncomputable def ShLw : TL := .hole (.hole (.slice 2 0 (.val nilS (.slice 4 0 (.map 5 .nil)))))
noncomputable def C57w (rw st : Int) (c1 m cu : Nat) (us : List Value) (many : Int) : Con where
 A := .agg ShLw (.hole .nil)
 bs := [.dead, .dead, .dead, .dead, .list 1 .ro, .dead]
 pre y := y = ⟨⟨[I rw, I st, I many], [(0, c1), (m, cu)]⟩, [us]⟩
 res _ := .ret (.agg ⟨[I many, I m, I 0, I 0, I 0, I 0, I 0, I 0]⟩)
noncomputable def C21w (rw st : Int) (c1 m cu : Nat) (us : List Value) (many : Int) (r : List Value) (left : Int) : ConN where
 A := .agg SuTw (.hole .nil)
 bs := [.dead, .dead, .dead, .dead, .list 1 .ro]
 pre x := x = ⟨⟨[I rw, I st, I many], [(0, c1), (m, cu)]⟩, [us]⟩
 news _ := [(r, 3)]
 one := false
 res _ := [.sl 0 m, .cv (I left), .cv (I 0)]
noncomputable def sh_N (rw st : Int) (n cw n2 cv : Nat) : Value := .agg ⟨[I rw, I st, slV 2 n cw, slV 3 n2 cv, nilS, .map (some 5)]⟩
noncomputable def ShLN : TL := .hole (.hole (.slice 2 0 (.slice 3 0 (.val nilS (.map 5 .nil)))))
noncomputable def C57N (rw st : Int) (n cw n2 cv : Nat) (many : Int) : Con where
 A := .agg ShLN (.hole .nil)
 bs := [.dead, .dead, .dead, .dead, .dead, .dead]
 pre y := y = ⟨⟨[I rw, I st, I many], [(n, cw), (n2, cv)]⟩, []⟩
 res _ := .ret (.agg ⟨[I many, I 0, I 0, I 0, I 0, I 0, I 0, I 0]⟩)
noncomputable def C21N (rw st : Int) (n cw n2 cv : Nat) (ws vs : List Value) (many : Int) (r : List Value) (left : Int) : ConN where
 A := .agg SuTN (.hole .nil)
 bs := [.dead, .dead, .list 1 .ro, .list 1 .ro, .dead]
 pre x := x = ⟨⟨[I rw, I st, I many], [(n, cw), (n2, cv)]⟩, [ws, vs]⟩
 news _ := [(r, 3)]
 one := false
 res _ := [.sl 0 0, .cv (I left), .cv (I 0)]
noncomputable def sh_nnN (rw st : Int) : Value := .agg ⟨[I rw, I st, nilS, nilS, nilS, .map (some 5)]⟩
noncomputable def ShLnnN : TL := .hole (.hole (.val nilS (.val nilS (.val nilS (.map 5 .nil)))))
noncomputable def C57nnN (rw st : Int) (many : Int) : Con where
 A := .agg ShLnnN (.hole .nil)
 bs := [.dead, .dead, .dead, .dead, .dead, .dead]
 pre y := y = ⟨⟨[I rw, I st, I many], []⟩, []⟩
 res _ := .ret (.agg ⟨[I many, I 0, I 0, I 0, I 0, I 0, I 0, I 0]⟩)
noncomputable def C21nnN (rw st : Int) (many : Int) (r : List Value) (left : Int) : ConN where
 A := .agg (.hole (.hole (.val nilS (.val nilS (.val nilS .nil))))) (.hole .nil)
 bs := [.dead, .dead, .dead, .dead, .dead]
 pre x := x = ⟨⟨[I rw, I st, I many], []⟩, []⟩
 news _ := [(r, 3)]
 one := false
 res _ := [.sl 0 0, .cv (I left), .cv (I 0)]
noncomputable def sh_nvN (rw st : Int) (c1 : Nat) : Value := .agg ⟨[I rw, I st, nilS, slV 3 0 c1, nilS, .map (some 5)]⟩
noncomputable def ShLnvN : TL := .hole (.hole (.val nilS (.slice 3 0 (.val nilS (.map 5 .nil)))))
noncomputable def C57nvN (rw st : Int) (c1 : Nat) (many : Int) : Con where
 A := .agg ShLnvN (.hole .nil)
 bs := [.dead, .dead, .dead, .dead, .dead, .dead]
 pre y := y = ⟨⟨[I rw, I st, I many], [(0, c1)]⟩, []⟩
 res _ := .ret (.agg ⟨[I many, I 0, I 0, I 0, I 0, I 0, I 0, I 0]⟩)
noncomputable def C21nvN (rw st : Int) (c1 : Nat) (many : Int) (r : List Value) (left : Int) : ConN where
 A := .agg (.hole (.hole (.val nilS (.slice 3 0 (.val nilS .nil))))) (.hole .nil)
 bs := [.dead, .dead, .dead, .dead, .dead]
 pre x := x = ⟨⟨[I rw, I st, I many], [(0, c1)]⟩, []⟩
 news _ := [(r, 3)]
 one := false
 res _ := [.sl 0 0, .cv (I left), .cv (I 0)]
noncomputable def sh_wnN (rw st : Int) (c1 : Nat) : Value := .agg ⟨[I rw, I st, slV 2 0 c1, nilS, nilS, .map (some 5)]⟩
noncomputable def ShLwnN : TL := .hole (.hole (.slice 2 0 (.val nilS (.val nilS (.map 5 .nil)))))
noncomputable def C57wnN (rw st : Int) (c1 : Nat) (many : Int) : Con where
 A := .agg ShLwnN (.hole .nil)
 bs := [.dead, .dead, .dead, .dead, .dead, .dead]
 pre y := y = ⟨⟨[I rw, I st, I many], [(0, c1)]⟩, []⟩
 res _ := .ret (.agg ⟨[I many, I 0, I 0, I 0, I 0, I 0, I 0, I 0]⟩)
noncomputable def C21wnN (rw st : Int) (c1 : Nat) (many : Int) (r : List Value) (left : Int) : ConN where
 A := .agg (.hole (.hole (.slice 2 0 (.val nilS (.val nilS .nil))))) (.hole .nil)
 bs := [.dead, .dead, .dead, .dead, .dead]
 pre x := x = ⟨⟨[I rw, I st, I many], [(0, c1)]⟩, []⟩
 news _ := [(r, 3)]
 one := false
 res _ := [.sl 0 0, .cv (I left), .cv (I 0)]
noncomputable def T57n : Tw := ⟨44, mkS 44 [(2, .ptr 6 0 .nil), (4, .ptr 7 0 .nil), (5, .ptr 8 0 .nil), (17, .slice 4 0 .nil), (18, .hole .nil), (19, .hole .nil)], 9, [.dead, .dead, .dead, .dead, .list 1 .ro, .dead, .cells ShLn 77 .var, .cells Z8 104 .var, .list 104 .var]⟩
noncomputable def h57n (rw st : Int) (c1 m cu : Nat) (us cs : List Value) (i : Nat) : Hw := ⟨⟨[I m, I i, I rw, I st], [(m, cu), (m, cu)]⟩, [us, cs], []⟩
noncomputable def T57v : Tw := ⟨44, mkS 44 [(2, .ptr 6 0 .nil), (4, .ptr 7 0 .nil), (5, .ptr 8 0 .nil), (17, .slice 4 0 .nil), (18, .hole .nil), (19, .hole .nil)], 9, [.dead, .dead, .dead, .dead, .list 1 .ro, .dead, .cells ShLv 77 .var, .cells Z8 104 .var, .list 104 .var]⟩
noncomputable def h57v (rw st : Int) (c1 m cu : Nat) (us cs : List Value) (i : Nat) : Hw := ⟨⟨[I m, I i, I rw, I st], [(m, cu), (0, c1), (m, cu)]⟩, [us, cs], []⟩
noncomputable def T57w : Tw := ⟨44, mkS 44 [(2, .ptr 6 0 .nil), (4, .ptr 7 0 .nil), (5, .ptr 8 0 .nil), (17, .slice 4 0 .nil), (18, .hole .nil), (19, .hole .nil)], 9, [.dead, .dead, .dead, .dead, .list 1 .ro, .dead, .cells ShLw 77 .var, .cells Z8 104 .var, .list 104 .var]⟩
noncomputable def h57w (rw st : Int) (c1 m cu : Nat) (us cs : List Value) (i : Nat) : Hw := ⟨⟨[I m, I i, I rw, I st], [(m, cu), (0, c1), (m, cu)]⟩, [us, cs], []⟩
end Go.Ab
