/- package surf: what truly comes of the first hours. -/
import Derived.Test.YtoelpblmhmhglaaDoorFI
import Derived.Test.YtoelpblmhmhglaaDoorEW
set_option maxRecDepth 100000
namespace Go.Ab
open Go Go.RowKit Go.Proofs
theorem b13aq (rw st : Int) (N n cw cv m cu a b : Nat) (i : Nat) (fl br row0 row : Int) (wt vt : Nat → Int) (R : Nat → AExit → Hw → Prop) : (vx.code none (.l p13) (leafW [T13a, T13b] R) (T13a.inst (h13aq rw st N n cw cv m cu a b fl br row0 row (ints n wt) (ints n vt) i)) ([(0, .split ([(5, .split ((3, .val (.pointer (some ⟨5, 0 + i * 1, none⟩))) :: (0, .val (I (wt i))) :: [(8, .split ((4, .val (.pointer (some ⟨6, 0 + i * 1, none⟩))) :: (0, .val (I (vt i))) :: [(3, .split ((6, .val (.pointer (some ⟨6, 0 + i * 1, none⟩))) :: (0, .val (I (vt i))) :: [(2, .split ([(17, .tm 1 [((9 : Nat), (10 : Nat)), ((10 : Nat), (12 : Nat))])]) ([(14, .tm 1 [((9 : Nat), (10 : Nat)), ((10 : Nat), (12 : Nat))])]))]) ([(18, .tm 1 [((9 : Nat), (10 : Nat)), ((10 : Nat), (12 : Nat))])]))]) ([(19, .tm 1 [((9 : Nat), (10 : Nat)), ((10 : Nat), (12 : Nat))])]))]) ([(22, .tm 1 [((9 : Nat), (10 : Nat)), ((10 : Nat), (12 : Nat))])]))]) ([(1, .tm 0 [])]))])) =
((((decide ((i : Int) < n)) = true → (((decide (row ≥ (0 : Int))) = true → ((((((0 : Int) ≤ i)) ∧ (((i : Int) < n))) ∧ (((.pointer (some ⟨5, 0 + i * 1, none⟩)) : Value) = (.pointer (some ⟨5, 0 + i * 1, none⟩)))) ∧
((((ints n wt)[0 + i * 1]? = some (I (wt i)))) ∧
(((decide ((if IntKind.i64.wrap (wt i - IntKind.i64.wrap (st * row)) > (0 : Int) then IntKind.i64.wrap (wt i - IntKind.i64.wrap (st * row)) else (0 : Int)) > (0 : Int))) = true → ((((((0 : Int) ≤ i)) ∧ (((i : Int) < n))) ∧ (((.pointer (some ⟨6, 0 + i * 1, none⟩)) : Value) = (.pointer (some ⟨6, 0 + i * 1, none⟩)))) ∧
((((ints n vt)[0 + i * 1]? = some (I (vt i)))) ∧
(((decide (IntKind.i64.wrap ((if IntKind.i64.wrap (wt i - IntKind.i64.wrap (st * row)) > (0 : Int) then IntKind.i64.wrap (wt i - IntKind.i64.wrap (st * row)) else (0 : Int)) + vt i) > fl)) = true → ((((((0 : Int) ≤ i)) ∧ (((i : Int) < n))) ∧ (((.pointer (some ⟨6, 0 + i * 1, none⟩)) : Value) = (.pointer (some ⟨6, 0 + i * 1, none⟩)))) ∧
((((ints n vt)[0 + i * 1]? = some (I (vt i)))) ∧
(((decide (vt i > br)) = true → R 1 .normal ⟨⟨[(I (IntKind.i64.wrap (row - (1 : Int)))), (I n), (I (IntKind.i64.wrap ((i : Int) + (1 : Int)))), (I rw), (I st), (I fl), (I br), (I row0)], [⟨n, a⟩, ⟨n, b⟩, ⟨((1 : Nat)), ((1 : Nat))⟩, ⟨((1 : Nat)), ((1 : Nat))⟩, ⟨N, cw⟩, ⟨N, cv⟩, ⟨m, cu⟩]⟩, [(ints n wt), (ints n vt), [(I (IntKind.i64.wrap (row - (1 : Int))))], [(.bool true)]], []⟩) ∧
((decide (vt i > br)) = false → R 1 .normal ⟨⟨[(I row), (I n), (I (IntKind.i64.wrap ((i : Int) + (1 : Int)))), (I rw), (I st), (I fl), (I br), (I row0)], [⟨n, a⟩, ⟨n, b⟩, ⟨((1 : Nat)), ((1 : Nat))⟩, ⟨((1 : Nat)), ((1 : Nat))⟩, ⟨N, cw⟩, ⟨N, cv⟩, ⟨m, cu⟩]⟩, [(ints n wt), (ints n vt), [(I row)], [(.bool true)]], []⟩))))) ∧
((decide (IntKind.i64.wrap ((if IntKind.i64.wrap (wt i - IntKind.i64.wrap (st * row)) > (0 : Int) then IntKind.i64.wrap (wt i - IntKind.i64.wrap (st * row)) else (0 : Int)) + vt i) > fl)) = false → R 1 .normal ⟨⟨[(I row), (I n), (I (IntKind.i64.wrap ((i : Int) + (1 : Int)))), (I rw), (I st), (I fl), (I br), (I row0)], [⟨n, a⟩, ⟨n, b⟩, ⟨((1 : Nat)), ((1 : Nat))⟩, ⟨((1 : Nat)), ((1 : Nat))⟩, ⟨N, cw⟩, ⟨N, cv⟩, ⟨m, cu⟩]⟩, [(ints n wt), (ints n vt), [(I row)], [(.bool false)]], []⟩))))) ∧
((decide ((if IntKind.i64.wrap (wt i - IntKind.i64.wrap (st * row)) > (0 : Int) then IntKind.i64.wrap (wt i - IntKind.i64.wrap (st * row)) else (0 : Int)) > (0 : Int))) = false → R 1 .normal ⟨⟨[(I row), (I n), (I (IntKind.i64.wrap ((i : Int) + (1 : Int)))), (I rw), (I st), (I fl), (I br), (I row0)], [⟨n, a⟩, ⟨n, b⟩, ⟨((1 : Nat)), ((1 : Nat))⟩, ⟨((1 : Nat)), ((1 : Nat))⟩, ⟨N, cw⟩, ⟨N, cv⟩, ⟨m, cu⟩]⟩, [(ints n wt), (ints n vt), [(I row)], [(.bool false)]], []⟩))))) ∧
((decide (row ≥ (0 : Int))) = false → R 1 .normal ⟨⟨[(I row), (I n), (I (IntKind.i64.wrap ((i : Int) + (1 : Int)))), (I rw), (I st), (I fl), (I br), (I row0)], [⟨n, a⟩, ⟨n, b⟩, ⟨((1 : Nat)), ((1 : Nat))⟩, ⟨((1 : Nat)), ((1 : Nat))⟩, ⟨N, cw⟩, ⟨N, cv⟩, ⟨m, cu⟩]⟩, [(ints n wt), (ints n vt), [(I row)], [(.bool false)]], []⟩))) ∧
((decide ((i : Int) < n)) = false → R 0 (.exit 0) ⟨⟨[(I row), (I n), (I i), (I rw), (I st), (I fl), (I br), (I row0)], [⟨n, a⟩, ⟨n, b⟩, ⟨N, cw⟩, ⟨N, cv⟩, ⟨m, cu⟩]⟩, [(ints n wt), (ints n vt)], []⟩))) := by kernel_rfl
theorem b13bq (rw st : Int) (N n cw cv m cu a b : Nat) (i : Nat) (fl br row0 row : Int) (wt vt : Nat → Int) (r1 r2 : List Value) (R : Nat → AExit → Hw → Prop) : (vx.code none (.l p13) (leafW [T13a, T13b] R) (T13b.inst (h13bq rw st N n cw cv m cu a b fl br row0 row (ints n wt) (ints n vt) r1 r2 i)) ([(0, .split ([(5, .split ((3, .val (.pointer (some ⟨5, 0 + i * 1, none⟩))) :: (0, .val (I (wt i))) :: [(8, .split ((4, .val (.pointer (some ⟨6, 0 + i * 1, none⟩))) :: (0, .val (I (vt i))) :: [(3, .split ((6, .val (.pointer (some ⟨6, 0 + i * 1, none⟩))) :: (0, .val (I (vt i))) :: [(2, .split ((8, .grow) :: (3, .grow) :: [(4, .tm 1 [((9 : Nat), (12 : Nat)), ((10 : Nat), (14 : Nat))])]) ((5, .grow) :: (3, .grow) :: [(4, .tm 1 [((9 : Nat), (12 : Nat)), ((10 : Nat), (14 : Nat))])]))]) ((9, .grow) :: (3, .grow) :: [(4, .tm 1 [((9 : Nat), (12 : Nat)), ((10 : Nat), (14 : Nat))])]))]) ((10, .grow) :: (3, .grow) :: [(4, .tm 1 [((9 : Nat), (12 : Nat)), ((10 : Nat), (14 : Nat))])]))]) ((13, .grow) :: (3, .grow) :: [(4, .tm 1 [((9 : Nat), (12 : Nat)), ((10 : Nat), (14 : Nat))])]))]) ([(1, .tm 1 [((9 : Nat), (9 : Nat)), ((10 : Nat), (10 : Nat))])]))])) =
((((decide ((i : Int) < n)) = true → (((decide (row ≥ (0 : Int))) = true → ((((((0 : Int) ≤ i)) ∧ (((i : Int) < n))) ∧ (((.pointer (some ⟨5, 0 + i * 1, none⟩)) : Value) = (.pointer (some ⟨5, 0 + i * 1, none⟩)))) ∧
((((ints n wt)[0 + i * 1]? = some (I (wt i)))) ∧
(((decide ((if IntKind.i64.wrap (wt i - IntKind.i64.wrap (st * row)) > (0 : Int) then IntKind.i64.wrap (wt i - IntKind.i64.wrap (st * row)) else (0 : Int)) > (0 : Int))) = true → ((((((0 : Int) ≤ i)) ∧ (((i : Int) < n))) ∧ (((.pointer (some ⟨6, 0 + i * 1, none⟩)) : Value) = (.pointer (some ⟨6, 0 + i * 1, none⟩)))) ∧
((((ints n vt)[0 + i * 1]? = some (I (vt i)))) ∧
(((decide (IntKind.i64.wrap ((if IntKind.i64.wrap (wt i - IntKind.i64.wrap (st * row)) > (0 : Int) then IntKind.i64.wrap (wt i - IntKind.i64.wrap (st * row)) else (0 : Int)) + vt i) > fl)) = true → ((((((0 : Int) ≤ i)) ∧ (((i : Int) < n))) ∧ (((.pointer (some ⟨6, 0 + i * 1, none⟩)) : Value) = (.pointer (some ⟨6, 0 + i * 1, none⟩)))) ∧
((((ints n vt)[0 + i * 1]? = some (I (vt i)))) ∧
(((decide (vt i > br)) = true → ((((¬i + (1 : Nat) ≤ i)) ∧ (((i * (1 : Nat) = r1.length)) ∧ ((((i + (1 : Nat)) * (8 : Nat) ≤ (140737488355328 : Nat))) ∧ ((i + (1 : Nat) ≤ (4611686018427387904 : Nat)))))) ∧
((((¬i + (1 : Nat) ≤ i)) ∧ (((i * (1 : Nat) = r2.length)) ∧ ((((i + (1 : Nat)) * (1 : Nat) ≤ (140737488355328 : Nat))) ∧ ((i + (1 : Nat) ≤ (4611686018427387904 : Nat)))))) ∧
R 1 .normal ⟨⟨[(I (IntKind.i64.wrap (row - (1 : Int)))), (I n), (I (IntKind.i64.wrap ((i : Int) + (1 : Int)))), (I rw), (I st), (I fl), (I br), (I row0)], [⟨n, a⟩, ⟨n, b⟩, ⟨(i + (1 : Nat)), (i + (1 : Nat))⟩, ⟨(i + (1 : Nat)), (i + (1 : Nat))⟩, ⟨N, cw⟩, ⟨N, cv⟩, ⟨m, cu⟩]⟩, [(ints n wt), (ints n vt), ((List.take (i * (1 : Nat)) (r1)) ++ [(I (IntKind.i64.wrap (row - (1 : Int))))]), ((List.take (i * (1 : Nat)) (r2)) ++ [(.bool true)])], []⟩))) ∧
((decide (vt i > br)) = false → ((((¬i + (1 : Nat) ≤ i)) ∧ (((i * (1 : Nat) = r1.length)) ∧ ((((i + (1 : Nat)) * (8 : Nat) ≤ (140737488355328 : Nat))) ∧ ((i + (1 : Nat) ≤ (4611686018427387904 : Nat)))))) ∧
((((¬i + (1 : Nat) ≤ i)) ∧ (((i * (1 : Nat) = r2.length)) ∧ ((((i + (1 : Nat)) * (1 : Nat) ≤ (140737488355328 : Nat))) ∧ ((i + (1 : Nat) ≤ (4611686018427387904 : Nat)))))) ∧
R 1 .normal ⟨⟨[(I row), (I n), (I (IntKind.i64.wrap ((i : Int) + (1 : Int)))), (I rw), (I st), (I fl), (I br), (I row0)], [⟨n, a⟩, ⟨n, b⟩, ⟨(i + (1 : Nat)), (i + (1 : Nat))⟩, ⟨(i + (1 : Nat)), (i + (1 : Nat))⟩, ⟨N, cw⟩, ⟨N, cv⟩, ⟨m, cu⟩]⟩, [(ints n wt), (ints n vt), ((List.take (i * (1 : Nat)) (r1)) ++ [(I row)]), ((List.take (i * (1 : Nat)) (r2)) ++ [(.bool true)])], []⟩))))))) ∧
((decide (IntKind.i64.wrap ((if IntKind.i64.wrap (wt i - IntKind.i64.wrap (st * row)) > (0 : Int) then IntKind.i64.wrap (wt i - IntKind.i64.wrap (st * row)) else (0 : Int)) + vt i) > fl)) = false → ((((¬i + (1 : Nat) ≤ i)) ∧ (((i * (1 : Nat) = r1.length)) ∧ ((((i + (1 : Nat)) * (8 : Nat) ≤ (140737488355328 : Nat))) ∧ ((i + (1 : Nat) ≤ (4611686018427387904 : Nat)))))) ∧
((((¬i + (1 : Nat) ≤ i)) ∧ (((i * (1 : Nat) = r2.length)) ∧ ((((i + (1 : Nat)) * (1 : Nat) ≤ (140737488355328 : Nat))) ∧ ((i + (1 : Nat) ≤ (4611686018427387904 : Nat)))))) ∧
R 1 .normal ⟨⟨[(I row), (I n), (I (IntKind.i64.wrap ((i : Int) + (1 : Int)))), (I rw), (I st), (I fl), (I br), (I row0)], [⟨n, a⟩, ⟨n, b⟩, ⟨(i + (1 : Nat)), (i + (1 : Nat))⟩, ⟨(i + (1 : Nat)), (i + (1 : Nat))⟩, ⟨N, cw⟩, ⟨N, cv⟩, ⟨m, cu⟩]⟩, [(ints n wt), (ints n vt), ((List.take (i * (1 : Nat)) (r1)) ++ [(I row)]), ((List.take (i * (1 : Nat)) (r2)) ++ [(.bool false)])], []⟩))))))) ∧
((decide ((if IntKind.i64.wrap (wt i - IntKind.i64.wrap (st * row)) > (0 : Int) then IntKind.i64.wrap (wt i - IntKind.i64.wrap (st * row)) else (0 : Int)) > (0 : Int))) = false → ((((¬i + (1 : Nat) ≤ i)) ∧ (((i * (1 : Nat) = r1.length)) ∧ ((((i + (1 : Nat)) * (8 : Nat) ≤ (140737488355328 : Nat))) ∧ ((i + (1 : Nat) ≤ (4611686018427387904 : Nat)))))) ∧
((((¬i + (1 : Nat) ≤ i)) ∧ (((i * (1 : Nat) = r2.length)) ∧ ((((i + (1 : Nat)) * (1 : Nat) ≤ (140737488355328 : Nat))) ∧ ((i + (1 : Nat) ≤ (4611686018427387904 : Nat)))))) ∧
R 1 .normal ⟨⟨[(I row), (I n), (I (IntKind.i64.wrap ((i : Int) + (1 : Int)))), (I rw), (I st), (I fl), (I br), (I row0)], [⟨n, a⟩, ⟨n, b⟩, ⟨(i + (1 : Nat)), (i + (1 : Nat))⟩, ⟨(i + (1 : Nat)), (i + (1 : Nat))⟩, ⟨N, cw⟩, ⟨N, cv⟩, ⟨m, cu⟩]⟩, [(ints n wt), (ints n vt), ((List.take (i * (1 : Nat)) (r1)) ++ [(I row)]), ((List.take (i * (1 : Nat)) (r2)) ++ [(.bool false)])], []⟩))))))) ∧
((decide (row ≥ (0 : Int))) = false → ((((¬i + (1 : Nat) ≤ i)) ∧ (((i * (1 : Nat) = r1.length)) ∧ ((((i + (1 : Nat)) * (8 : Nat) ≤ (140737488355328 : Nat))) ∧ ((i + (1 : Nat) ≤ (4611686018427387904 : Nat)))))) ∧
((((¬i + (1 : Nat) ≤ i)) ∧ (((i * (1 : Nat) = r2.length)) ∧ ((((i + (1 : Nat)) * (1 : Nat) ≤ (140737488355328 : Nat))) ∧ ((i + (1 : Nat) ≤ (4611686018427387904 : Nat)))))) ∧
R 1 .normal ⟨⟨[(I row), (I n), (I (IntKind.i64.wrap ((i : Int) + (1 : Int)))), (I rw), (I st), (I fl), (I br), (I row0)], [⟨n, a⟩, ⟨n, b⟩, ⟨(i + (1 : Nat)), (i + (1 : Nat))⟩, ⟨(i + (1 : Nat)), (i + (1 : Nat))⟩, ⟨N, cw⟩, ⟨N, cv⟩, ⟨m, cu⟩]⟩, [(ints n wt), (ints n vt), ((List.take (i * (1 : Nat)) (r1)) ++ [(I row)]), ((List.take (i * (1 : Nat)) (r2)) ++ [(.bool false)])], []⟩))))) ∧
((decide ((i : Int) < n)) = false → R 1 (.exit 0) ⟨⟨[(I row), (I n), (I i), (I rw), (I st), (I fl), (I br), (I row0)], [⟨n, a⟩, ⟨n, b⟩, ⟨i, i⟩, ⟨i, i⟩, ⟨N, cw⟩, ⟨N, cv⟩, ⟨m, cu⟩]⟩, [(ints n wt), (ints n vt), (r1), (r2)], []⟩))) := by kernel_rfl
theorem f13q (rw st : Int) (N n cw cv m cu a b : Nat) (fl br row0 row : Int) (wt vt : Nat → Int) (r1 r2 : List Value) (R : Hx → Prop) : (vx.call 13 [suV rw st N cw cv m cu, .agg ⟨[I fl, I br, I row0]⟩, slV 5 n a, slV 6 n b] (retN (rowT22 7 3 4) R) (m13 (ints n wt) (ints n vt)) ((11, .loopW T13a (.exit 0) T13b fun x => h13bq rw st N n cw cv m cu a b fl br row0 row (ints n wt) (ints n vt) r1 r2 n) :: [(4, .tm 0 [((7 : Nat), (9 : Nat)), ((8 : Nat), (10 : Nat))])])) =
(((ClW ⟨⟨[(I row0), (I n), (I 0), (I rw), (I st), (I fl), (I br), (I row0)], [⟨n, a⟩, ⟨n, b⟩, ⟨N, cw⟩, ⟨N, cv⟩, ⟨m, cu⟩]⟩, [(ints n wt), (ints n vt)], []⟩) ∧ (LoopOW Tryd.prog .none p13 (T13a) ⟨⟨[(I row0), (I n), (I 0), (I rw), (I st), (I fl), (I br), (I row0)], [⟨n, a⟩, ⟨n, b⟩, ⟨N, cw⟩, ⟨N, cv⟩, ⟨m, cu⟩]⟩, [(ints n wt), (ints n vt)], []⟩ (.exit 0) (T13b) ⟨⟨[(I row), (I n), (I n), (I rw), (I st), (I fl), (I br), (I row0)], [⟨n, a⟩, ⟨n, b⟩, ⟨n, n⟩, ⟨n, n⟩, ⟨N, cw⟩, ⟨N, cv⟩, ⟨m, cu⟩]⟩, [(ints n wt), (ints n vt), (r1), (r2)], []⟩) ∧
R ⟨⟨[], [⟨n, n⟩, ⟨n, n⟩]⟩, [(r1), (r2)]⟩)) := by kernel_rfl
section
variable {rw st : Int} {N n cw cv m cu a b : Nat} {fl br row0 : Int} {wt vt : Nat → Int}
noncomputable def st13q (rw st : Int) (N n cw cv m cu a b : Nat) (fl br row0 : Int) (wt vt : Nat → Int) : Nat → Nat × Hw
 | 0 => (0, h13aq rw st N n cw cv m cu a b fl br row0 row0 (ints n wt) (ints n vt) 0)
 | i + 1 => (1, h13bq rw st N n cw cv m cu a b fl br row0 (rowF st fl br row0 wt vt (i + 1)) (ints n wt) (ints n vt) (ints (i + 1) fun j => rowF st fl br row0 wt vt (j + 1)) (boolsL (i + 1) (floF st fl br row0 wt vt)) (i + 1))
theorem cl13q (i : Nat) : ClW (st13q rw st N n cw cv m cu a b fl br row0 wt vt i).2 := by
 cases i with
 | zero =>
  refine ⟨fun cs hc => ?_, fun es hc => (by cases hc)⟩
  simp only [st13q, h13aq, List.mem_cons, List.not_mem_nil, or_false] at hc
  rcases hc with rfl | rfl
  · exact ints_at n _
  · exact ints_at n _
 | succ i =>
  refine ⟨fun cs hc => ?_, fun es hc => (by cases hc)⟩
  simp only [st13q, h13bq, List.mem_cons, List.not_mem_nil, or_false] at hc
  rcases hc with rfl | rfl | rfl | rfl
  · exact ints_at n _
  · exact ints_at n _
  · exact ints_at _ _
  · exact boolsL_at _ _
theorem loop13q (h0 : 0 < n) (h8 : n ≤ 8) : LoopOW Tryd.prog none p13 T13a (h13aq rw st N n cw cv m cu a b fl br row0 row0 (ints n wt) (ints n vt) 0) (.exit 0) T13b
    (h13bq rw st N n cw cv m cu a b fl br row0 (rowF st fl br row0 wt vt n) (ints n wt) (ints n vt) (ints n fun j => rowF st fl br row0 wt vt (j + 1)) (boolsL n (floF st fl br row0 wt vt)) n) := by
 have hst : st13q rw st N n cw cv m cu a b fl br row0 wt vt n = (1, h13bq rw st N n cw cv m cu a b fl br row0 (rowF st fl br row0 wt vt n) (ints n wt) (ints n vt) (ints n fun j => rowF st fl br row0 wt vt (j + 1)) (boolsL n (floF st fl br row0 wt vt)) n) := by
  obtain ⟨k, rfl⟩ : ∃ k, n = k + 1 := ⟨n - 1, by omega⟩
  rfl
 have main := loop_forW (P := Tryd.prog) (ro := none) (p := p13) (Ts := [T13a, T13b]) (k := 9) (n := n) (e := .exit 0) (st := st13q rw st N n cw cv m cu a b fl br row0 wt vt) rfl vx_sound (by
  intro T hT
  simp only [List.mem_cons, List.not_mem_nil, or_false] at hT
  rcases hT with rfl | rfl <;> rfl) (by rw [nglob]; omega) ⟨by simp, trivial⟩ (fun i _ => cl13q i) (fun i hi R hR => by
  have hw : IntKind.i64.wrap ((i : Int) + 1) = ((i + 1 : Nat) : Int) := wrapI (by omega) (by omega)
  have gw := ints_get wt hi
  have gv := ints_get vt hi
  have hn : rowF st fl br row0 wt vt (i + 1) = nxF st fl br (rowF st fl br row0 wt vt i) (wt i) (vt i) := rfl
  have hf : floF st fl br row0 wt vt i = isF st fl (rowF st fl br row0 wt vt i) (wt i) (vt i) := rfl
  have dp : ∀ row : Int, dpF st (wt i) row = if IntKind.i64.wrap (wt i - IntKind.i64.wrap (st * row)) > (0 : Int) then IntKind.i64.wrap (wt i - IntKind.i64.wrap (st * row)) else (0 : Int) := fun _ => rfl
  have up : ∀ row : Int, decide (row ≥ 0) = true → decide (dpF st (wt i) row > 0) = true → decide (IntKind.i64.wrap (dpF st (wt i) row + vt i) > fl) = true → isF st fl row (wt i) (vt i) = true := fun row h1 h2 h3 => by unfold isF; rw [h1, h2, h3]; rfl
  have no1 : ∀ row : Int, decide (row ≥ 0) = false → isF st fl row (wt i) (vt i) = false := fun row h1 => by unfold isF; rw [h1]; rfl
  have no2 : ∀ row : Int, decide (dpF st (wt i) row > 0) = false → isF st fl row (wt i) (vt i) = false := fun row h1 => by unfold isF; rw [h1]; simp
  have no3 : ∀ row : Int, decide (IntKind.i64.wrap (dpF st (wt i) row + vt i) > fl) = false → isF st fl row (wt i) (vt i) = false := fun row h1 => by unfold isF; rw [h1]; simp
  have nx1 : ∀ row : Int, isF st fl row (wt i) (vt i) = true → decide (vt i > br) = true → nxF st fl br row (wt i) (vt i) = IntKind.i64.wrap (row - 1) := fun row h1 h2 => if_pos ⟨h1, of_decide_eq_true h2⟩
  have nx2 : ∀ row : Int, decide (vt i > br) = false → nxF st fl br row (wt i) (vt i) = row := fun row h2 => if_neg fun h => of_decide_eq_false h2 h.2
  have nx3 : ∀ row : Int, isF st fl row (wt i) (vt i) = false → nxF st fl br row (wt i) (vt i) = row := fun row h1 => if_neg fun h => by rw [h1] at h; cases h.1
  cases i with
  | zero =>
   have key : ∀ (row' : Int) (is : Bool), rowF st fl br row0 wt vt 1 = row' → floF st fl br row0 wt vt 0 = is → R 1 .normal (h13bq rw st N n cw cv m cu a b fl br row0 row' (ints n wt) (ints n vt) [I row'] [.bool is] 1) := fun row' is e1 e2 => by subst e1; subst e2; exact hR
   refine ⟨T13a, _, rfl, (b13aq rw st N n cw cv m cu a b 0 fl br row0 row0 wt vt R).mpr ⟨fun _ => ⟨fun h1 => ⟨⟨⟨by omega, by omega⟩, rfl⟩, gw, fun h2 => ⟨⟨⟨by omega, by omega⟩, rfl⟩, gv, fun h3 => ⟨⟨⟨by omega, by omega⟩, rfl⟩, gv, fun h4 => ?_, fun h4 => ?_⟩, fun h3 => ?_⟩, fun h2 => ?_⟩, fun h1 => ?_⟩, fun h => absurd (by omega) (of_decide_eq_false h)⟩⟩
   · have is := up row0 h1 h2 h3
     exact key _ _ (by rw [hn]; exact nx1 _ is h4) (by rw [hf]; exact is)
   · have is := up row0 h1 h2 h3
     exact key _ _ (by rw [hn]; exact nx2 _ h4) (by rw [hf]; exact is)
   · have is := no3 row0 h3
     exact key _ _ (by rw [hn]; exact nx3 _ is) (by rw [hf]; exact is)
   · have is := no2 row0 h2
     exact key _ _ (by rw [hn]; exact nx3 _ is) (by rw [hf]; exact is)
   · have is := no1 row0 h1
     exact key _ _ (by rw [hn]; exact nx3 _ is) (by rw [hf]; exact is)
  | succ i =>
   generalize hrow : rowF st fl br row0 wt vt (i + 1) = row at hn hf
   have key : ∀ (row' : Int) (is : Bool), rowF st fl br row0 wt vt (i + 1 + 1) = row' → floF st fl br row0 wt vt (i + 1) = is → R 1 .normal (h13bq rw st N n cw cv m cu a b fl br row0 row' (ints n wt) (ints n vt) (List.take ((i + 1) * 1) (ints (i + 1) fun j => rowF st fl br row0 wt vt (j + 1)) ++ [I row']) (List.take ((i + 1) * 1) (boolsL (i + 1) (floF st fl br row0 wt vt)) ++ [.bool is]) (i + 1 + 1)) := fun row' is e1 e2 => by
    subst e1
    subst e2
    rw [take_ints, take_bools]
    have f1 : (ints (i + 1) fun j => rowF st fl br row0 wt vt (j + 1)) ++ [I (rowF st fl br row0 wt vt (i + 1 + 1))] = ints (i + 1 + 1) fun j => rowF st fl br row0 wt vt (j + 1) := flatC_succ.symm
    have f2 : boolsL (i + 1) (floF st fl br row0 wt vt) ++ [.bool (floF st fl br row0 wt vt (i + 1))] = boolsL (i + 1 + 1) (floF st fl br row0 wt vt) := flatC_succ.symm
    rw [f1, f2]
    exact hR
   have g1 : (¬ i + 1 + 1 ≤ i + 1) ∧ (i + 1) * 1 = (ints (i + 1) fun j => rowF st fl br row0 wt vt (j + 1)).length ∧ (i + 1 + 1) * 8 ≤ 140737488355328 ∧ i + 1 + 1 ≤ 4611686018427387904 := ⟨by omega, by rw [ints_len], by omega, by omega⟩
   have g2 : (¬ i + 1 + 1 ≤ i + 1) ∧ (i + 1) * 1 = (boolsL (i + 1) (floF st fl br row0 wt vt)).length ∧ (i + 1 + 1) * 1 ≤ 140737488355328 ∧ i + 1 + 1 ≤ 4611686018427387904 := ⟨by omega, by rw [boolsL_len], by omega, by omega⟩
   have hst1 : (st13q rw st N n cw cv m cu a b fl br row0 wt vt (i + 1)).2 = h13bq rw st N n cw cv m cu a b fl br row0 row (ints n wt) (ints n vt) (ints (i + 1) fun j => rowF st fl br row0 wt vt (j + 1)) (boolsL (i + 1) (floF st fl br row0 wt vt)) (i + 1) := by rw [← hrow]; rfl
   rw [hst1]
   refine ⟨T13b, _, rfl, (b13bq rw st N n cw cv m cu a b (i + 1) fl br row0 row wt vt _ _ R).mpr ⟨fun _ => ⟨fun h1 => ⟨⟨⟨by omega, by omega⟩, rfl⟩, gw, fun h2 => ⟨⟨⟨by omega, by omega⟩, rfl⟩, gv, fun h3 => ⟨⟨⟨by omega, by omega⟩, rfl⟩, gv, fun h4 => ⟨g1, g2, ?_⟩, fun h4 => ⟨g1, g2, ?_⟩⟩, fun h3 => ⟨g1, g2, ?_⟩⟩, fun h2 => ⟨g1, g2, ?_⟩⟩, fun h1 => ⟨g1, g2, ?_⟩⟩, fun h => absurd (by omega) (of_decide_eq_false h)⟩⟩
   · have is := up row h1 h2 h3
     rw [hw]
     exact key _ _ (by rw [hn]; exact nx1 _ is h4) (by rw [hf]; exact is)
   · have is := up row h1 h2 h3
     rw [hw]
     exact key _ _ (by rw [hn]; exact nx2 _ h4) (by rw [hf]; exact is)
   · have is := no3 row h3
     rw [hw]
     exact key _ _ (by rw [hn]; exact nx3 _ is) (by rw [hf]; exact is)
   · have is := no2 row h2
     rw [hw]
     exact key _ _ (by rw [hn]; exact nx3 _ is) (by rw [hf]; exact is)
   · have is := no1 row h1
     rw [hw]
     exact key _ _ (by rw [hn]; exact nx3 _ is) (by rw [hf]; exact is)) (fun R hR => by
  rw [hst] at hR ⊢
  exact ⟨T13b, _, rfl, (b13bq rw st N n cw cv m cu a b n fl br row0 _ wt vt _ _ R).mpr ⟨fun h => absurd (of_decide_eq_true h) (by omega), fun _ => hR⟩⟩) (T0 := T13a) (T1 := T13b) rfl (Nat.le_of_ble_eq_true rfl) (by decide) (by rw [hst]; rfl)
 rw [hst] at main
 exact main
theorem C13q_ok (h0 : 0 < n) (h8 : n ≤ 8) : ConNOK Tryd.prog 13 (C13q rw st N n cw cv m cu a b fl br row0 (ints n wt) (ints n vt) (ints n fun j => rowF st fl br row0 wt vt (j + 1)) (boolsL n (floF st fl br row0 wt vt))) := by
 refine conRow22_of rfl vx_sound (C := C13q rw st N n cw cv m cu a b fl br row0 (ints n wt) (ints n vt) (ints n fun j => rowF st fl br row0 wt vt (j + 1)) (boolsL n (floF st fl br row0 wt vt))) (n := n) (c1 := ints n fun j => rowF st fl br row0 wt vt (j + 1)) (c2 := boolsL n (floF st fl br row0 wt vt)) (e1 := 3) (e2 := 4) ⟨⟨[I rw, I st, I fl, I br, I row0], [(N, cw), (N, cv), (m, cu), (n, a), (n, b)]⟩, [ints n wt, ints n vt]⟩ (fun x => Iff.rfl) rfl rfl rfl ?_ ?_ (ints_at _ _) (boolsL_at _ _) rfl (Nat.le_of_ble_eq_true rfl) (by rw [nglob]; exact Nat.le_of_ble_eq_true rfl)
 · exact ⟨_, (f13q rw st N n cw cv m cu a b fl br row0 _ wt vt _ _ _).mpr ⟨cl13q (st := st) (rw := rw) (N := N) (n := n) (cw := cw) (cv := cv) (m := m) (cu := cu) (a := a) (b := b) (fl := fl) (br := br) (row0 := row0) (wt := wt) (vt := vt) 0, loop13q h0 h8, rfl⟩⟩
 · intro cs hc
   simp only [List.mem_cons, List.not_mem_nil, or_false] at hc
   rcases hc with rfl | rfl
   · exact ints_at _ _
   · exact ints_at _ _
end
end Go.Ab
