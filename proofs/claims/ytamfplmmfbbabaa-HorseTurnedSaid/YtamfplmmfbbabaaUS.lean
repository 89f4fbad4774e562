/- WHAT THE PACKAGE horse IS GIVEN. -/
import Derived.Test.YtamfplmmfbbabaaUR
import Derived.Test.YtamfplmmfbbabaaUN
import Derived.IntWalk
set_option maxRecDepth 100000
namespace Go.Ab
open Go Go.RowKit Go.Proofs
structure Mv where
  at_ : Int
  place : Int
  lo : Int
  hi : Int
noncomputable def mvV (m : Mv) : List Value := [I m.at_, I m.place, I m.lo, I m.hi]
noncomputable def mvs (n : Nat) (f : Nat → Mv) : List Value := flatC n fun i => mvV (f i)
noncomputable def hV (p : Int) (n c : Nat) : Value := .agg ⟨[I p, .slice (some ⟨0, 0, none⟩) n c]⟩
theorem nglob : Try.prog.globals.size = 0 := by kernel_rfl
end Go.Ab
namespace Go.Ab
open Go Go.RowKit
section
theorem flatC_len {n k : Nat} {g : Nat → List Value} (hk : ∀ i, i < n → (g i).length = k) : (flatC n g).length = n * k := by
  induction n with
  | zero => simp [flatC]
  | succ n ih =>
    have h1 := ih (fun i hi => hk i (by omega))
    simp only [flatC, List.range_succ, List.flatMap_append, List.length_append] at h1 ⊢
    rw [h1]
    simp only [List.flatMap_cons, List.flatMap_nil, List.append_nil, hk n (by omega), Nat.succ_mul]
theorem flatC_succ {n : Nat} {g : Nat → List Value} : flatC (n + 1) g = flatC n g ++ g n := by simp [flatC, List.range_succ]
theorem flatC_part {n k : Nat} {g : Nat → List Value} (hk : ∀ i, i < n → (g i).length = k) {i : Nat} (hi : i < n) : ((flatC n g).drop (i * k)).take k = g i := by
  induction n with
  | zero => omega
  | succ n ih =>
    have hl := flatC_len (n := n) (g := g) (k := k) fun i hi => hk i (by omega)
    rw [flatC_succ]
    by_cases h : i = n
    · subst h
      rw [List.drop_append_of_le_length (by omega), List.drop_eq_nil_of_le (by omega)]
      have := hk i (by omega)
      rw [List.nil_append, ← this, List.take_length]
    · have h2 := ih (fun i hi => hk i (by omega)) (by omega)
      have h3 : i * k + k ≤ n * k := by
        have : (i + 1) * k ≤ n * k := Nat.mul_le_mul_right k (by omega)
        rw [Nat.succ_mul] at this; exact this
      rw [List.drop_append_of_le_length (by omega), List.take_append_of_le_length (by rw [List.length_drop]; omega)]
      exact h2
theorem flatC_get {n k : Nat} {g : Nat → List Value} (hk : ∀ i, i < n → (g i).length = k) {i j : Nat} (hi : i < n) (hj : j < k) : (flatC n g)[i * k + j]? = (g i)[j]? := by
  have h := flatC_part hk hi
  have : (((flatC n g).drop (i * k)).take k)[j]? = (g i)[j]? := by rw [h]
  rw [List.getElem?_take_of_lt hj, List.getElem?_drop] at this
  exact this
theorem flatC_bound {n k i : Nat} (h : i < n) : i * k + k ≤ n * k := by
  have : (i + 1) * k ≤ n * k := Nat.mul_le_mul_right k (by omega)
  rw [Nat.succ_mul] at this; exact this
theorem flatC_atomic {n : Nat} {g : Nat → List Value} (h : ∀ i, i < n → ∀ v ∈ g i, atomic v = true) : ∀ v ∈ flatC n g, atomic v = true := by
  intro v hv
  simp only [flatC, List.mem_flatMap, List.mem_range] at hv
  obtain ⟨i, hi, hv⟩ := hv
  exact h i hi v hv
theorem wrapI {x : Int} (h1 : -9223372036854775808 ≤ x) (h2 : x < 9223372036854775808) : IntKind.i64.wrap x = x := Go.IntWalk.i64_in x ⟨h1, by omega⟩
end
variable [TT] [PR] {P : Program}
theorem con_of {N : Nat} {V : Vx} (hV : VSound P N V) {f : FuncId} {C : Con} (x0 : Hx) (h : ∀ x, C.pre x → ∃ hs, V.call f (C.args x) (retK fun r => r = C.res x) (C.mem x) hs) (hx : C.pre x0) (hc : ∀ x, C.pre x → clR 50 (C.res x) = true) (ha : ∀ x, C.pre x → Atoms x.ls)
    (hr : allRo C.bs = true) (hs : C.bs.length ≤ 1000000) (hg : P.globals.size ≤ C.bs.length) : ConOK P f C where
  calls := by obtain ⟨hs, hv⟩ := h x0 hx; exact (hV.call hv).1
  says x hp := by
    obtain ⟨hs, hv⟩ := h x hp
    refine (hV.call hv).2.mono ?_
    rintro r H ⟨m, hs', hk, rfl⟩
    exact hk
  closed := hc
  atoms := ha
  ro := hr
  small := hs
  glob := hg
end Go.Ab
namespace Go.Ab
open Go Go.RowKit
noncomputable def retN (T : Tm) (R : Hx → Prop) : ARes → Mem → HS → Prop := fun r m hs =>
  match r with
  | .ret v => match tick hs with
    | (some (.tm _ π), _) => match T.ext π ⟨1, Tr.set 40 .nil 0 (some v), [], m⟩ with
      | some x => R x
      | none => False
    | _ => False
  | .pan _ => False
variable [TT] [PR] {P : Program}
theorem retN_says {N : Nat} {V : Vx} (htt : TT.tt = true) (hV : VSound P N V) {f : FuncId} {args : List Value} {m : Mem} {T : Tm} {y : Hx} {hs : HS} (hT : T.n = 1) (hg : P.globals.size ≤ T.k) (hk : ∀ j, T.k ≤ j → m.H j = none) (hat : Atoms y.ls)
    (h : V.call f args (retN T fun x => x = y) m hs) {v : Value} (hv : (T.inst y).a.f 0 = some v) : SCalls P f args m.H fun r' H' => r' = .ret v ∧ H' = (T.inst y).H := by
  intro B0 m0 w ws hr hvs k
  refine ((hV.call h).2 B0 m0 w ws hr hvs k).mono ?_
  rintro e w1 ⟨r, H1, m1, ⟨m', hs', hq, rfl⟩, hE, hr1, hB1, hres⟩
  unfold retN at hq
  split at hq
  · rename_i u
    split at hq
    · rename_i i π _ _
      split at hq
      · rename_i x hx
        subst hq
        obtain ⟨u', rfl, hu⟩ := hres
        have har : ARel m1 (⟨1, Tr.set 40 .nil 0 (some u), [], m'⟩ : St).a ⟨#[u'], []⟩ := by
          refine ⟨⟨rfl, fun t z hz => ?_⟩, .nil⟩
          have hz' : tF (Tr.set 40 .nil 0 (some u)) t = some z := hz
          rw [tF_set (by rfl)] at hz'
          by_cases h0 : t = 0
          · subst h0
            simp only [if_true, Option.some.injEq] at hz'
            subst hz'
            exact hu
          · simp only [if_neg h0] at hz'
            have hz2 : z = undef := by
              simp only [tF, Tr.get_nil] at hz'
              cases hz'; rfl
            subst hz2
            have : (#[u'] : Array Value).getD t undef = undef := by
              simp only [Array.getD]
              rw [dif_neg (by simp only [List.size_toArray, List.length_cons, List.length_nil]; omega)]
            show VRel m1 undef ((#[u'] : Array Value).getD t undef)
            rw [this]
            exact .tuple .nil .nil
        obtain ⟨m2, q1, q2, q3⟩ := Tm.ext_sound (P := P) hx hat hg B0 m1 w1 ⟨#[u'], []⟩ hr1 har
        refine ⟨.ret v, (T.inst x).H, m2, ⟨rfl, rfl⟩, hE.renew htt hr hk q1, q2, hB1, u', rfl, ?_⟩
        exact q3.1.2 0 v hv
      · exact hq.elim
    · exact hq.elim
  · exact hq.elim
noncomputable def rowT (N : Nat) (e : TypeId) : Tm := ⟨1, [some (.slice N 0 .nil)], N, List.replicate N .dead ++ [.list e .row]⟩
theorem conRow_of {N : Nat} {V : Vx} (htt : TT.tt = true) (hV : VSound P N V) {f : FuncId} {C : ConN} {e : TypeId} {cells : List Value} {n : Nat} (x0 : Hx) (hx0 : ∀ x, C.pre x ↔ x = x0) (hone : C.one = true) (hres : C.res x0 = [.sl 0 n]) (hnews : C.news x0 = [(cells, e)])
    (h : ∃ hs, V.call f (C.con.args x0) (retN (rowT C.bs.length e) fun y => y = ⟨⟨[], [(n, n)]⟩, [cells]⟩) (C.con.mem x0) hs) (ha : Atoms x0.ls) (hat : ∀ v ∈ cells, atomic v = true)
    (hr : allRo C.bs = true) (hs : C.bs.length ≤ 100000) (hg : P.globals.size ≤ C.bs.length) : ConNOK P f C where
  calls := by obtain ⟨hs, hv⟩ := h; exact (hV.call hv).1
  says x hp := by
    cases (hx0 x).1 hp
    obtain ⟨hs', hv⟩ := h
    have hlen : (rowT C.bs.length e).blocks.length = C.bs.length + 1 := by simp [rowT]
    have hval : ((rowT C.bs.length e).inst ⟨⟨[], [(n, n)]⟩, [cells]⟩).a.f 0 = some (.slice (some ⟨C.bs.length, 0, none⟩) n n) := rfl
    refine (retN_says htt hV (T := rowT C.bs.length e) rfl (by exact hg) (fun j hj => ?_) (fun cs hcs => by simp only [List.mem_singleton] at hcs; subst hcs; exact hat) hv hval).mono ?_
    · have hj' : C.bs.length ≤ j := hj
      have := Con.mem_H (C := C.con) (x := x0) (by show C.bs.length ≤ _; omega) j
      rw [this, List.getElem?_eq_none (by rw [instB_len]; exact hj')]
      rfl
    · rintro r H' ⟨rfl, rfl⟩
      refine ⟨?_, fun t cs e' ht => ?_⟩
      · rw [hone, hres]; rfl
      · rw [hnews] at ht
        match t, ht with
        | 0, ht =>
          simp only [List.getElem?_cons_zero, Option.some.injEq, Prod.mk.injEq] at ht
          obtain ⟨rfl, rfl⟩ := ht
          rw [Nat.add_zero, Tm.inst_H (by rw [hlen]; omega)]
          have key : ∀ (k : Nat) (h : Hx), (instB (List.replicate k .dead ++ [.list e .row]) h).1[k]? = some (.cells (h.ls.headD []) e .row) := by
            intro k
            induction k with
            | zero => intro h; rfl
            | succ k ih => intro h; exact ih h
          show Option.map XB.a ((instB (List.replicate C.bs.length .dead ++ [.list e .row]) _).1[C.bs.length]?) = _
          rw [key]
          rfl
  closed x hp := by cases (hx0 x).1 hp; rw [hres, hnews]; exact ⟨rfl, fun _ => rfl⟩
  atoms x hp := by
    cases (hx0 x).1 hp
    refine ⟨ha, fun y hy => ?_⟩
    rw [hnews] at hy
    simp only [List.mem_singleton] at hy
    subst hy
    exact hat
  ro := hr
  small := by omega
  glob := hg
end Go.Ab
