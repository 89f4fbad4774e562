/- what slices of spans, of huts and of numbers that a row hands in are, in a world. -/
import Derived.Test.YtoelpblmhmhglaaDoorFH
import Derived.WalkKit
import Derived.ProofKit
import Derived.OpenShut
import Derived.ChangeSame
import Derived.Deep.Slices
import Derived.Deep.Strs
import Derived.Test.YtoelpblmhmhglaaDoorFE
import Derived.Test.YtoelpblmhmhglaaDoorFF
set_option maxRecDepth 100000
namespace Go.Ab
open Go Go.RowKit Go.Proofs Go.ChangeShapes Go.WideShapes Go.Deep
theorem cells45 : Tryd.prog.cellsOf 45 = 2 := by kernel_rfl
theorem cells36 : Tryd.prog.cellsOf 36 = 3 := by kernel_rfl
theorem cells25 : Tryd.prog.cellsOf 25 = 5 := by kernel_rfl
theorem cell_block {W : World} {a : Addr} {i : Nat} {v : Value} (h : W.cell? (a.add i) = some v) : ∃ c t fr, W.heap[a.block]? = some (.cells c t fr) ∧ c[a.off + i]? = some v ∧ (i = 0 → a.spot = none) := by
 unfold World.cell? Addr.add at h
 by_cases h0 : i = 0
 · subst h0
   rw [if_pos rfl] at h
   split at h
   · rename_i c t fr hc
     split at h
     · cases h
     · rename_i hs
       exact ⟨c, t, fr, hc, h, fun _ => by cases hsp : a.spot with
        | none => rfl
        | some x => rw [hsp] at hs; exact absurd rfl hs⟩
   · cases h
 · rw [if_neg h0] at h
   split at h
   · rename_i c t fr hc
     exact ⟨c, t, fr, hc, h, fun h1 => absurd h1 h0⟩
   · cases h
theorem wf_u8 {n : Int} (h : (Lit.int .u8 n).wf = true) : 0 ≤ n ∧ n < 256 := by
 simp only [Lit.wf, Bool.and_eq_true, decide_eq_true_eq] at h
 have h1 : IntKind.min .u8 ≤ n := h.1
 have h2 : n ≤ IntKind.max .u8 := h.2
 have e1 : IntKind.min .u8 = 0 := by decide
 have e2 : IntKind.max .u8 = 255 := by decide
 omega
section
variable {H : Type} {enc : TypeId × Value → H} {W : World}
theorem rows_in {α : Type} [Inhabited α] {k : Nat} {t e : TypeId} {gV : α → List Value} (ht : Tryd.prog.underlying t = some (.slice e)) (hc : Tryd.prog.cellsOf e = k) (hk : ∀ z, (gV z).length = k) (h0 : 0 < k) (hat : ∀ z, ∀ v ∈ gV z, atomic v = true)
    (one : ∀ {fuel : Nat} {cs : List Value} {x : DataW H × List MemPlace}, DataW.trod enc Tryd.prog W 0 (fun _ => true) true fuel e cs = some x → ∃ z, cs = gV z) (hz : ∃ c t fr, W.heap[1]? = some (.cells c t fr))
    {fuel : Nat} {v : Value} {x : DataW H × List MemPlace} (h : DataW.trod enc Tryd.prog W 0 (fun _ => true) true fuel t [v] = some x) :
    v = .slice none 0 0 ∨ ∃ (n : Nat) (f : Nat → α), SlIn W v n (flatC n fun i => gV (f i)) := by
 rcases open_slice ht h with ⟨h0, _⟩ | ⟨a, len, cap, m, n, D, Pl, hv, _, hl, _, hm, _, hx⟩
 · exact Or.inl (List.cons.inj h0).1
 right
 obtain rfl := (List.cons.inj hv).1
 have hm : m = cap := by simpa using hm
 subst hm
 rw [hc] at hx
 rcases Nat.eq_zero_or_pos m with hm0 | hm0
 · subst hm0
   obtain rfl : len = 0 := by omega
   exact ⟨0, fun _ => default, SlIn.zero hz⟩
 · have each : ∀ i, i < m → ∃ z : α, ∀ j, j < k → W.cell? ((a.add (i * k)).add j) = (gV z)[j]? := by
    intro i hi
    obtain ⟨cs', h1, h2⟩ := hx i hi
    obtain ⟨z, rfl⟩ := one h2
    exact ⟨z, (World.cells?_some h1).2.2⟩
   obtain ⟨f, hf⟩ := choose_lt (α := α) each
   have cellOf : ∀ i j, i < m → j < k → W.cell? (a.add (i * k + j)) = (gV (f i))[j]? := fun i j hi hj => by rw [← add_add]; exact hf i hi j hj
   have hg0 : 0 < (gV (f 0)).length := by rw [hk]; exact h0
   obtain ⟨c, t, fr, hcb, _, hsp⟩ := cell_block (show W.cell? (a.add 0) = some ((gV (f 0))[0]) from by
    have := cellOf 0 0 hm0 h0
    rw [show 0 * k + 0 = 0 by omega, List.getElem?_eq_getElem hg0] at this
    exact this)
   have hsp := hsp rfl
   refine ⟨len, f, ?_⟩
   have hR : RcHolds W (⟨a.block, a.off, 0⟩, some (flatC len fun i => gV (f i), 1)) := by
    intro q hq
    cases hq
    refine ⟨c, t, fr, hcb, fun j v hj => ?_⟩
    have hlen := flatC_len (n := len) (k := k) (g := fun i => gV (f i)) (fun _ _ => hk _)
    have hj : (flatC len fun i => gV (f i))[j]? = some v := hj
    have hjl : j < len * k := by
     have := (List.getElem?_eq_some_iff.1 hj).1
     omega
    have hi : j / k < len := Nat.div_lt_of_lt_mul (by rw [Nat.mul_comm]; exact hjl)
    have hr : j % k < k := Nat.mod_lt _ h0
    have hjk : j / k * k + j % k = j := by rw [Nat.mul_comm]; exact Nat.div_add_mod j k
    have e := flatC_get (n := len) (k := k) (g := fun i => gV (f i)) (fun _ _ => hk _) hi hr
    rw [hjk, hj] at e
    have e2 := cellOf (j / k) (j % k) (by omega) hr
    rw [hjk, ← e] at e2
    refine ⟨flatC_atomic (n := len) (g := fun i => gV (f i)) (fun i _ w hw => hat _ w hw) v (List.mem_of_getElem? hj), ?_⟩
    obtain ⟨c', t', fr', hc', hv', _⟩ := cell_block e2
    rw [hcb] at hc'
    cases hc'
    exact hv'
   obtain ⟨b, o, s⟩ := a
   cases hsp
   exact SlIn.at hl hR
theorem int_in {fuel : Nat} {cs : List Value} {x : DataW H × List MemPlace} (h : DataW.trod enc Tryd.prog W 0 (fun _ => true) true fuel 3 cs = some x) : ∃ z : Int, cs = [I z] := by
 obtain ⟨z, h1, _, _⟩ := DataW.trod_int Tryd.underlying3 h
 exact ⟨z, h1⟩
theorem span_in {fuel : Nat} {cs : List Value} {x : DataW H × List MemPlace} (h : DataW.trod enc Tryd.prog W 0 (fun _ => true) true fuel 45 cs = some x) : ∃ m : Sp, cs = spV m := by
 obtain ⟨y0, y1, n, _, hl, h0, h1⟩ := trod_struct2 Tryd.underlying45 h
 rw [cells45] at hl
 match cs, hl with
 | [w0, w1], _ =>
  obtain ⟨a, ha⟩ := int_in h0
  obtain ⟨b, hb⟩ := int_in h1
  have ha : [w0] = [I a] := ha
  have hb : [w1] = [I b] := hb
  cases ha; cases hb
  exact ⟨⟨a, b⟩, rfl⟩
theorem hut_in {fuel : Nat} {cs : List Value} {x : DataW H × List MemPlace} (h : DataW.trod enc Tryd.prog W 0 (fun _ => true) true fuel 36 cs = some x) : ∃ m : Raw, cs = raV m := by
 obtain ⟨y0, y1, y2, n, _, hl, h0, h1, h2⟩ := trod_struct3 Tryd.underlying36 h
 rw [cells36] at hl
 match cs, hl with
 | [w0, w1, w2], _ =>
  obtain ⟨a, ha⟩ := int_in h0
  obtain ⟨b, hb⟩ := int_in h1
  obtain ⟨c, hc⟩ := int_in h2
  have ha : [w0] = [I a] := ha
  have hb : [w1] = [I b] := hb
  have hc : [w2] = [I c] := hc
  cases ha; cases hb; cases hc
  exact ⟨⟨a, b, c⟩, rfl⟩
def SpsIn (W : World) (v : Value) : Prop := v = .slice none 0 0 ∨ ∃ (n : Nat) (f : Nat → Sp), SlIn W v n (spL n f)
def HutsIn (W : World) (v : Value) : Prop := v = .slice none 0 0 ∨ ∃ (n : Nat) (f : Nat → Raw), SlIn W v n (raL n f)
theorem sps_in (hz : ∃ c t fr, W.heap[1]? = some (.cells c t fr)) {fuel : Nat} {v : Value} {x : DataW H × List MemPlace} (h : DataW.trod enc Tryd.prog W 0 (fun _ => true) true fuel 22 [v] = some x) : SpsIn W v := by
 haveI : Inhabited Sp := ⟨⟨0, 0⟩⟩
 refine rows_in (k := 2) (gV := spV) Tryd.underlying22 cells45 (fun _ => rfl) (by omega) (fun z v hv => ?_) span_in hz h
 have hv : v ∈ [I z.lo, I z.hi] := hv
 simp only [List.mem_cons, List.not_mem_nil, or_false] at hv
 rcases hv with rfl | rfl <;> rfl
theorem huts_in (hz : ∃ c t fr, W.heap[1]? = some (.cells c t fr)) {fuel : Nat} {v : Value} {x : DataW H × List MemPlace} (h : DataW.trod enc Tryd.prog W 0 (fun _ => true) true fuel 23 [v] = some x) : HutsIn W v := by
 haveI : Inhabited Raw := ⟨⟨0, 0, 0⟩⟩
 refine rows_in (k := 3) (gV := raV) Tryd.underlying23 cells36 (fun _ => rfl) (by omega) (fun z v hv => ?_) hut_in hz h
 have hv : v ∈ [I z.fl, I z.br, I z.row] := hv
 simp only [List.mem_cons, List.not_mem_nil, or_false] at hv
 rcases hv with rfl | rfl | rfl <;> rfl
theorem surf_in (hz : ∃ c t fr, W.heap[1]? = some (.cells c t fr)) {fuel : Nat} {cs : List Value} {x : DataW H × List MemPlace} (h : DataW.trod enc Tryd.prog W 0 (fun _ => true) true fuel 25 cs = some x) :
    ∃ (rw st : Int) (a b c : Value), cs = [I rw, I st, a, b, c] ∧ SpsIn W a ∧ SpsIn W b ∧ HutsIn W c := by
 obtain ⟨xs, n, _, hxs, hl, hlen, hf⟩ := DataW.trod_struct Tryd.underlying25 h
 rw [cells25] at hl
 match cs, hl with
 | [w0, w1, w2, w3, w4], _ =>
  match xs, hlen with
  | [y0, y1, y2, y3, y4], _ =>
   obtain ⟨p, hp⟩ := int_in (hf 0 _ rfl)
   obtain ⟨q, hq⟩ := int_in (hf 1 _ rfl)
   have hp : [w0] = [I p] := hp
   have hq : [w1] = [I q] := hq
   cases hp; cases hq
   exact ⟨p, q, w2, w3, w4, rfl, sps_in hz (show DataW.trod enc Tryd.prog W 0 (fun _ => true) true n 22 [w2] = some y2 from hf 2 _ rfl), sps_in hz (show DataW.trod enc Tryd.prog W 0 (fun _ => true) true n 22 [w3] = some y3 from hf 3 _ rfl), huts_in hz (show DataW.trod enc Tryd.prog W 0 (fun _ => true) true n 23 [w4] = some y4 from hf 4 _ rfl)⟩
end
end Go.Ab
set_option maxRecDepth 100000
namespace Go.Ab
open Go Go.RowKit Go.Proofs
section
variable {W : World}
def gl0 : RoC := (⟨0, 0, 0⟩, none)
noncomputable def gl1 : RoC := (⟨1, 0, 0⟩, some (tabC, 1))
def no0 : RoC := (⟨0, 0, 0⟩, none)
theorem gl_ok {l : List RoC} (g : Nat) (hg : g < Tryd.prog.globals.size) : ((gl0 :: gl1 :: l)[g]?).map (·.1) = some ⟨g, 0, 0⟩ := by
 rw [nglob] at hg
 obtain rfl | rfl : g = 0 ∨ g = 1 := by omega
 · rfl
 · rfl
theorem nil_rel {m : NMap} : VRel m nilS (.slice none 0 0) := .atom rfl .nil
end
end Go.Ab
set_option maxRecDepth 100000
namespace Go.Ab
open Go Go.RowKit Go.Proofs
end Go.Ab
set_option maxRecDepth 100000
namespace Go.Ab
open Go Go.RowKit Go.Proofs
def p4 : Loc := .l (.r (.l (.r (.r (.r (.r (.r (.r (.r (.r (.r (.r (.r (.r (.r (.r (.top 4)))))))))))))))))
noncomputable def h4 (rw st : Int) (n cw cv m cu hut : Nat) (tb ws vs us xs ys : List Value) (ro : Nat → Int) (fo : Nat → Bool) (want : Int) (gone : Bool) (fst : Int) (i : Nat) : Hw :=
 ⟨⟨[I hut, I want, .bool gone, I fst, I n, I i, I rw, I st, I rw, I st], [(n, n), (n, n), (n, cw), (n, cv), (m, cu), (n, n), (n, n), (m, cu)]⟩, [tb, ws, vs, us, xs, ys, ints n ro, boolsL n fo], []⟩
end Go.Ab
set_option maxRecDepth 100000
namespace Go.Ab
open Go Go.RowKit Go.Proofs
end Go.Ab
set_option maxRecDepth 100000
namespace Go.Ab
open Go Go.RowKit Go.Proofs
noncomputable def h13aq (rw st : Int) (N n cw cv m cu a b : Nat) (fl br row0 row : Int) (wt vt : List Value) (i : Nat) : Hw := ⟨⟨[I row, I n, I i, I rw, I st, I fl, I br, I row0], [(n, a), (n, b), (N, cw), (N, cv), (m, cu)]⟩, [wt, vt], []⟩
noncomputable def h13bq (rw st : Int) (N n cw cv m cu a b : Nat) (fl br row0 row : Int) (wt vt r1 r2 : List Value) (i : Nat) : Hw := ⟨⟨[I row, I n, I i, I rw, I st, I fl, I br, I row0], [(n, a), (n, b), (i, i), (i, i), (N, cw), (N, cv), (m, cu)]⟩, [wt, vt, r1, r2], []⟩
noncomputable def C13q (rw st : Int) (N n cw cv m cu a b : Nat) (fl br row0 : Int) (wt vt r1 r2 : List Value) : ConN where
 A := .agg SuL (.agg (.hole (.hole (.hole .nil))) (.slice 5 0 (.slice 6 0 .nil)))
 bs := [.dead, .dead, .dead, .dead, .dead, .list 3 .ro, .list 3 .ro]
 pre x := x = ⟨⟨[I rw, I st, I fl, I br, I row0], [(N, cw), (N, cv), (m, cu), (n, a), (n, b)]⟩, [wt, vt]⟩
 news _ := [(r1, 3), (r2, 4)]
 one := false
 res _ := [.sl 0 n, .sl 1 n]
def p5a : Loc := .l (.r (.l (.r (.r (.r (.top 5))))))
def p5w : Loc := .l (.r (.l (.r (.r (.r (.r (.r (.r (.r (.r (.r (.top 5))))))))))))
def p5h : Loc := .l (.r (.l (.r (.r (.l (.l (.r (.r (.l (.l (.r (.l (.r (.r (.r (.r (.r (.r (.r (.r (.r (.top 5))))))))))))))))))))))
def p5r : Loc := .l (.r (.r (.r (.r (.r (.l (.l (.r (.r (.l (.l (.r (.l (.r (.r (.r (.r (.r (.r (.r (.r (.r (.top 5)))))))))))))))))))))))
def p5z : Loc := .l (.r (.l (.r (.r (.r (.r (.r (.r (.r (.r (.r (.r (.r (.r (.r (.top 5))))))))))))))))
noncomputable def T5a : Tw := ⟨255, mkS 255 [(1, .hole .nil), (2, .ptr 5 0 .nil), (5, .hole .nil), (6, .hole .nil), (45, .hole .nil), (46, .hole .nil)], 8, [.dead, .list 1 .ro, .list 1 .ro, .list 1 .ro, .list 1 .ro, .cells SuL 25 .var, .dead, .dead]⟩
noncomputable def h5a (rw st wh : Int) (n cw cv m cu : Nat) (hs : Int) (tb ws vs us : List Value) (ways : Int) (i : Nat) : Hw := ⟨⟨[.int .u8 wh, I hs, I ways, I hs, I i, I rw, I st], [(n, cw), (n, cv), (m, cu)]⟩, [tb, ws, vs, us], []⟩
noncomputable def B5 : List TBw := [.dead, .list 1 .ro, .list 1 .ro, .list 1 .ro, .list 1 .ro, .cells SuL 25 .var, .dead, .dead, .list 52 .var, .list 53 .var]
noncomputable def T5w : Tw := ⟨255, mkS 255 [(2, .ptr 5 0 .nil), (5, .hole .nil), (8, .hole .nil), (9, .ptr 8 0 .nil), (10, .ptr 9 0 .nil), (11, .hole .nil), (12, .hole .nil), (90, .hole .nil), (91, .hole .nil)], 10, B5⟩
noncomputable def h5w (rw st : Int) (n cw cv m cu hs hut : Nat) (tb ws vs us ra lo : List Value) (yes no ways : Int) (k : Nat) : Hw := ⟨⟨[I hs, I hut, I yes, I no, I ways, I k, I rw, I st], [(n, cw), (n, cv), (m, cu)]⟩, [tb, ws, vs, us, ra, lo], []⟩
noncomputable def S5h (a b : TL) : List (Option TL) := mkS 255 [(2, .ptr 5 0 .nil), (5, .hole .nil), (8, .hole .nil), (9, .ptr 8 0 .nil), (10, .ptr 9 0 .nil), (11, .hole .nil), (12, .hole .nil), (13, .hole .nil), (14, a), (15, b), (90, .hole .nil), (91, .hole .nil), (94, .hole .nil), (95, .hole .nil)]
noncomputable def T5ha : Tw := ⟨255, S5h (.val nilS .nil) (.val nilS .nil), 10, B5⟩
noncomputable def T5hb : Tw := ⟨255, S5h (.slice 10 0 .nil) (.slice 11 0 .nil), 10, B5 ++ [.list 3 .row, .list 3 .row]⟩
noncomputable def h5ha (rw st : Int) (n cw cv m cu q hut k wl : Nat) (tb ws vs us ra lo : List Value) (yes no ways : Int) (i : Nat) : Hw := ⟨⟨[I q, I hut, I yes, I no, I wl, I ways, I k, I q, I i, I rw, I st], [(n, cw), (n, cv), (m, cu)]⟩, [tb, ws, vs, us, ra, lo], []⟩
noncomputable def h5hb (rw st : Int) (n cw cv m cu q hut k wl : Nat) (tb ws vs us ra lo r1 r2 : List Value) (yes no ways : Int) (i : Nat) : Hw := ⟨⟨[I q, I hut, I yes, I no, I wl, I ways, I k, I q, I i, I rw, I st], [(i, i), (i, i), (n, cw), (n, cv), (m, cu)]⟩, [tb, ws, vs, us, ra, lo, r1, r2], []⟩
noncomputable def T5r : Tw := ⟨255, mkS 255 [(2, .ptr 5 0 .nil), (5, .hole .nil), (8, .hole .nil), (9, .ptr 8 0 .nil), (10, .ptr 9 0 .nil), (11, .hole .nil), (12, .hole .nil), (20, .slice 13 0 .nil), (90, .hole .nil), (91, .hole .nil), (165, .slice 12 0 .nil), (166, .hole .nil), (167, .hole .nil)], 14, B5 ++ [.dead, .dead, .list 3 .row, .list 4 .row]⟩
noncomputable def h5r (rw st : Int) (n cw cv m cu q hut k : Nat) (tb ws vs us ra lo : List Value) (ro : Nat → Int) (fo : Nat → Bool) (yes no ways : Int) (i : Nat) : Hw := ⟨⟨[I q, I hut, I yes, I no, I ways, I k, I q, I i, I rw, I st], [(q, q), (q, q), (n, cw), (n, cv), (m, cu)]⟩, [tb, ws, vs, us, ra, lo, ints q ro, boolsL q fo], []⟩
noncomputable def T5z : Tw := ⟨255, mkS 255 [(2, .ptr 5 0 .nil), (8, .hole .nil), (9, .ptr 8 0 .nil), (10, .ptr 9 0 .nil), (225, .hole .nil), (226, .hole .nil)], 10, B5⟩
noncomputable def R5 : Tw := ⟨255, mkS 255 [(4, .hole .nil)], 10, [.dead, .dead, .dead, .dead, .dead, .dead, .dead, .dead, .dead, .dead]⟩
noncomputable def h5z (rw st : Int) (n cw cv m cu q hut : Nat) (tb ws vs us ra lo : List Value) (i : Nat) : Hw := ⟨⟨[I hut, I q, I i, I rw, I st], [(n, cw), (n, cv), (m, cu)]⟩, [tb, ws, vs, us, ra, lo], []⟩
noncomputable def mQH (tb us : List Value) : Mem := ⟨fillX [.dead, .cells tb 1 .ro, .dead, .dead, .cells us 1 .ro] 0 .nil, 5⟩
noncomputable def mQ0 (tb : List Value) : Mem := ⟨fillX [.dead, .cells tb 1 .ro, .dead, .dead, .dead] 0 .nil, 5⟩
noncomputable def mQN (tb ws vs : List Value) : Mem := ⟨fillX [.dead, .cells tb 1 .ro, .cells ws 1 .ro, .cells vs 1 .ro, .dead] 0 .nil, 5⟩
end Go.Ab
