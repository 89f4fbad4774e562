/- what slices of spans, of huts and of numbers that a row hands in are, in a world. -/
import Derived.Test.YtoelpblmhmhglaaDoorPH
import Derived.WalkKit
import Derived.ProofKit
import Derived.OpenShut
import Derived.ChangeSame
import Derived.Deep.Slices
import Derived.Deep.Strs
import Derived.Test.YtoelpblmhmhglaaDoorOY
import Init
set_option maxRecDepth 100000
namespace Go.Ab
open Go Go.RowKit Go.Proofs Go.ChangeShapes Go.WideShapes Go.Deep
theorem cells45 : Tryd.prog.cellsOf 45 = 2 := by kernel_rfl
theorem cells36 : Tryd.prog.cellsOf 36 = 3 := by kernel_rfl
theorem cells25 : Tryd.prog.cellsOf 25 = 5 := by kernel_rfl
theorem cell_block {W : World} {a : Addr} {i : Nat} {v : Value} (h : W.cell? (a.add i) = some v) : ∃ c t fr, W.heap[a.block]? = some (.cells c t fr) ∧ c[a.off + i]? = some v ∧ (i = 0 → a.spot = none) := by
 unfold World.cell? Addr.add at h
 by_cases h0 : i = 0
 · subst h0
   rw [if_pos rfl] at h
   split at h
   · rename_i c t fr hc
     split at h
     · cases h
     · rename_i hs
       exact ⟨c, t, fr, hc, h, fun _ => by cases hsp : a.spot with
        | none => rfl
        | some x => rw [hsp] at hs; exact absurd rfl hs⟩
   · cases h
 · rw [if_neg h0] at h
   split at h
   · rename_i c t fr hc
     exact ⟨c, t, fr, hc, h, fun h1 => absurd h1 h0⟩
   · cases h
theorem wf_u8 {n : Int} (h : (Lit.int .u8 n).wf = true) : 0 ≤ n ∧ n < 256 := by
 simp only [Lit.wf, Bool.and_eq_true, decide_eq_true_eq] at h
 have h1 : IntKind.min .u8 ≤ n := h.1
 have h2 : n ≤ IntKind.max .u8 := h.2
 have e1 : IntKind.min .u8 = 0 := by decide
 have e2 : IntKind.max .u8 = 255 := by decide
 omega
section
variable {H : Type} {enc : TypeId × Value → H} {W : World}
theorem rows_in {α : Type} [Inhabited α] {k : Nat} {t e : TypeId} {gV : α → List Value} (ht : Tryd.prog.underlying t = some (.slice e)) (hc : Tryd.prog.cellsOf e = k) (hk : ∀ z, (gV z).length = k) (h0 : 0 < k) (hat : ∀ z, ∀ v ∈ gV z, atomic v = true)
    (one : ∀ {fuel : Nat} {cs : List Value} {x : DataW H × List MemPlace}, DataW.trod enc Tryd.prog W 0 (fun _ => true) true fuel e cs = some x → ∃ z, cs = gV z) (hz : ∃ c t fr, W.heap[1]? = some (.cells c t fr))
    {fuel : Nat} {v : Value} {x : DataW H × List MemPlace} (h : DataW.trod enc Tryd.prog W 0 (fun _ => true) true fuel t [v] = some x) :
    v = .slice none 0 0 ∨ ∃ (n : Nat) (f : Nat → α), SlIn W v n (flatC n fun i => gV (f i)) := by
 rcases open_slice ht h with ⟨h0, _⟩ | ⟨a, len, cap, m, n, D, Pl, hv, _, hl, _, hm, _, hx⟩
 · exact Or.inl (List.cons.inj h0).1
 right
 obtain rfl := (List.cons.inj hv).1
 have hm : m = cap := by simpa using hm
 subst hm
 rw [hc] at hx
 rcases Nat.eq_zero_or_pos m with hm0 | hm0
 · subst hm0
   obtain rfl : len = 0 := by omega
   exact ⟨0, fun _ => default, SlIn.zero hz⟩
 · have each : ∀ i, i < m → ∃ z : α, ∀ j, j < k → W.cell? ((a.add (i * k)).add j) = (gV z)[j]? := by
    intro i hi
    obtain ⟨cs', h1, h2⟩ := hx i hi
    obtain ⟨z, rfl⟩ := one h2
    exact ⟨z, (World.cells?_some h1).2.2⟩
   obtain ⟨f, hf⟩ := choose_lt (α := α) each
   have cellOf : ∀ i j, i < m → j < k → W.cell? (a.add (i * k + j)) = (gV (f i))[j]? := fun i j hi hj => by rw [← add_add]; exact hf i hi j hj
   have hg0 : 0 < (gV (f 0)).length := by rw [hk]; exact h0
   obtain ⟨c, t, fr, hcb, _, hsp⟩ := cell_block (show W.cell? (a.add 0) = some ((gV (f 0))[0]) from by
    have := cellOf 0 0 hm0 h0
    rw [show 0 * k + 0 = 0 by omega, List.getElem?_eq_getElem hg0] at this
    exact this)
   have hsp := hsp rfl
   refine ⟨len, f, ?_⟩
   have hR : RcHolds W (⟨a.block, a.off, 0⟩, some (flatC len fun i => gV (f i), 1)) := by
    intro q hq
    cases hq
    refine ⟨c, t, fr, hcb, fun j v hj => ?_⟩
    have hlen := flatC_len (n := len) (k := k) (g := fun i => gV (f i)) (fun _ _ => hk _)
    have hj : (flatC len fun i => gV (f i))[j]? = some v := hj
    have hjl : j < len * k := by
     have := (List.getElem?_eq_some_iff.1 hj).1
     omega
    have hi : j / k < len := Nat.div_lt_of_lt_mul (by rw [Nat.mul_comm]; exact hjl)
    have hr : j % k < k := Nat.mod_lt _ h0
    have hjk : j / k * k + j % k = j := by rw [Nat.mul_comm]; exact Nat.div_add_mod j k
    have e := flatC_get (n := len) (k := k) (g := fun i => gV (f i)) (fun _ _ => hk _) hi hr
    rw [hjk, hj] at e
    have e2 := cellOf (j / k) (j % k) (by omega) hr
    rw [hjk, ← e] at e2
    refine ⟨flatC_atomic (n := len) (g := fun i => gV (f i)) (fun i _ w hw => hat _ w hw) v (List.mem_of_getElem? hj), ?_⟩
    obtain ⟨c', t', fr', hc', hv', _⟩ := cell_block e2
    rw [hcb] at hc'
    cases hc'
    exact hv'
   obtain ⟨b, o, s⟩ := a
   cases hsp
   exact SlIn.at hl hR
theorem int_in {fuel : Nat} {cs : List Value} {x : DataW H × List MemPlace} (h : DataW.trod enc Tryd.prog W 0 (fun _ => true) true fuel 3 cs = some x) : ∃ z : Int, cs = [I z] := by
 obtain ⟨z, h1, _, _⟩ := DataW.trod_int Tryd.underlying3 h
 exact ⟨z, h1⟩
theorem span_in {fuel : Nat} {cs : List Value} {x : DataW H × List MemPlace} (h : DataW.trod enc Tryd.prog W 0 (fun _ => true) true fuel 45 cs = some x) : ∃ m : Sp, cs = spV m := by
 obtain ⟨y0, y1, n, _, hl, h0, h1⟩ := trod_struct2 Tryd.underlying45 h
 rw [cells45] at hl
 match cs, hl with
 | [w0, w1], _ =>
  obtain ⟨a, ha⟩ := int_in h0
  obtain ⟨b, hb⟩ := int_in h1
  have ha : [w0] = [I a] := ha
  have hb : [w1] = [I b] := hb
  cases ha; cases hb
  exact ⟨⟨a, b⟩, rfl⟩
theorem hut_in {fuel : Nat} {cs : List Value} {x : DataW H × List MemPlace} (h : DataW.trod enc Tryd.prog W 0 (fun _ => true) true fuel 36 cs = some x) : ∃ m : Raw, cs = raV m := by
 obtain ⟨y0, y1, y2, n, _, hl, h0, h1, h2⟩ := trod_struct3 Tryd.underlying36 h
 rw [cells36] at hl
 match cs, hl with
 | [w0, w1, w2], _ =>
  obtain ⟨a, ha⟩ := int_in h0
  obtain ⟨b, hb⟩ := int_in h1
  obtain ⟨c, hc⟩ := int_in h2
  have ha : [w0] = [I a] := ha
  have hb : [w1] = [I b] := hb
  have hc : [w2] = [I c] := hc
  cases ha; cases hb; cases hc
  exact ⟨⟨a, b, c⟩, rfl⟩
def SpsIn (W : World) (v : Value) : Prop := v = .slice none 0 0 ∨ ∃ (n : Nat) (f : Nat → Sp), SlIn W v n (spL n f)
def HutsIn (W : World) (v : Value) : Prop := v = .slice none 0 0 ∨ ∃ (n : Nat) (f : Nat → Raw), SlIn W v n (raL n f)
theorem sps_in (hz : ∃ c t fr, W.heap[1]? = some (.cells c t fr)) {fuel : Nat} {v : Value} {x : DataW H × List MemPlace} (h : DataW.trod enc Tryd.prog W 0 (fun _ => true) true fuel 22 [v] = some x) : SpsIn W v := by
 haveI : Inhabited Sp := ⟨⟨0, 0⟩⟩
 refine rows_in (k := 2) (gV := spV) Tryd.underlying22 cells45 (fun _ => rfl) (by omega) (fun z v hv => ?_) span_in hz h
 have hv : v ∈ [I z.lo, I z.hi] := hv
 simp only [List.mem_cons, List.not_mem_nil, or_false] at hv
 rcases hv with rfl | rfl <;> rfl
theorem huts_in (hz : ∃ c t fr, W.heap[1]? = some (.cells c t fr)) {fuel : Nat} {v : Value} {x : DataW H × List MemPlace} (h : DataW.trod enc Tryd.prog W 0 (fun _ => true) true fuel 23 [v] = some x) : HutsIn W v := by
 haveI : Inhabited Raw := ⟨⟨0, 0, 0⟩⟩
 refine rows_in (k := 3) (gV := raV) Tryd.underlying23 cells36 (fun _ => rfl) (by omega) (fun z v hv => ?_) hut_in hz h
 have hv : v ∈ [I z.fl, I z.br, I z.row] := hv
 simp only [List.mem_cons, List.not_mem_nil, or_false] at hv
 rcases hv with rfl | rfl | rfl <;> rfl
theorem surf_in (hz : ∃ c t fr, W.heap[1]? = some (.cells c t fr)) {fuel : Nat} {cs : List Value} {x : DataW H × List MemPlace} (h : DataW.trod enc Tryd.prog W 0 (fun _ => true) true fuel 25 cs = some x) :
    ∃ (rw st : Int) (a b c : Value), cs = [I rw, I st, a, b, c] ∧ SpsIn W a ∧ SpsIn W b ∧ HutsIn W c := by
 obtain ⟨xs, n, _, hxs, hl, hlen, hf⟩ := DataW.trod_struct Tryd.underlying25 h
 rw [cells25] at hl
 match cs, hl with
 | [w0, w1, w2, w3, w4], _ =>
  match xs, hlen with
  | [y0, y1, y2, y3, y4], _ =>
   obtain ⟨p, hp⟩ := int_in (hf 0 _ rfl)
   obtain ⟨q, hq⟩ := int_in (hf 1 _ rfl)
   have hp : [w0] = [I p] := hp
   have hq : [w1] = [I q] := hq
   cases hp; cases hq
   exact ⟨p, q, w2, w3, w4, rfl, sps_in hz (show DataW.trod enc Tryd.prog W 0 (fun _ => true) true n 22 [w2] = some y2 from hf 2 _ rfl), sps_in hz (show DataW.trod enc Tryd.prog W 0 (fun _ => true) true n 22 [w3] = some y3 from hf 3 _ rfl), huts_in hz (show DataW.trod enc Tryd.prog W 0 (fun _ => true) true n 23 [w4] = some y4 from hf 4 _ rfl)⟩
end
end Go.Ab
set_option maxRecDepth 100000
namespace Go.Ab
open Go Go.RowKit Go.Proofs
section
variable {W : World}
def gl0 : RoC := (⟨0, 0, 0⟩, none)
noncomputable def gl1 : RoC := (⟨1, 0, 0⟩, some (tabC, 1))
def no0 : RoC := (⟨0, 0, 0⟩, none)
theorem gl_ok {l : List RoC} (g : Nat) (hg : g < Tryd.prog.globals.size) : ((gl0 :: gl1 :: l)[g]?).map (·.1) = some ⟨g, 0, 0⟩ := by
 rw [nglob] at hg
 obtain rfl | rfl : g = 0 ∨ g = 1 := by omega
 · rfl
 · rfl
theorem nil_rel {m : NMap} : VRel m nilS (.slice none 0 0) := .atom rfl .nil
end
end Go.Ab
set_option maxRecDepth 100000
namespace Go.Ab
open Go Go.RowKit Go.Proofs
def P5n : TL := .ptr 2 0 (.ptr 3 0 (.ptr 4 0 (.ptr 5 0 (.ptr 6 0 .nil))))
noncomputable def pS (i : Nat) : Value := .pointer (some ⟨i, 0, none⟩)
noncomputable def cap102 : Value := .func (.func 102) ⟨[]⟩ ⟨[pS 2, pS 3, pS 4, pS 5, pS 6]⟩
noncomputable def m102 (rl : List Value) (left : Int) (Hl Dl : List Value) : Mem :=
 ⟨fillX [.dead, .dead, .cells (rl) 104 .ro, .cells Hl 102 .var, .cells [I left] 70 .ro, .cells [cap102] 90 .ro, .cells Dl 157 .var] 0 .nil, 7⟩
def bs102 : List TBc := [.dead, .dead, .rlist 104, .wlist 102 .var, .rcells (.hole .nil) 70, .rcells (.func 102 .nil P5n .nil) 90, .wlist 157 .var]
noncomputable def CW102 (rl : List Value) (left : Int) (hut : Int) (Hl Dl : List Value) (b : Bool) (Hl2 Dl2 : List Value) : ConW where
 A := .hole P5n
 bs := bs102
 pre x := x = ⟨⟨[I hut, I left], []⟩, [rl, Hl, Dl], []⟩
 out _ := [.lst Hl2, .lst Dl2]
 res _ := .ret (.bool b)
noncomputable def C74s (s i : Int) (b : Bool) : Con where
 A := .hole (.hole .nil)
 bs := [.dead, .dead]
 pre y := y = ⟨⟨[I s, I i], []⟩, []⟩
 res _ := .ret (.bool b)
def p102 : Loc := .l (.r (.l (.r (.r (.r (.r (.top 102)))))))
noncomputable def T102 : Tw := ⟨60, mkS 60 [(0, .hole .nil), (1, .ptr 2 0 .nil), (2, .ptr 3 0 .nil), (4, .ptr 5 0 .nil), (5, .ptr 6 0 .nil), (32, .hole .nil), (33, .hole .nil)], 7,
 [.dead, .dead, .list 104 .ro, .list 102 .var, .cells (.hole .nil) 70 .ro, .cells (.func 102 .nil P5n .nil) 90 .ro, .list 157 .var]⟩
noncomputable def R102 : Tw := ⟨60, mkS 60 [(7, .hole .nil)], 7, [.dead, .dead, .dead, .list 102 .var, .dead, .dead, .list 157 .var]⟩
noncomputable def h102 (rl : List Value) (left : Int) (hut : Nat) (lim : Int) (Hl Dl : List Value) (h : Nat) : Hw := ⟨⟨[I hut, I lim, I h, I left], []⟩, [rl, Hl, Dl], []⟩
end Go.Ab
namespace Go.Ab
structure Ds where
 L : Nat → Int
 D : Nat → Nat
def upI (g : Nat → Int) (i : Nat) (v : Int) : Nat → Int := fun k => if k = i then v else g k
def upN (g : Nat → Nat) (i v : Nat) : Nat → Nat := fun k => if k = i then v else g k
section
variable (skp : Nat → Bool) (lim : Nat → Nat) (many m : Nat)
def drwH (rec : Ds → Bool × Ds) (hut : Nat) : Nat → Nat → Ds → Bool × Ds
 | 0, _, σ => (false, σ)
 | r + 1, h, σ =>
  if σ.D h = many then drwH rec hut r (h + 1) σ
  else if (rec ⟨upI σ.L hut h, upN σ.D h (σ.D h + 1)⟩).1 = true then (true, (rec ⟨upI σ.L hut h, upN σ.D h (σ.D h + 1)⟩).2)
  else drwH rec hut r (h + 1) ⟨(rec ⟨upI σ.L hut h, upN σ.D h (σ.D h + 1)⟩).2.L, σ.D⟩
def drwF : Nat → Nat → Ds → Bool × Ds
 | 0, _, σ => (true, σ)
 | k + 1, hut, σ =>
  if hut = m then (true, σ)
  else if skp hut = true then drwF k (hut + 1) ⟨upI σ.L hut (-1), σ.D⟩
  else drwH many (drwF k (hut + 1)) hut (lim hut) 0 ⟨upI σ.L hut (-1), σ.D⟩
variable {skp lim many m}
theorem drwH_skip {rec : Ds → Bool × Ds} {hut r h : Nat} {σ : Ds} (hf : σ.D h = many) : drwH many rec hut (r + 1) h σ = drwH many rec hut r (h + 1) σ := by
 simp only [drwH, if_pos hf]
theorem drwH_true {rec : Ds → Bool × Ds} {hut r h : Nat} {σ σ' : Ds} (hf : σ.D h ≠ many) (hr : rec ⟨upI σ.L hut h, upN σ.D h (σ.D h + 1)⟩ = (true, σ')) : drwH many rec hut (r + 1) h σ = (true, σ') := by
 simp only [drwH, if_neg hf, hr, if_true]
theorem drwH_false {rec : Ds → Bool × Ds} {hut r h : Nat} {σ σ' : Ds} (hf : σ.D h ≠ many) (hr : rec ⟨upI σ.L hut h, upN σ.D h (σ.D h + 1)⟩ = (false, σ')) : drwH many rec hut (r + 1) h σ = drwH many rec hut r (h + 1) ⟨σ'.L, σ.D⟩ := by
 simp only [drwH, if_neg hf, hr, Bool.false_eq_true, if_false]
theorem drwH_D {rec : Ds → Bool × Ds} {hut : Nat} (r : Nat) : ∀ h σ, (drwH many rec hut r h σ).1 = false → (drwH many rec hut r h σ).2.D = σ.D := by
 induction r with
 | zero => intro h σ _; rfl
 | succ r ih =>
  intro h σ hb
  by_cases hf : σ.D h = many
  · rw [drwH_skip hf] at hb ⊢
    exact ih (h + 1) σ hb
  · generalize hr : rec ⟨upI σ.L hut h, upN σ.D h (σ.D h + 1)⟩ = x at *
    obtain ⟨b, σ'⟩ := x
    cases b with
    | true => rw [drwH_true hf hr] at hb; cases hb
    | false =>
     rw [drwH_false hf hr] at hb ⊢
     exact ih (h + 1) ⟨σ'.L, σ.D⟩ hb
theorem drwF_D (k : Nat) : ∀ hut σ, (drwF skp lim many m k hut σ).1 = false → (drwF skp lim many m k hut σ).2.D = σ.D := by
 induction k with
 | zero => intro hut σ h; cases h
 | succ k ih =>
  intro hut σ
  simp only [drwF]
  split
  · intro h; cases h
  · split
    · exact ih (hut + 1) ⟨upI σ.L hut (-1), σ.D⟩
    · exact drwH_D (lim hut) 0 ⟨upI σ.L hut (-1), σ.D⟩
end
end Go.Ab
