/- ABSTRACT MEMORY, 8: operations that make memory, or write. -/
import Derived.Test.YtmnpnakbofobiaaDoorAbA
import Derived.Laws.AppendOwn
import Derived.RangeFuncRecord
import Derived.LoopNIn
import Derived.RecoverIn
namespace Go.Ab
open Go Go.RowKit

def tBytes (P : Program) (t : TypeId) : Option Nat := (P.info? t).map (·.bytes)
def zCells (z : List Value) (n : Nat) : List Value := (List.range n).map fun i => (z[i % z.length]?).getD undef

def aAlloc (P : Program) (ρ : Operand → Option Value) : Op → Option (ABlk × (Nat → Value))
  | .alloc t => (tZero P t).bind fun z => if flat z then some (.cells z.cells.toList t .var, fun i => .pointer (some ⟨i, 0, none⟩)) else none
  | .box t x => (ρ x).map fun v => (.cells v.cells.toList t .var, fun i => .pointer (some ⟨i, 0, none⟩))
  | .buildSlice t len parts =>
    (tSlice P t).bind fun e => (tSize P e).bind fun s => (tZero P e).bind fun z => (evps ρ parts.toList).bind fun ps =>
      if len * s ≤ 2 ^ 24 ∧ z.cells.toList.all atomic ∧ z.cells.size = s then
        (fillV (fun i => some (i * s, s)) (zCells z.cells.toList (len * s)) ps).map fun cs => (.cells cs e .row, fun i => .slice (some ⟨i, 0, none⟩) len len)
      else none
  | .makeSlice t l c =>
    (tSlice P t).bind fun e => (tSize P e).bind fun s => (tZero P e).bind fun z => (tBytes P e).bind fun by_ =>
      match ρ l, ρ c with
      | some (.int _ l), some (.int _ c) =>
        if 0 ≤ l ∧ l ≤ c ∧ c ≤ 2 ^ 40 ∧ by_ * c ≤ 2 ^ 48 ∧ z.cells.toList.all atomic ∧ z.cells.size = s then
          some (.cells (zCells z.cells.toList (c.toNat * s)) e .row, fun i => .slice (some ⟨i, 0, none⟩) l.toNat c.toNat)
        else none
      | _, _ => none
  | .makeMap t none => if (tMap P t).isSome then some (.map [], fun i => .map (some i)) else none
  | _ => none

section
variable [TT] {P : Program} {B0 : Nat} {m : NMap} {H : AHeap} {w w' : World} {a : AAct} {a' : Act}

theorem zCells_rel {z : List Value} {n : Nat} (hz : ∀ v ∈ z, atomic v = true) : VsRel m (zCells z n) (zCells z n) := by
  have _ := TT.tt
  have key : ∀ k, k < n → VRel m ((z[k % z.length]?).getD undef) ((z[k % z.length]?).getD undef) := by
    intro k _
    cases h : z[k % z.length]? with
    | none => exact .tuple .nil .nil
    | some v => exact .of_atomic (hz v (List.mem_of_getElem? h))
  refine .of_get rfl fun j v hj => ⟨v, hj, ?_⟩
  simp only [zCells] at hj
  rw [List.getElem?_map] at hj
  cases hr : (List.range n)[j]? with
  | none => rw [hr] at hj; cases hj
  | some k =>
    rw [hr] at hj
    cases hj
    have := List.mem_of_getElem? hr
    exact key k (by simpa using this)

theorem zCells_eq {z : Array Value} {n : Nat} (h : n = 0 ∨ 0 < z.size) : ((Array.range n).map fun i => z[i % z.size]!).toList = zCells z.toList n := by
  have _ := TT.tt
  simp only [zCells, Array.toList_map, Array.toList_range, Array.length_toList]
  apply List.map_congr_left
  intro i hi
  have hn : 0 < z.size := by
    rcases h with h | h
    · subst h; simp at hi
    · exact h
  have hlt : i % z.size < z.size := Nat.mod_lt _ hn
  simp [hlt]

/-- A name for a block that no living name stands for. -/
theorem Rel.add (h : Rel P B0 m H w) {j : Nat} (hm : m j = none) (hH : H j = none) (b : ABlk) (f : BInfo) (hsize : w.heap.size ≤ w'.heap.size)
    (hoth : ∀ k, k ≠ f.blk → k < w.heap.size → w'.heap[k]? = w.heap[k]?) (hnone : ∀ i c g, c ≠ .dead → H i = some c → m i = some g → g.blk ≠ f.blk) (hb : BlkRel P B0 m w' b f) :
    Rel P B0 (nset m j f) (upd H j b) w' where
  blocks i c g hi hg := by
    by_cases e : i = j
    · subst e
      simp [nset] at hg; simp at hi
      subst hg; subst hi
      exact hb.mono (nset_le hm)
    · rw [upd_other _ _ _ _ e] at hi
      simp [nset, e] at hg
      have h0 := h.blocks i c g hi hg
      exact (h0.heap fun hd => hoth _ (hnone i c g hd hi hg) (h0.lt hd)).mono (nset_le hm)
  tot ht i hi := by
    by_cases e : i = j
    · subst e; simp at hi
    · rw [upd_other _ _ _ _ e] at hi
      simp [nset, e, h.tot ht i hi]
  inj i k c d g g' hik hi hk hci hck hgi hgk := by
    by_cases e : i = j
    · subst e
      have ek : k ≠ i := Ne.symm hik
      simp [nset] at hgi; subst hgi
      rw [upd_other _ _ _ _ ek] at hk
      simp [nset, ek] at hgk
      exact Ne.symm (hnone k d g' (ABlk.own_dead hck) hk hgk)
    · by_cases e' : k = j
      · subst e'
        simp [nset] at hgk; subst hgk
        rw [upd_other _ _ _ _ e] at hi
        simp [nset, e] at hgi
        exact hnone i c g (ABlk.own_dead hci) hi hgi
      · rw [upd_other _ _ _ _ e] at hi
        rw [upd_other _ _ _ _ e'] at hk
        simp [nset, e] at hgi
        simp [nset, e'] at hgk
        exact h.inj i k c d g g' hik hi hk hci hck hgi hgk
  fin := by
    obtain ⟨N, hN⟩ := h.fin
    refine ⟨max N (j + 1), fun i hi => ?_⟩
    have h1 : i ≠ j := by omega
    exact ⟨by simp [nset, h1, (hN i (by omega)).1], by rw [upd_other _ _ _ _ h1]; exact (hN i (by omega)).2⟩
  base := Nat.le_trans h.base hsize
  glob g hg := nset_le hm _ _ (h.glob g hg)

theorem Rel.alloc_cells (h : Rel P B0 m H w) {i : Nat} (hm : m i = none) (hH : H i = none) {cs cs' : List Value} {e : TypeId} {k : BKind} (hk : k ≠ .ro) (hc : VsRel m cs cs') :
    Rel P B0 (nset m i ⟨w.heap.size, 0, 0⟩) (upd H i (.cells cs e k)) (w.alloc (.cells ⟨cs'⟩ e)) := by
  refine h.alloc hm hH _ _ ⟨w.heap.size, 0, 0⟩ rfl ⟨⟨cs'⟩, e, (0, 0), ?_, fun j v hj => ?_, fun _ => ⟨rfl, rfl, h.base, rfl, ?_⟩, fun hr => absurd hr hk, fun _ => rfl⟩
  · exact Go.heap_alloc_new w _
  · obtain ⟨v', h1, h2⟩ := hc.get hj
    exact ⟨v', by simpa using h1, h2⟩
  · have := hc.length; simp [this]

/-- What 'aAlloc' gives the machine gives, under any new name. -/
theorem aAlloc_sound {o : Oper} {b : ABlk} {mk : Nat → Value} (hr : Rel P B0 m H w) (ha : ARel m a a') (h : aAlloc P (a.eval P) o.op = some (b, mk)) {i : Nat} (hm : m i = none) (hH : H i = none) :
    ∃ v' ob f, (execOp a'.eval o).run P w = .ok (.value v') (w.alloc ob) ∧ Rel P B0 (nset m i f) (upd H i b) (w.alloc ob) ∧ VRel (nset m i f) (mk i) v' := by
  obtain ⟨dst, op, ty, pos, aft, gd⟩ := o
  simp only at h
  have hni : (nset m i ⟨w.heap.size, 0, 0⟩) i = some ⟨w.heap.size, 0, 0⟩ := by simp [nset]
  have hptr : VRel (nset m i ⟨w.heap.size, 0, 0⟩) (.pointer (some ⟨i, 0, none⟩)) (.pointer (some ⟨w.heap.size, 0, none⟩)) := by
    have := VsRel.ptr (m := nset m i ⟨w.heap.size, 0, 0⟩) (o := 0) hni .nil
    exact this
  have hsl : ∀ n c, n ≤ c → VRel (nset m i ⟨w.heap.size, 0, 0⟩) (.slice (some ⟨i, 0, none⟩) n c) (.slice (some ⟨w.heap.size, 0, none⟩) n c) := by
    intro n c hnc
    have := VsRel.slice (m := nset m i ⟨w.heap.size, 0, 0⟩) (o := 0) (a := ⟨w.heap.size, 0, none⟩) hni hnc (fun _ => rfl) .nil
    exact this
  cases op with
  | alloc t =>
    simp only [aAlloc] at h
    obtain ⟨z, hz, h⟩ := option_bind_some h
    split at h
    · rename_i hf
      cases h
      refine ⟨.pointer (some ⟨w.heap.size, 0, none⟩), .cells ⟨z.cells.toList⟩ t, ⟨w.heap.size, 0, 0⟩, ?_, hr.alloc_cells hm hH (by simp) (VRel.of_flat hf).cells, hptr⟩
      simp only [execOp, Instr.alloc, Sem.run_bind, run_zeroValue_t w hz, Result.andThen_ok, newVar, newRow, run_newObj, Sem.run_pure]
      rfl
    · cases h
  | box t x =>
    simp only [aAlloc] at h
    cases hx : a.eval P x with
    | none => rw [hx] at h; cases h
    | some v =>
      rw [hx] at h
      cases h
      have hv := eval_sound hr ha hx
      refine ⟨.pointer (some ⟨w.heap.size, 0, none⟩), .cells ⟨(a'.eval x).cells.toList⟩ t, ⟨w.heap.size, 0, 0⟩, ?_, hr.alloc_cells hm hH (by simp) hv.cells, hptr⟩
      simp only [execOp, Instr.box, Sem.run_bind, Result.andThen_ok, newVar, newRow, run_newObj, Sem.run_pure]
      rfl
  | buildSlice t len parts =>
    simp only [aAlloc] at h
    obtain ⟨e, he, h⟩ := option_bind_some h
    obtain ⟨s, hs, h⟩ := option_bind_some h
    obtain ⟨z, hz, h⟩ := option_bind_some h
    obtain ⟨ps, hps, h⟩ := option_bind_some h
    split at h
    · rename_i hb
      obtain ⟨hb1, hb2, hb3⟩ := hb
      cases hcs : fillV (fun i => some (i * s, s)) (zCells z.cells.toList (len * s)) ps with
      | none => rw [hcs] at h; cases h
      | some cs =>
        rw [hcs] at h
        cases h
        obtain ⟨ps', e1, hn, hv⟩ := evps_sound hr ha hps
        have ep : (parts.map fun (i, x) => (i, a'.eval x)).toList = ps' := by rw [← e1]; simp
        have hat : ∀ v ∈ z.cells.toList, atomic v = true := fun v hv => List.all_eq_true.1 hb2 v hv
        obtain ⟨r', h1, h2⟩ := fillV_sound hn hv (zCells_rel (m := m) (n := len * s) hat) hcs
        refine ⟨.slice (some ⟨w.heap.size, 0, none⟩) len len, .cells ⟨r'⟩ e, ⟨w.heap.size, 0, 0⟩, ?_, hr.alloc_cells hm hH (by simp) h2, hsl _ _ (Nat.le_refl _)⟩
        have hzc : (⟨zCells z.cells.toList (len * s)⟩ : Array Value) = (Array.range (len * s)).map fun i => (if len * s = 0 then #[] else z.cells)[i % (if len * s = 0 then #[] else z.cells).size]! := by
          apply Array.ext'
          by_cases h0 : len * s = 0
          · simp [h0, zCells]
          · rw [← zCells_eq (.inr (by rw [hb3]; exact Nat.pos_of_ne_zero fun e => h0 (by rw [e]; simp)))]
            simp [h0]
        rw [hzc] at h1
        have hlen : ¬ len * s > 2 ^ 24 := by omega
        by_cases h0 : len * s = 0
        · simp only [h0, if_true] at h1
          simp only [execOp, Instr.buildSlice, Sem.run_bind, run_underlying (tSlice_u he), Result.andThen_ok, run_sizeOf_t w hs, h0, if_true, Sem.run_pure, ep, h1, newRow, run_newObj, Sem.run_ite]
          rfl
        · simp only [h0, if_false] at h1
          simp only [execOp, Instr.buildSlice, Sem.run_bind, run_underlying (tSlice_u he), Result.andThen_ok, run_sizeOf_t w hs, if_neg hlen, h0, if_false, run_zeroValue_t w hz, Sem.run_pure, ep, h1, newRow, run_newObj, Sem.run_ite]
          rfl
    · cases h
  | makeSlice t l c =>
    simp only [aAlloc] at h
    obtain ⟨e, he, h⟩ := option_bind_some h
    obtain ⟨s, hs, h⟩ := option_bind_some h
    obtain ⟨z, hz, h⟩ := option_bind_some h
    obtain ⟨by_, hby, h⟩ := option_bind_some h
    split at h
    · rename_i k1 lv k2 cv hl hc
      split at h
      · rename_i hb
        obtain ⟨hb1, hb2, hb3, hb4, hb5, hb6⟩ := hb
        cases h
        have el := (eval_sound hr ha hl).int_inv
        have ec := (eval_sound hr ha hc).int_inv
        have hat : ∀ v ∈ z.cells.toList, atomic v = true := fun v hv => List.all_eq_true.1 hb5 v hv
        refine ⟨.slice (some ⟨w.heap.size, 0, none⟩) lv.toNat cv.toNat, .cells ⟨zCells z.cells.toList (cv.toNat * s)⟩ e, ⟨w.heap.size, 0, 0⟩, ?_, hr.alloc_cells hm hH (by simp) (zCells_rel hat), hsl _ _ (by omega)⟩
        have wl : IntKind.i64.wrap lv = lv := IntWalk.i64_in _ (by omega)
        have wc : IntKind.i64.wrap cv = cv := IntWalk.i64_in _ (by omega)
        have hin : ∃ inf, P.info? e = some inf ∧ inf.bytes = by_ := by
          unfold tBytes at hby
          cases hi : P.info? e with
          | none => rw [hi] at hby; cases hby
          | some inf => rw [hi] at hby; simp at hby; exact ⟨inf, rfl, hby⟩
        obtain ⟨inf, hinf, hib⟩ := hin
        have hzc : (⟨zCells z.cells.toList (cv.toNat * s)⟩ : Array Value) = (Array.range (cv.toNat * s)).map fun i => (if cv.toNat * s = 0 then #[] else z.cells)[i % (if cv.toNat * s = 0 then #[] else z.cells).size]! := by
          apply Array.ext'
          by_cases h0 : cv.toNat * s = 0
          · simp [h0, zCells]
          · rw [← zCells_eq (.inr (by rw [hb6]; exact Nat.pos_of_ne_zero fun e => h0 (by rw [e]; simp)))]
            simp [h0]
        have t1 : (decide (cv < 0) || decide ((by_ : Int) * cv > 2 ^ 48)) = false := by simp; omega
        have t2 : decide (lv < 0) = false := by simp; omega
        have t3 : decide (lv > cv) = false := by simp; omega
        rw [hzc]
        by_cases h0 : cv.toNat * s = 0
        · simp only [execOp, Instr.makeSlice, Sem.run_bind, run_underlying (tSlice_u he), Result.andThen_ok, asInt, el, ec, asIntOf, Sem.run_pure, typeInfo, run_program, hinf, hib, wl, wc, t1, t2, t3, Bool.or_false, Bool.false_eq_true, if_false, run_askRoom, run_sizeOf_t w hs, h0, if_true, newRow, run_newObj, Sem.run_ite]
          rfl
        · simp only [execOp, Instr.makeSlice, Sem.run_bind, run_underlying (tSlice_u he), Result.andThen_ok, asInt, el, ec, asIntOf, Sem.run_pure, typeInfo, run_program, hinf, hib, wl, wc, t1, t2, t3, Bool.or_false, Bool.false_eq_true, if_false, run_askRoom, run_sizeOf_t w hs, h0, run_zeroValue_t w hz, newRow, run_newObj, Sem.run_ite]
          rfl
      · cases h
    · cases h
  | makeMap t r =>
    cases r with
    | some _ => simp [aAlloc] at h
    | none =>
      simp only [aAlloc] at h
      split at h
      · cases h
        refine ⟨.map (some w.heap.size), .map #[] 0, ⟨w.heap.size, 0, 0⟩, ?_, ?_, .map hni .nil⟩
        · simp only [execOp, Instr.makeMap, Option.map_none, Sem.run_bind, Sem.run_pure, Result.andThen_ok, run_newObj]
          rfl
        · exact hr.alloc hm hH _ _ _ rfl ⟨hr.base, #[], 0, Go.heap_alloc_new w _, .nil⟩
      · cases h
  | _ => simp [aAlloc] at h
end
end Go.Ab

/- ABSTRACT MEMORY, 9: stores, appends, copies. -/
namespace Go.Ab
open Go Go.RowKit

def one (v : Value) : Bool := match v with | .agg _ | .tuple _ => false | _ => true
/-- The block behind a store. -/
def storeB (b : ABlk) (o : Nat) (vs : List Value) : Option ABlk :=
  match b with
  | .cells cs e k => if k ≠ .ro ∧ o + vs.length ≤ cs.length ∧ vs.all one then some (.cells (cs.take o ++ vs ++ cs.drop (o + vs.length)) e k) else none
  | _ => none
/-- The cells that a slice holds. -/
def sliceCells (H : AHeap) (s : Nat) : Value → Option (Nat × List Value)
  | .slice none 0 0 => some (0, [])
  | .slice (some ⟨i, o, none⟩) n _ =>
    match H i with
    | some (.cells cs _ _) => if o + n * s ≤ cs.length then some (n, (cs.drop o).take (n * s)) else none
    | _ => none
  | _ => none
def del (H : AHeap) (i : Nat) : AHeap := fun j => if j = i then some .dead else H j
@[simp] theorem del_same (H : AHeap) (i : Nat) : del H i i = some .dead := by simp [del]
theorem del_other (H : AHeap) (i j : Nat) (h : j ≠ i) : del H i j = H j := by simp [del, h]

/-- What an append comes to: the slice as it was; in place; a new row, the old one forgotten. -/
inductive AppRes where
  | same (v : Value)
  | inpl (v : Value) (i : Nat) (b : ABlk)
  | grow (H' : AHeap) (n : Nat) (b : ABlk)
def aAppend (P : Program) (H : AHeap) (t : TypeId) (d x : Value) : Option AppRes :=
  (tSlice P t).bind fun e => (tSize P e).bind fun s => (tBytes P e).bind fun by_ => (tZero P e).bind fun z => (sliceCells H s x).bind fun kx =>
    if 0 < s ∧ z.cells.size = s ∧ P.cellsOf e = s ∧ kx.2.all one then
      match d with
      | .slice none 0 0 =>
        if kx.1 = 0 then some (.same d) else if kx.1 * by_ ≤ 2 ^ 47 ∧ kx.1 ≤ 2 ^ 62 then some (.grow H kx.1 (.cells kx.2 e .row)) else none
      | .slice (some ⟨i, 0, none⟩) n c =>
        if kx.1 = 0 then some (.same d)
        else
          match H i with
          | some (.cells cs e' .row) =>
            if e' = e then
              if n + kx.1 ≤ c then
                (storeB (.cells cs e .row) (n * s) kx.2).map fun b => .inpl (.slice (some ⟨i, 0, none⟩) (n + kx.1) c) i b
              else if c * s = cs.length ∧ (n + kx.1) * by_ ≤ 2 ^ 47 ∧ n + kx.1 ≤ 2 ^ 62 then some (.grow (del H i) (n + kx.1) (.cells (cs.take (n * s) ++ kx.2) e .row)) else none
            else none
          | _ => none
      | _ => none
    else none

section
variable [TT] {P : Program} {B0 : Nat} {m : NMap} {H : AHeap} {w w' : World} {a : AAct} {a' : Act}

theorem one_rel {v v' : Value} (h : VRel m v v') (ho : one v = true) : v'.oneCell' = true := by
  have _ := TT.tt
  cases h with
  | atom h _ => cases v <;> first | rfl | (simp [one] at ho)
  | agg _ _ => simp [one] at ho
  | tuple _ _ => simp [one] at ho
  | _ => rfl
theorem ones_rel {vs vs' : List Value} (h : VsRel m vs vs') (ho : vs.all one = true) : ∀ v ∈ vs', v.oneCell' = true := by
  induction vs generalizing vs' with
  | nil => rw [h.nil_left]; simp
  | cons v l ih =>
    obtain ⟨v', l', rfl, hv, hl⟩ := h.uncons
    simp only [List.all_cons, Bool.and_eq_true] at ho
    intro u hu
    rcases List.mem_cons.1 hu with rfl | hu
    · exact one_rel hv ho.1
    · exact ih hl ho.2 u hu

/-- Cells of the call's own are written, one behind the other. -/
theorem storeCells_sound (hr : Rel P B0 m H w) {i o : Nat} {b b' : ABlk} {f : BInfo} {vs vs' : List Value} (hi : H i = some b) (hm : m i = some f) (hv : VsRel m vs vs') (h : storeB b o vs = some b') :
    ∃ row, (storeCells ⟨f.blk, f.off + o, none⟩ vs' 0).run P w = .ok () (w.setRow f.blk row) ∧ Rel P B0 m (upd H i b') (w.setRow f.blk row) ∧ B0 ≤ f.blk := by
  unfold storeB at h
  split at h
  · rename_i cs e k
    split at h
    · rename_i hb
      obtain ⟨hk, hlen, hone⟩ := hb
      cases h
      obtain ⟨c, e', fr, hc, hcs, hown, hro, hvar⟩ := hr.blocks i _ f hi hm
      obtain ⟨hoff, hfr, hB, he, hsz⟩ := hown hk
      subst hfr; subst he
      have hl := hv.length
      have hst := run_storeCells_at P f.blk (f.off + o) e' vs' 0 c w hc (by rw [hoff, hl, hsz]; omega) (ones_rel hv hone)
      refine ⟨_, hst, ?_, hB⟩
      refine hr.put hi hm (by cases k <;> first | rfl | exact absurd rfl hk) (by simp) (fun k hk _ => setRow_other w f.blk k _ hk) ?_
      refine ⟨_, e', (0, 0), setRow_heap w f.blk c _ e' _ hc, fun j v hj => ?_, fun _ => ⟨hoff, rfl, hB, rfl, ?_⟩, fun e => absurd e hk, hvar⟩
      · rw [hoff]
        simp only [Nat.zero_add, Nat.add_zero, List.getElem?_toArray]
        have hcl : cs.length ≤ c.size := by rw [hsz]; omega
        rw [List.append_assoc] at hj ⊢
        rcases Nat.lt_or_ge j o with h1 | h1
        · rw [List.getElem?_append_left (by simp; omega), List.getElem?_take_of_lt h1] at hj
          obtain ⟨v', h2, h3⟩ := hcs j v hj
          refine ⟨v', ?_, h3⟩
          rw [List.getElem?_append_left (by simp; omega), List.getElem?_take_of_lt h1]
          simpa [hoff] using h2
        · have l1 : (cs.take o).length = o := by simp; omega
          have l2 : (c.toList.take o).length = o := by simp; omega
          rw [List.getElem?_append_right (by omega), l1] at hj
          rw [List.getElem?_append_right (by omega), l2]
          rcases Nat.lt_or_ge (j - o) vs.length with h2 | h2
          · rw [List.getElem?_append_left h2] at hj
            rw [List.getElem?_append_left (by omega)]
            exact hv.get hj
          · rw [List.getElem?_append_right h2, List.getElem?_drop] at hj
            rw [List.getElem?_append_right (by omega), List.getElem?_drop, hl]
            obtain ⟨v', h3, h4⟩ := hcs _ v hj
            exact ⟨v', by simpa [hoff] using h3, h4⟩
      · have hcl : cs.length ≤ c.size := by rw [hsz]; omega
        simp only [List.size_toArray, List.length_append, List.length_take, List.length_drop, Array.length_toList, Nat.add_zero]
        rw [hoff]
        omega
    · cases h
  · cases h

theorem sliceCells_sound (hr : Rel P B0 m H w) {s : Nat} {x x' : Value} {n : Nat} {vs : List Value} (hx : VRel m x x') (h : sliceCells H s x = some (n, vs)) :
    ∃ ad c vs', x' = .slice ad n c ∧ (ad = none → n = 0) ∧ VsRel m vs vs' ∧ vs'.length = n * s ∧ ∀ b, ad = some b → ∀ (j : Nat) v, vs'[j]? = some v → w.cell? (b.add j) = some v := by
  unfold sliceCells at h
  split at h
  · cases h
    have := hx.eq_of_atomic rfl
    subst this
    exact ⟨none, 0, [], rfl, fun _ => rfl, .nil, by simp, fun b hb => by cases hb⟩
  · rename_i i o n0 c
    split at h
    · rename_i cs e k hi
      split at h
      · rename_i hlen
        cases h
        obtain ⟨f, ad, hm, hn, hfa, rfl⟩ := hx.slice_inv
        obtain ⟨cc, e', fr, hc, hcs, _⟩ := hr.blocks i _ f hi hm
        have hg : ∀ j, j < n * s → ∃ v', cc[f.off + o + j]? = some v' ∧ ∀ v, cs[o + j]? = some v → VRel m v v' := by
          intro j hj
          have hv : cs[o + j]? = some (cs[o + j]'(by omega)) := List.getElem?_eq_getElem (by omega)
          obtain ⟨v', h1, h2⟩ := hcs (o + j) _ hv
          exact ⟨v', by rw [← h1]; congr 1; omega, fun v h3 => by rw [hv] at h3; cases h3; exact h2⟩
        have hl2 : ((cc.toList.drop (f.off + o)).take (n * s)).length = n * s := by
          rcases Nat.eq_zero_or_pos (n * s) with h0 | h0
          · simp [h0]
          · obtain ⟨v', h1, _⟩ := hg (n * s - 1) (by omega)
            have := (Array.getElem?_eq_some_iff.1 h1).1
            simp; omega
        refine ⟨some ad, _, (cc.toList.drop (f.off + o)).take (n * s), rfl, by simp, ?_, hl2, fun b hb j v hj => ?_⟩
        · refine .of_get (by rw [hl2]; simp; omega) fun j v hj => ?_
          have hjs : j < n * s := by
            have := (List.getElem?_eq_some_iff.1 hj).1
            simp at this; omega
          rw [List.getElem?_take_of_lt hjs, List.getElem?_drop] at hj
          obtain ⟨v', h1, h2⟩ := hg j hjs
          exact ⟨v', by rw [List.getElem?_take_of_lt hjs, List.getElem?_drop]; simpa using h1, h2 v hj⟩
        · cases hb
          have hjs : j < n * s := by
            have := (List.getElem?_eq_some_iff.1 hj).1
            omega
          rw [List.getElem?_take_of_lt hjs, List.getElem?_drop] at hj
          have hpos : 0 < n := by
            rcases Nat.eq_zero_or_pos n with h0 | h0
            · rw [h0] at hjs; simp at hjs
            · exact h0
          rw [hfa (by omega), addr_add]
          simp only [World.cell?, hc]
          simpa using hj
      · cases h
    · cases h
  · cases h
end
end Go.Ab

/- ABSTRACT MEMORY, 10: append, copy, clear. -/
namespace Go.Ab
open Go Go.RowKit
section
variable [TT] {P : Program} {B0 : Nat} {m : NMap} {H : AHeap} {w w' : World} {a : AAct} {a' : Act}

theorem below_setRow' {B g : Nat} {w0 w : World} (hb : Below B w0 w) (hBg : B ≤ g) (cs : Array Value) : Below B w0 (w.setRow g cs) := have _ := TT.tt;
  hb.trans ⟨rfl, rfl, rfl, by simp, fun k hk => setRow_other w g k cs (by omega)⟩

/-- What is so behind an append. -/
def AppPost (P : Program) (B0 : Nat) (m : NMap) (H : AHeap) (w : World) (v' : Value) (w' : World) : AppRes → Prop
  | .same v => VRel m v v' ∧ w' = w
  | .inpl v i b => VRel m v v' ∧ Rel P B0 m (upd H i b) w'
  | .grow H' n b => ∀ j, m j = none → H' j = none → ∃ f, Rel P B0 (nset m j f) (upd H' j b) w' ∧ VRel (nset m j f) (.slice (some ⟨j, 0, none⟩) n n) v'

theorem info_of (P : Program) {e : TypeId} {s by_ : Nat} {z : Value} (hs : tSize P e = some s) (hb : tBytes P e = some by_) (hz : tZero P e = some z) :
    ∃ inf, P.info? e = some inf ∧ inf.size = s ∧ inf.bytes = by_ ∧ inf.zero = some z := by
  have _ := TT.tt
  unfold tSize at hs; unfold tBytes at hb; unfold tZero at hz
  cases hi : P.info? e with
  | none => rw [hi] at hs; cases hs
  | some inf =>
    rw [hi] at hs hb hz
    exact ⟨inf, rfl, by simpa using hs, by simpa using hb, by simpa using hz⟩

theorem Rel.del (h : Rel P B0 m H w) {i : Nat} (hi : H i ≠ none) : Rel P B0 m (Ab.del H i) w :=
  h.sub fun j => by
    by_cases e : j = i
    · subst e; exact .inr (.inl ⟨by simp, hi⟩)
    · exact .inl (del_other _ _ _ e)

theorem grownCap_ge' (w : World) (need old : Nat) (e : TypeId) : need ≤ grownCap w need old e := by
  have _ := TT.tt
  simp only [grownCap, Question.cut]; omega

/-- A slice that keeps its place when nothing is appended. -/
theorem append_none {t ty e : TypeId} {inf : TypeInfo} {ad : Option Addr} {n c k : Nat} {x' : Value} (ht : P.underlying t = some (.slice e)) (hi : P.info? e = some inf) (hn : n ≤ c)
    (hx : x' = .slice none 0 0 ∨ ∃ b, x' = .slice (some b) 0 k) : (Builtin.append_ #[t, t] ty #[.slice ad n c, x']).run P w = .ok (.slice ad n c) w := by
  have _ := TT.tt
  rcases hx with rfl | ⟨b, rfl⟩ <;> cases ad <;> simp [Builtin.append_, run_underlying ht, sizeOf, typeInfo, hi, Builtin.lenOf, hn, Builtin.firstCells, storeCells, loadCells, loadCellsFrom]

theorem aAppend_sound {t ty : TypeId} {d d' x x' : Value} {r : AppRes} (hr : Rel P B0 m H w) (hd : VRel m d d') (hx : VRel m x x') (h : aAppend P H t d x = some r) :
    ∃ v' w', (Builtin.append_ #[t, t] ty #[d', x']).run P w = .ok v' w' ∧ Below B0 w w' ∧ AppPost P B0 m H w v' w' r := by
  unfold aAppend at h
  obtain ⟨e, he, h1⟩ := option_bind_some h
  clear h
  obtain ⟨s, hs, h2⟩ := option_bind_some h1
  clear h1
  obtain ⟨by_, hby, h3⟩ := option_bind_some h2
  clear h2
  obtain ⟨z, hz, h4⟩ := option_bind_some h3
  clear h3
  obtain ⟨kx, hkx, h⟩ := option_bind_some h4
  clear h4
  obtain ⟨k, xs⟩ := kx
  split at h
  · rename_i hc
    obtain ⟨hs0, hzs, hcell, hone⟩ := hc
    simp only at h hone
    have ht := tSlice_u he
    obtain ⟨inf, hinf, hisz, hiby, hizero⟩ := info_of P hs hby hz
    obtain ⟨ax, cx, xs', rfl, hax, hxs, hxl, hxc⟩ := sliceCells_sound hr hx hkx
    have hxl' := hxs.length
    have none0 : k = 0 → ((Value.slice ax k cx) = .slice none 0 0 ∨ ∃ b, (Value.slice ax k cx) = .slice (some b) 0 cx) := by
      intro h0
      subst h0
      cases ax with
      | none =>
        have hc0 : cx = 0 := by
          cases hx with
          | atom h1 _ => cases cx with
            | zero => rfl
            | succ n => simp [atomic] at h1
        subst hc0
        exact .inl rfl
      | some b => exact .inr ⟨b, rfl⟩
    split at h
    · -- onto nil
      have hdn := hd.eq_of_atomic rfl
      subst hdn
      split at h
      · rename_i hk0
        cases h
        exact ⟨_, w, append_none ht hinf (Nat.le_refl _) (none0 hk0), Below.refl _ _, hd, rfl⟩
      · rename_i hk0
        split at h
        · rename_i hb
          cases h
          obtain ⟨b, rfl⟩ : ∃ b, ax = some b := by
            cases ax with
            | none => exact absurd (hax rfl) hk0
            | some b => exact ⟨b, rfl⟩
          have hrun := run_append_nil (P := P) w t ty e inf z ht hinf hizero b k cx xs' (by rw [hxl, hisz]) (hxc b rfl) (by omega) (by omega) (by rw [hiby]; omega)
          refine ⟨_, _, hrun, ((Below.refl B0 w).drew.alloc (show B0 ≤ w.drew.heap.size from hr.base) _), fun j hmj hHj => ⟨⟨w.heap.size, 0, grownCap w k 0 e - k⟩, ?_, ?_⟩⟩
          · have hr1 : Rel P B0 m H w.drew := hr.of_heap rfl
            refine hr1.alloc hmj hHj _ _ _ rfl ⟨_, e, (0, 0), Go.heap_alloc_new w.drew _, fun j v hj => ?_, fun _ => ⟨rfl, rfl, hr.base, rfl, ?_⟩, fun e => (by cases e), fun e => (by cases e)⟩
            · obtain ⟨v', h1, h2⟩ := hxs.get hj
              refine ⟨v', ?_, h2⟩
              have : j < xs'.length := (List.getElem?_eq_some_iff.1 h1).1
              rw [Nat.zero_add, Array.getElem?_append_left (by simpa using this)]
              simpa using h1
            · simp only [Array.size_append, List.size_toArray, size_zeroCells, hzs, hcell]
              omega
          · have hle := grownCap_ge' w k 0 e
            have := VsRel.slice (m := nset m j ⟨w.heap.size, 0, grownCap w k 0 e - k⟩) (i := j) (o := 0) (n := k) (c := k) (f := ⟨w.heap.size, 0, grownCap w k 0 e - k⟩) (a := ⟨w.heap.size, 0, none⟩)
              (by simp [nset]) (Nat.le_refl _) (fun _ => rfl) .nil
            have e2 : k + (grownCap w k 0 e - k) = grownCap w k 0 e := by omega
            rw [e2] at this
            exact this
        · cases h
    · rename_i i n c
      obtain ⟨f, ad, hm, hn, hfa, rfl⟩ := hd.slice_inv
      split at h
      · rename_i hk0
        cases h
        exact ⟨_, w, append_none ht hinf (by omega) (none0 hk0), Below.refl _ _, hd, rfl⟩
      · rename_i hk0
        obtain ⟨b, rfl⟩ : ∃ b, ax = some b := by
          cases ax with
          | none => exact absurd (hax rfl) hk0
          | some b => exact ⟨b, rfl⟩
        split at h
        · rename_i cs e' hHi
          split at h
          · rename_i hee
            subst hee
            obtain ⟨cc, e2, fr, hcc, hcs, hown, _, _⟩ := hr.blocks i _ f hHi hm
            obtain ⟨hoff, hfr, hB, he2, hcsz⟩ := hown (by simp)
            subst hfr; subst he2
            rw [hcell] at hcsz
            split at h
            · -- in place
              rename_i hfit
              cases hst : storeB (.cells cs e2 .row) (n * s) xs with
              | none => rw [hst] at h; cases h
              | some bb =>
                rw [hst] at h
                cases h
                have had := hfa (by omega)
                subst had
                rw [show (⟨f.blk, f.off + 0, none⟩ : Addr) = ⟨f.blk, 0, none⟩ by rw [hoff]]
                obtain ⟨row, h1, h2, _⟩ := storeCells_sound hr hHi hm hxs hst
                have hsb := hst
                unfold storeB at hsb
                simp only at hsb
                split at hsb
                · rename_i hb3
                  obtain ⟨_, hlen3, _⟩ := hb3
                  have hrun := run_append_room (P := P) w t ty e2 inf ht hinf f.blk n (c + f.extra) cc hcc b k cx xs' (by rw [hxl, hisz]) (hxc b rfl) (ones_rel hxs hone) (by omega) (by rw [hisz, hxl', hcsz]; omega)
                  have hst2 := run_storeCells_at P f.blk (n * inf.size) e2 xs' 0 cc w hcc (by rw [hisz, hxl', hcsz]; omega) (ones_rel hxs hone)
                  rw [hoff, Nat.zero_add, ← hisz] at h1
                  rw [h1] at hst2
                  injection hst2 with _ hw
                  simp only [Nat.add_zero] at hrun hw
                  rw [← hw] at hrun
                  refine ⟨_, _, hrun, below_setRow' (Below.refl B0 w) hB _, ?_, h2⟩
                  have := VsRel.slice (m := m) (i := i) (o := 0) (n := n + k) (c := c) (f := f) (a := ⟨f.blk, 0, none⟩) hm hfit (fun _ => by rw [hoff]) .nil
                  exact this
                · cases hsb
            · rename_i hnfit
              split at h
              · rename_i hb
                obtain ⟨hb1, hb2, hb3⟩ := hb
                cases h
                have hmul : n * s ≤ c * s := Nat.mul_le_mul_right _ hn
                have holds : VsRel m (cs.take (n * s)) (cc.toList.take (n * s)) := by
                  refine .of_get (by simp; omega) fun j v hj => ?_
                  have hjs : j < n * s := by
                    have := (List.getElem?_eq_some_iff.1 hj).1
                    simp at this; omega
                  rw [List.getElem?_take_of_lt hjs] at hj
                  obtain ⟨v', h1, h2⟩ := hcs j v hj
                  exact ⟨v', by rw [List.getElem?_take_of_lt hjs]; simpa [hoff] using h1, h2⟩
                by_cases hfit : n + k ≤ c + f.extra
                · -- there is room: in place, under a new name
                  have had := hfa (by omega)
                  subst had
                  rw [show (⟨f.blk, f.off + 0, none⟩ : Addr) = ⟨f.blk, 0, none⟩ by rw [hoff]]
                  have hmul2 : (n + k) * s ≤ (c + f.extra) * s := Nat.mul_le_mul_right _ hfit
                  rw [Nat.add_mul, Nat.add_mul] at hmul2
                  have hrun := run_append_room (P := P) w t ty e2 inf ht hinf f.blk n (c + f.extra) cc hcc b k cx xs' (by rw [hxl, hisz]) (hxc b rfl) (ones_rel hxs hone) hfit (by rw [hisz, hxl, hcsz, ← hb1]; omega)
                  refine ⟨_, _, hrun, below_setRow' (Below.refl B0 w) hB _, fun j hmj hHj => ⟨⟨f.blk, 0, c + f.extra - (n + k)⟩, ?_, ?_⟩⟩
                  · refine (hr.del (by rw [hHi]; simp)).add hmj hHj _ _ (by simp) (fun k hk _ => setRow_other w f.blk k _ hk) (fun i2 c2 g2 hd2 h1 h2 => ?_) ⟨_, e2, (0, 0), setRow_heap w f.blk cc _ e2 _ hcc, fun j v hj => ?_, fun _ => ⟨rfl, rfl, hB, rfl, ?_⟩, fun e => (by cases e), fun e => (by cases e)⟩
                    · have hne : i2 ≠ i := by rintro rfl; simp at h1; exact hd2 h1.symm
                      rw [del_other _ _ _ hne] at h1
                      cases ho : c2.own with
                      | true => exact hr.inj i2 i c2 _ g2 f hne h1 hHi ho rfl h2 hm
                      | false =>
                        have := (hr.blocks i2 c2 g2 h1 h2).ro_lt ho hd2
                        show g2.blk ≠ f.blk
                        omega
                    · rw [hisz, Nat.zero_add]
                      simp only [List.getElem?_toArray]
                      have hap := holds.append hxs
                      obtain ⟨v', h1, h2⟩ := hap.get hj
                      refine ⟨v', ?_, h2⟩
                      rw [List.getElem?_append_left (by have := (List.getElem?_eq_some_iff.1 h1).1; simpa using this)]
                      exact h1
                    · simp only [List.size_toArray, List.length_append, List.length_take, List.length_drop, Array.length_toList, hisz, hxl, hcsz, ← hb1, hcell]
                      rw [hxl', ] at hxl
                      have e5 : (c + f.extra - (n + k)) * s = c * s + f.extra * s - (n * s + k * s) := by rw [Nat.sub_mul, Nat.add_mul, Nat.add_mul]
                      rw [e5]
                      omega
                  · have := VsRel.slice (m := nset m j ⟨f.blk, 0, c + f.extra - (n + k)⟩) (i := j) (o := 0) (n := n + k) (c := n + k) (f := ⟨f.blk, 0, c + f.extra - (n + k)⟩) (a := ⟨f.blk, 0, none⟩)
                      (by simp [nset]) (Nat.le_refl _) (fun _ => rfl) .nil
                    have e2 : n + k + (c + f.extra - (n + k)) = c + f.extra := by omega
                    rw [e2] at this
                    exact this
                · -- a new row
                  have holdc : ∀ (j : Nat) v, (cc.toList.take (n * s))[j]? = some v → w.cell? (ad.add j) = some v := by
                    intro j v hj
                    have hjs : j < n * s := by
                      have := (List.getElem?_eq_some_iff.1 hj).1
                      simp at this; omega
                    have hpos : 0 < n := by
                      rcases Nat.eq_zero_or_pos n with h0 | h0
                      · rw [h0] at hjs; simp at hjs
                      · exact h0
                    rw [hfa (by omega), addr_add, hoff]
                    rw [List.getElem?_take_of_lt hjs] at hj
                    simp only [World.cell?, hcc]
                    simpa using hj
                  have hol : (cc.toList.take (n * s)).length = n * inf.size := by
                    rw [hisz]; simp; omega
                  have hrun := run_append_grow (P := P) w t ty e2 inf z ht hinf hizero ad n (c + f.extra) (cc.toList.take (n * s)) hol holdc b k cx xs' (by rw [hxl, hisz]) (hxc b rfl) (by omega) (by omega) (by rw [hiby]; exact growslice_fits (by omega) hb2)
                  refine ⟨_, _, hrun, ((Below.refl B0 w).drew.alloc (show B0 ≤ w.drew.heap.size from hr.base) _), fun j hmj hHj => ⟨⟨w.heap.size, 0, grownCap w (n + k) (c + f.extra) e2 - (n + k)⟩, ?_, ?_⟩⟩
                  · have hr1 : Rel P B0 m (Ab.del H i) w.drew := (hr.del (by rw [hHi]; simp)).of_heap rfl
                    refine hr1.alloc hmj hHj _ _ _ rfl ⟨_, e2, (0, 0), Go.heap_alloc_new w.drew _, fun j v hj => ?_, fun _ => ⟨rfl, rfl, hr.base, rfl, ?_⟩, fun e => (by cases e), fun e => (by cases e)⟩
                    · have hap := holds.append hxs
                      obtain ⟨v', h1, h2⟩ := hap.get hj
                      refine ⟨v', ?_, h2⟩
                      have hlt : j < (cc.toList.take (n * s) ++ xs').length := (List.getElem?_eq_some_iff.1 h1).1
                      rw [Nat.zero_add, Array.getElem?_append_left (by simpa using hlt)]
                      rw [← h1]
                      simp
                    · have hl1 : (cs.take (n * s)).length = n * s := by simp; omega
                      have hl2 : (cc.toList.take (n * s)).length = n * s := by rw [hol, hisz]
                      simp only [Array.size_append, List.size_toArray, size_zeroCells, hzs, hcell, List.length_append, hl1, hl2, hxl']
                  · have hle := grownCap_ge' w (n + k) (c + f.extra) e2
                    have := VsRel.slice (m := nset m j ⟨w.heap.size, 0, grownCap w (n + k) (c + f.extra) e2 - (n + k)⟩) (i := j) (o := 0) (n := n + k) (c := n + k) (f := ⟨w.heap.size, 0, grownCap w (n + k) (c + f.extra) e2 - (n + k)⟩) (a := ⟨w.heap.size, 0, none⟩)
                      (by simp [nset]) (Nat.le_refl _) (fun _ => rfl) .nil
                    have e3 : n + k + (grownCap w (n + k) (c + f.extra) e2 - (n + k)) = grownCap w (n + k) (c + f.extra) e2 := by omega
                    rw [e3] at this
                    exact this
              · cases h
          · cases h
        · cases h
    · cases h
  · cases h
end
end Go.Ab

/- ABSTRACT MEMORY, 11: copy, clear; calls; one operation. -/
namespace Go.Ab
open Go Go.RowKit
variable [TT]

/-! ### What a call comes to -/
inductive ARes where
  | ret (v : Value)
  | pan (v : Value)
def ResRel (m : NMap) : ARes → Ending → Prop
  | .ret v, e => ∃ v', e = .returned v' ∧ VRel m v v'
  | .pan v, e => ∃ v', e = .panicked [{ v := v', recovered := false }] ∧ VRel m v v'
def LiftR (P : Program) (B0 : Nat) (m : NMap) (H : AHeap) (w : World) (R : ARes → AHeap → Prop) : Ending → World → Prop := fun e w' =>
  ∃ r H' m', R r H' ∧ Ext m H m' H' ∧ Rel P B0 m' H' w' ∧ Below B0 w w' ∧ ResRel m' r e
/-- A call of function f: whatever stands for memory H and these arguments: it ends as R says. -/
def SCalls (P : Program) (f : FuncId) (args : List Value) (H : AHeap) (R : ARes → AHeap → Prop) : Prop :=
  ∀ (B0 : Nat) (m : NMap) (w : World) (args' : List Value), Rel P B0 m H w → VsRel m args args' → ∀ n, CallsIn Fence.wide n P f ⟨args'⟩ w (LiftR P B0 m H w R)
/-- A round of a range over a function. -/
def SRound (P : Program) (l : Nat) (args : List Value) (H : AHeap) (R : ARes → AHeap → Prop) : Prop :=
  ∀ (B0 : Nat) (m : NMap) (w : World) (args' : List Value) (fl : BInfo), Rel P B0 m H w → m l = some fl → VsRel m args args' → ∃ L : Loop, w.heap[fl.blk]? = some (.loop L) ∧ args'.length = L.params.size ∧
    ∀ n, RoundIn Fence.wide n P fl.blk L.fn ((L.params.zip ⟨args'⟩).foldl (fun tmps (t, a) => tmps.setIfInBounds t a) L.tmps) L.assign L.body w (LiftR P B0 m H w R)
theorem SCalls.mono {P : Program} {f : FuncId} {args : List Value} {H : AHeap} {R R' : ARes → AHeap → Prop} (h : SCalls P f args H R) (hr : ∀ r H', R r H' → R' r H') : SCalls P f args H R' :=
  fun B0 m w args' h1 h2 n => (h B0 m w args' h1 h2 n).mono fun _ _ ⟨r, H', m', a, b⟩ => ⟨r, H', m', hr _ _ a, b⟩
theorem SRound.mono {P : Program} {l : Nat} {args : List Value} {H : AHeap} {R R' : ARes → AHeap → Prop} (h : SRound P l args H R) (hr : ∀ r H', R r H' → R' r H') : SRound P l args H R' :=
  fun B0 m w args' fl h1 h2 h3 => let ⟨L, a, b, c⟩ := h B0 m w args' fl h1 h2 h3; ⟨L, a, b, fun n => (c n).mono fun _ _ ⟨r, H', m', a, b⟩ => ⟨r, H', m', hr _ _ a, b⟩⟩

/-- The function has a body, and is entered. -/
def Callable (P : Program) (f : FuncId) : Prop := ∀ (args : Array Value) (w : World), (callFunc f args).run P w = .ok (.enter f args) w

/-- A promoted method's receiver, by value all the way. -/
def aFollow (P : Program) : List FieldStep → TypeId → Value → Option (TypeId × Value)
  | [], t, v => some (t, v)
  | s :: rest, _, v =>
    if s.deref then none else
    match fOff P s.struct s.index, v with
    | some (off, ft), .agg ⟨cs⟩ => (partV P ft cs off).bind fun u => aFollow P rest ft u
    | _, _ => none
def tPtr (P : Program) (t : TypeId) : Option (Option TypeId) := (P.underlying t).map fun | .pointer e => some e | _ => none
def aRecv (P : Program) (t : TypeId) (v : Value) (ptr : Bool) : Option Value :=
  match tPtr P t, ptr with
  | some (some _), true => some v
  | some none, false => some v
  | _, _ => none
/-- The method of a value in an interface. -/
def aMethod (P : Program) (t : TypeId) (v : Value) (name : String) : Option (FuncId × Value) :=
  (P.info? t).bind fun i => (i.methods.find? (·.name == name)).bind fun mth => (aFollow P mth.path.toList t v).bind fun tv =>
    match mth.func with
    | some (f, ptr) => (aRecv P tv.1 tv.2 ptr).map fun r => (f, r)
    | none => none

/-- A call of a function value. -/
def ACall (P : Program) (fv : Value) (args : List Value) (H : AHeap) (R : ARes → AHeap → Prop) : Prop :=
  match fv with
  | .func (.func f) ⟨first⟩ ⟨cap⟩ => Callable P f ∧ SCalls P f (first ++ args ++ cap) H R
  | .func (.yield l) ⟨first⟩ _ => SRound P l (first ++ args) H R
  | .func (.via t path f ptr) ⟨first⟩ _ =>
    match first ++ args with
    | x :: rest => ∃ u, ((aFollow P path.toList t x).bind fun tv => aRecv P tv.1 tv.2 ptr) = some u ∧ Callable P f ∧ SCalls P f (u :: rest) H R
    | [] => False
  | _ => False
/-- A call through an interface value. -/
def AInvoke (P : Program) (recv : Value) (name : String) (args : List Value) (H : AHeap) (R : ARes → AHeap → Prop) : Prop :=
  match recv with
  | .iface t v => ∃ f u, aMethod P t v name = some (f, u) ∧ Callable P f ∧ SCalls P f (u :: args) H R
  | _ => False

section
variable {P : Program} {B0 : Nat} {m : NMap} {H : AHeap} {w w' : World} {a : AAct} {a' : Act}

theorem tPtr_u {t : TypeId} {r : Option TypeId} (h : tPtr P t = some r) : ∃ d, P.underlying t = some d ∧ r = (match d with | .pointer e => some e | _ => none) := by
  have _ := TT.tt
  unfold tPtr at h
  cases hu : P.underlying t with
  | none => rw [hu] at h; cases h
  | some d => rw [hu] at h; simp at h; exact ⟨d, rfl, h.symm⟩

theorem aFollow_sound {path : List FieldStep} {t t2 : TypeId} {v v' u : Value} (hv : VRel m v v') (h : aFollow P path t v = some (t2, u)) :
    ∃ u', (follow path t (.val v')).run P w = .ok (t2, .val u') w ∧ VRel m u u' := by
  induction path generalizing t v v' with
  | nil => cases h; exact ⟨v', rfl, hv⟩
  | cons s rest ih =>
    simp only [aFollow] at h
    split at h
    · cases h
    · rename_i hd
      split at h
      · rename_i off ft cs hf
        obtain ⟨u1, hp, hfol⟩ := option_bind_some h
        obtain ⟨cs', rfl, hcs⟩ := hv.agg_inv
        obtain ⟨fs, fd, sz, hu, hfd, ho, hft, hsz, hz⟩ := fOff_u hf
        subst ho; subst hft
        obtain ⟨u1', h1, h2⟩ := partV_sound (w := w) hcs hp
        obtain ⟨u', h3, h4⟩ := ih h2 hfol
        exact ⟨u', by simp [follow, run_underlying hu, hfd, hd, h1, h3], h4⟩
      · cases h

theorem aRecv_sound {t : TypeId} {v v' u : Value} {ptr : Bool} {wr : Option String} (hv : VRel m v v') (h : aRecv P t v ptr = some u) :
    ∃ u', (receiverAt t (.val v') ptr wr).run P w = .ok u' w ∧ VRel m u u' := by
  unfold aRecv at h
  split at h
  · rename_i e hp
    cases h
    obtain ⟨d, hd, hr⟩ := tPtr_u hp
    cases d <;> simp at hr
    exact ⟨v', by simp [receiverAt, run_underlying hd, Place.get], hv⟩
  · rename_i hp
    cases h
    obtain ⟨d, hd, hr⟩ := tPtr_u hp
    cases d <;> simp at hr <;> exact ⟨v', by simp [receiverAt, run_underlying hd, Place.get], hv⟩
  · cases h

theorem aMethod_sound {t : TypeId} {v v' u : Value} {name : String} {f : FuncId} (k : Nat) (hv : VRel m v v') (h : aMethod P t v name = some (f, u)) :
    ∃ u', (method (k + 1) t v' name).run P w = .ok (f, u') w ∧ VRel m u u' := by
  unfold aMethod at h
  obtain ⟨i, hi, h⟩ := option_bind_some h
  obtain ⟨mth, hm, h⟩ := option_bind_some h
  obtain ⟨tv, htv, h⟩ := option_bind_some h
  split at h
  · rename_i f' ptr hf
    cases hr : aRecv P tv.1 tv.2 ptr with
    | none => rw [hr] at h; cases h
    | some r =>
      rw [hr] at h
      cases h
      obtain ⟨u1, h1, h2⟩ := aFollow_sound (w := w) (t2 := tv.1) (u := tv.2) hv htv
      obtain ⟨u', h3, h4⟩ := aRecv_sound (w := w) (wr := if mth.path.isEmpty then some ((name.splitOn ".").getLastD name) else none) h2 hr
      exact ⟨u', by simp only [method, Sem.run_bind, typeInfo, run_program, Result.andThen_ok, hi, Sem.run_pure, hm, h1, hf, h3], h4⟩
  · cases h
end

/-! ### Copy, clear -/
def aCopy (P : Program) (H : AHeap) (t st : TypeId) (d x : Value) : Option (Nat × Option (Nat × ABlk)) :=
  if st = t then
    (tSlice P t).bind fun e => (tSize P e).bind fun s => (sliceCells H s x).bind fun kx =>
      match d with
      | .slice none 0 0 => some (0, none)
      | .slice (some ⟨i, o, none⟩) n _ =>
        if kx.1 = 0 ∨ n = 0 then some (0, none)
        else (H i).bind fun b => (storeB b o (kx.2.take (min kx.1 n * s))).map fun b' => (min kx.1 n, some (i, b'))
      | _ => none
  else none
def aClear (P : Program) (H : AHeap) (t : TypeId) (d : Value) : Option (Option (Nat × ABlk)) :=
  match d with
  | .slice none 0 0 => if (tSlice P t).isSome then some none else none
  | .slice (some ⟨i, o, none⟩) n _ =>
    if n = 0 then (if (tSlice P t).isSome then some none else none)
    else (tSlice P t).bind fun e => (tZero P e).bind fun z => (H i).bind fun b => if z.cells.toList.all atomic ∧ 0 < z.cells.size then (storeB b o (zCells z.cells.toList (n * z.cells.size))).map fun b' => some (i, b') else none
  | _ => none
def updO (H : AHeap) : Option (Nat × ABlk) → AHeap
  | none => H
  | some (i, b) => upd H i b

section
variable {P : Program} {B0 : Nat} {m : NMap} {H : AHeap} {w w' : World} {a : AAct} {a' : Act}
theorem aCopy_sound {t st ty : TypeId} {d d' x x' : Value} {k : Nat} {u : Option (Nat × ABlk)} (hr : Rel P B0 m H w) (hd : VRel m d d') (hx : VRel m x x') (h : aCopy P H t st d x = some (k, u)) :
    ∃ w', (Builtin.copy_ #[t, st] ty #[d', x']).run P w = .ok (.int .i64 k) w' ∧ Below B0 w w' ∧ Rel P B0 m (updO H u) w' := by
  unfold aCopy at h
  split at h
  · rename_i hst
    subst hst
    obtain ⟨e, he, h1⟩ := option_bind_some h
    clear h
    obtain ⟨s, hs, h2⟩ := option_bind_some h1
    clear h1
    obtain ⟨kx, hkx, h⟩ := option_bind_some h2
    clear h2
    obtain ⟨kk, xs⟩ := kx
    simp only at h
    have ht := tSlice_u he
    obtain ⟨ax, cx, xs', rfl, hax, hxs, hxl, hxc⟩ := sliceCells_sound hr hx hkx
    have nothing : ∀ ad n c, (kk = 0 ∨ n = 0) → (Builtin.copy_ #[st, st] ty #[.slice ad n c, .slice ax kk cx]).run P w = .ok (.int .i64 0) w := by
      intro ad n c h0
      have hm : Nat.min kk n = 0 := by rcases h0 with h0 | h0 <;> simp [h0]
      cases ad <;> cases ax <;> simp [Builtin.copy_, run_underlying ht, Builtin.lenOf, hm, Builtin.firstCells, run_sizeOf_t w hs, loadCells, loadCellsFrom, storeCells, goInt]
    split at h
    · have hdn := hd.eq_of_atomic rfl
      subst hdn
      cases h
      exact ⟨w, nothing none 0 0 (.inr rfl), Below.refl _ _, hr⟩
    · rename_i i o n c
      obtain ⟨f, ad, hm, hn, hfa, rfl⟩ := hd.slice_inv
      split at h
      · rename_i h0
        cases h
        exact ⟨w, nothing _ _ _ h0, Below.refl _ _, hr⟩
      · rename_i h0
        obtain ⟨b, hb, h3⟩ := option_bind_some h
        cases hsb : storeB b o (xs.take (min kk n * s)) with
        | none => rw [hsb] at h3; cases h3
        | some b' =>
          rw [hsb] at h3
          cases h3
          obtain ⟨row, h4, h5, hB⟩ := storeCells_sound hr hb hm (hxs.take (min kk n * s)) hsb
          have had := hfa (by omega)
          subst had
          obtain ⟨bx, rfl⟩ : ∃ bx, ax = some bx := by
            cases ax with
            | none => exact absurd (hax rfl) (by omega)
            | some bx => exact ⟨bx, rfl⟩
          have hln : (xs'.take (min kk n * s)).length = min kk n * s := by
            rw [List.length_take, hxl]
            have : min kk n * s ≤ kk * s := Nat.mul_le_mul_right _ (by omega)
            omega
          have hload := run_loadCells_list (P := P) w bx (xs'.take (min kk n * s)) (fun j v hj => hxc bx rfl j v (by
            have := (List.getElem?_eq_some_iff.1 hj).1
            rw [List.getElem?_take_of_lt (by simp at this; omega)] at hj
            exact hj))
          rw [hln] at hload
          refine ⟨_, ?_, below_setRow' (Below.refl B0 w) hB row, h5⟩
          simp only [Builtin.copy_, List.getElem?_toArray, List.getElem?_cons_zero, List.getElem?_cons_succ, Sem.run_bind, run_underlying ht, Result.andThen_ok, Builtin.lenOf, Sem.run_pure, Builtin.firstCells, run_sizeOf_t w hs]
          rw [show Nat.min kk n = min kk n from rfl, hload]
          simp only [Result.andThen_ok, h4, goInt]
    · cases h
  · cases h

theorem aClear_sound {t ty : TypeId} {d d' : Value} {u : Option (Nat × ABlk)} (hr : Rel P B0 m H w) (hd : VRel m d d') (h : aClear P H t d = some u) :
    ∃ w', (Builtin.clear_ #[t] ty #[d']).run P w = .ok (.tuple #[]) w' ∧ Below B0 w w' ∧ Rel P B0 m (updO H u) w' := by
  unfold aClear at h
  split at h
  · have hdn := hd.eq_of_atomic rfl
    subst hdn
    split at h
    · rename_i hs
      cases h
      obtain ⟨e, he⟩ := Option.isSome_iff_exists.1 hs
      exact ⟨w, by simp [Builtin.clear_, run_underlying (tSlice_u he)], Below.refl _ _, hr⟩
    · cases h
  · rename_i i o n c
    obtain ⟨f, ad, hm, hn, hfa, rfl⟩ := hd.slice_inv
    split at h
    · rename_i h0
      subst h0
      split at h
      · rename_i hs
        cases h
        obtain ⟨e, he⟩ := Option.isSome_iff_exists.1 hs
        exact ⟨w, by simp [Builtin.clear_, run_underlying (tSlice_u he)], Below.refl _ _, hr⟩
      · cases h
    · rename_i h0
      obtain ⟨e, he, h1⟩ := option_bind_some h
      clear h
      obtain ⟨z, hz, h2⟩ := option_bind_some h1
      clear h1
      obtain ⟨b, hb, h⟩ := option_bind_some h2
      clear h2
      split at h
      · rename_i hzz
        obtain ⟨hz1, hz2⟩ := hzz
        cases hsb : storeB b o (zCells z.cells.toList (n * z.cells.size)) with
        | none => rw [hsb] at h; cases h
        | some b' =>
          rw [hsb] at h
          cases h
          obtain ⟨row, h4, h5, hB⟩ := storeCells_sound hr hb hm (zCells_rel (m := m) (n := n * z.cells.size) fun v hv => List.all_eq_true.1 hz1 v hv) hsb
          have had := hfa (by omega)
          subst had
          refine ⟨_, ?_, below_setRow' (Below.refl B0 w) hB row, h5⟩
          obtain ⟨n', rfl⟩ : ∃ n', n = n' + 1 := ⟨n - 1, by omega⟩
          have hzc : (Builtin.zeroCells z.cells (n' + 1)).toList = zCells z.cells.toList ((n' + 1) * z.cells.size) := by
            unfold Builtin.zeroCells
            exact zCells_eq (.inr hz2)
          simp only [Builtin.clear_, List.getElem?_toArray, List.getElem?_cons_zero, Sem.run_bind, run_underlying (tSlice_u he), Result.andThen_ok, run_zeroValue_t w hz, hzc, h4, Sem.run_pure]
      · cases h
  · cases h
end
end Go.Ab

/- ABSTRACT MEMORY, 12: one operation, a region in the text's order. -/
namespace Go.Ab
open Go Go.RowKit
variable [TT]

inductive AExit where
  | normal
  | exit (id : Nat)
  | goto (l : Nat)
  | ret
  | panic (v : Value)
def ExRel (m : NMap) : AExit → Exit → Prop
  | .normal, e => e = .normal
  | .exit id, e => e = .exit id
  | .goto l, e => e = .goto l
  | .ret, e => e = .ret
  | .panic v, e => ∃ v', e = .panic [{ v := v', recovered := false }] ∧ VRel m v v'
def LiftQ (P : Program) (B0 : Nat) (m : NMap) (H : AHeap) (w : World) (Q : AExit → AAct → AHeap → Prop) : Exit → Act → World → Prop := fun e a' w' =>
  ∃ x a H' m', Q x a H' ∧ Ext m H m' H' ∧ Rel P B0 m' H' w' ∧ ARel m' a a' ∧ Below B0 w w' ∧ ExRel m' x e
/-- In which fence a body is walked: of a function, or of a round of the loop of that name. -/
def FRel (m : NMap) : Option Nat → Fence → Prop
  | none, F => F = Fence.wide
  | some l, F => ∃ f, m l = some f ∧ F = Fence.wide.inRound f.blk
theorem FRel.mono {m m' : NMap} (h : m.le m') {ro : Option Nat} {F : Fence} (hf : FRel m ro F) : FRel m' ro F := by
  have _ := TT.tt
  cases ro with
  | none => exact hf
  | some l => obtain ⟨f, h1, h2⟩ := hf; exact ⟨f, h _ _ h1, h2⟩

def bindO {α : Type} (o : Option α) (k : α → Prop) : Prop := ∃ x, o = some x ∧ k x
@[simp] theorem bindO_some {α : Type} (x : α) (k : α → Prop) : bindO (some x) k = k x := by have _ := TT.tt; simp [bindO]
@[simp] theorem bindO_none {α : Type} (k : α → Prop) : bindO none k = False := by have _ := TT.tt; simp [bindO]

/-- What a call hands on. -/
def onRes (K : Value → AHeap → Prop) (X : Value → AHeap → Prop) : ARes → AHeap → Prop
  | .ret v, H => K v H
  | .pan v, H => X v H

/-- An operation that neither only computes nor makes a block. -/
def AEff (P : Program) (ro : Option Nat) (a : AAct) (H : AHeap) (dst : Option Tmp) (K : AAct → AHeap → Prop) (X : Value → AHeap → Prop) : Op → Prop
  | .store t x y => bindO (a.eval P x) fun u => bindO (a.eval P y) fun v =>
      match u with
      | .pointer (some ⟨i, o, none⟩) => tSize P t = some v.cells.size ∧ bindO ((H i).bind fun b => storeB b o v.cells.toList) fun b => K (a.put dst undef) (upd H i b)
      | _ => False
  | .call c =>
    match c.callee with
    | .value f => bindO (a.eval P f) fun fv => bindO (evs (a.eval P) c.args.toList) fun vs => ACall P fv vs H (onRes (fun v H' => K (a.put dst v) H') X)
    | .invoke r name => bindO (a.eval P r) fun rv => bindO (evs (a.eval P) c.args.toList) fun vs => AInvoke P rv name vs H (onRes (fun v H' => K (a.put dst v) H') X)
    | .builtin .append =>
      match c.args.toList, c.argTypes.toList with
      | [x, y], [t, t'] => t' = t ∧ bindO (a.eval P x) fun u => bindO (a.eval P y) fun v => bindO (aAppend P H t u v) fun r =>
          match r with
          | .same v => K (a.put dst v) H
          | .inpl v i b => K (a.put dst v) (upd H i b)
          | .grow H' n b => pick H' fun j => K (a.put dst (.slice (some ⟨j, 0, none⟩) n n)) (upd H' j b)
      | _, _ => False
    | .builtin .copy =>
      match c.args.toList, c.argTypes.toList with
      | [x, y], [t, t'] => bindO (a.eval P x) fun u => bindO (a.eval P y) fun v => bindO (aCopy P H t t' u v) fun r => K (a.put dst (.int .i64 r.1)) (updO H r.2)
      | _, _ => False
    | .builtin .clear =>
      match c.args.toList, c.argTypes.toList with
      | [x], [t] => bindO (a.eval P x) fun u => bindO (aClear P H t u) fun r => K (a.put dst (.tuple #[])) (updO H r)
      | _, _ => False
    | .builtin .panic =>
      match c.args.toList with
      | [x] => bindO (a.eval P x) fun u => match u with | .iface t v => X (.iface t v) H | _ => False
      | _ => False
    | _ => False
  | .panic x => bindO (a.eval P x) fun u => match u with | .iface t v => X (.iface t v) H | _ => False
  | .mapUpdate t x k y | .insert t x k y => bindO (a.eval P x) fun u => bindO (a.eval P k) fun kv => bindO (a.eval P y) fun v => bindO (mapSet P H t u kv v) fun r => K (a.put dst undef) (upd H r.1 r.2)
  | .defer c =>
    ro = none ∧
    match c.callee with
    | .value f => bindO (a.eval P f) fun fv => bindO (evs (a.eval P) c.args.toList) fun vs =>
        match fv with
        | .func fn ⟨first⟩ cap => K ({ a with defers := ⟨.fn fn cap, ⟨first ++ vs⟩⟩ :: a.defers }.put dst undef) H
        | _ => False
    | _ => False
  | _ => False

def AOp (P : Program) (ro : Option Nat) (a : AAct) (H : AHeap) (dst : Option Tmp) (op : Op) (K : AAct → AHeap → Prop) (X : Value → AHeap → Prop) : Prop :=
  match aPure P (a.eval P) H op with
  | some v => K (a.put dst v) H
  | none =>
    match aAlloc P (a.eval P) op with
    | some (b, mk) => pick H fun i => K (a.put dst (mk i)) (upd H i b)
    | none => AEff P ro a H dst K X op

section
variable {P : Program} {B0 : Nat} {m : NMap} {H : AHeap} {w w' : World} {a : AAct} {a' : Act}

theorem LiftQ.trans {m1 : NMap} {H1 : AHeap} {w1 w2 : World} {Q : AExit → AAct → AHeap → Prop} {e : Exit} {a' : Act} (hm : Ext m H m1 H1) (hb : Below B0 w w1) (h : LiftQ P B0 m1 H1 w1 Q e a' w2) : LiftQ P B0 m H w Q e a' w2 := by
  obtain ⟨x, a, H', m', hq, hmm, hr, ha, hB, hx⟩ := h
  exact ⟨x, a, H', m', hq, hm.trans hmm, hr, ha, hb.trans hB, hx⟩
theorem LiftR.trans {m1 : NMap} {H1 : AHeap} {w1 w2 : World} {R : ARes → AHeap → Prop} {e : Ending} (hm : Ext m H m1 H1) (hb : Below B0 w w1) (h : LiftR P B0 m1 H1 w1 R e w2) : LiftR P B0 m H w R e w2 := by
  obtain ⟨r, H', m', hq, hmm, hr, hB, hx⟩ := h
  exact ⟨r, H', m', hq, hm.trans hmm, hr, hb.trans hB, hx⟩

/-- What the rest of a region has to know, lifted. -/
def LiftK (P : Program) (B0 : Nat) (m : NMap) (H : AHeap) (w : World) (K : AAct → AHeap → Prop) : Act → World → Prop := fun a' w' =>
  ∃ a H' m', K a H' ∧ Ext m H m' H' ∧ Rel P B0 m' H' w' ∧ ARel m' a a' ∧ Below B0 w w'

theorem semAt_exec {ro : Option Nat} {o : Oper} {ρ : Operand → Value} (h : ∀ c, o.op ≠ .defer c) : Oper.semAt ro ρ o = execOp ρ o := have _ := TT.tt; Oper.semAt_eq ro ρ o h

theorem FRel.calls {ro : Option Nat} {F : Fence} (hf : FRel m ro F) {n : Nat} {f : FuncId} {args : Array Value} {R : Ending → World → Prop} (h : CallsIn Fence.wide n P f args w R) : CallsIn F n P f args w R := by
  have _ := TT.tt
  cases ro with
  | none => cases hf; exact h
  | some l => obtain ⟨f, _, rfl⟩ := hf; exact h
theorem FRel.round {ro : Option Nat} {F : Fence} (hf : FRel m ro F) {n l : Nat} {f : FuncId} {tmps : Array Value} {c d : Code} {R : Ending → World → Prop} (h : RoundIn Fence.wide n P l f tmps c d w R) : RoundIn F n P l f tmps c d w R := by
  have _ := TT.tt
  cases ro with
  | none => cases hf; exact h
  | some l => obtain ⟨f, _, rfl⟩ := hf; exact h
theorem FRel.fn {ro : Option Nat} {F : Fence} (hf : FRel m ro F) (g : FuncId) : F.fn g := by
  have _ := TT.tt
  cases ro with
  | none => cases hf; trivial
  | some l => obtain ⟨f, _, rfl⟩ := hf; trivial
theorem FRel.depth {ro : Option Nat} {F : Fence} (hf : FRel m ro F) : F.depth = none := by
  have _ := TT.tt
  cases ro with
  | none => cases hf; rfl
  | some l => obtain ⟨f, _, rfl⟩ := hf; rfl

/-- A call, once it is known what the machine does with it. -/
theorem call_upon (ha : ARel m a a') {o : Oper} {K : AAct → AHeap → Prop} {X : Value → AHeap → Prop} {Q : Exit → Act → World → Prop} {next : Act → World → Prop}
    (hnext : ∀ a1 w1, LiftK P B0 m H w K a1 w1 → next a1 w1) (hX : ∀ v v' H' m' w1, X v H' → Ext m H m' H' → Rel P B0 m' H' w1 → Below B0 w w1 → VRel m' v v' → Q (.panic [{ v := v', recovered := false }]) a' w1)
    {e : Ending} {w1 : World} (h : LiftR P B0 m H w (onRes (fun v H' => K (a.put o.dst v) H') X) e w1) :
    (∃ v, e = .returned v ∧ next (a'.put o.dst v) w1) ∨ ∃ chain, e = .panicked chain ∧ Q (.panic chain) a' w1 := by
  obtain ⟨r, H', m', hq, hm, hr, hB, hx⟩ := h
  cases r with
  | ret v =>
    obtain ⟨v', rfl, hv⟩ := hx
    exact .inl ⟨v', rfl, hnext _ _ ⟨_, H', m', hq, hm, hr, put_sound (ha.mono hm.le) hv, hB⟩⟩
  | pan v =>
    obtain ⟨v', rfl, hv⟩ := hx
    exact .inr ⟨_, rfl, hX v v' H' m' w1 hq hm hr hB hv⟩

theorem grow_none {t : TypeId} {d x : Value} {H' : AHeap} {n : Nat} {b : ABlk} (h : aAppend P H t d x = some (.grow H' n b)) {j : Nat} : H' j = none ↔ H j = none := by
  have _ := TT.tt
  unfold aAppend at h
  obtain ⟨e, he, h1⟩ := option_bind_some h
  clear h
  obtain ⟨s, hs, h2⟩ := option_bind_some h1
  clear h1
  obtain ⟨by_, hby, h3⟩ := option_bind_some h2
  clear h2
  obtain ⟨z, hz, h4⟩ := option_bind_some h3
  clear h3
  obtain ⟨kx, hkx, h⟩ := option_bind_some h4
  clear h4
  split at h
  · split at h
    · split at h
      · cases h
      · split at h
        · cases h; exact Iff.rfl
        · cases h
    · split at h
      · cases h
      · split at h
        · split at h
          · split at h
            · rename_i i n' c _ _ _ _ _ _
              cases hsb : storeB (.cells _ e .row) (_ * s) kx.2 with
              | none => rw [hsb] at h; cases h
              | some b' => rw [hsb] at h; cases h
            · split at h
              · cases h
                simp only [del]
                split
                · rename_i hHi _ _ _ e; subst e; simp [hHi]
                · exact Iff.rfl
              · cases h
          · cases h
        · cases h
    · cases h
  · cases h

theorem Ext.del {m : NMap} (H : AHeap) (i : Nat) : Ext m H m (Ab.del H i) := ⟨m.le_refl, fun _ j hj => ⟨rfl, by simp only [Ab.del]; split <;> simp_all⟩⟩
theorem Ext.updO (m : NMap) (H : AHeap) (o : Option (Nat × ABlk)) : Ext m H m (Ab.updO H o) := by
  cases o with
  | none => exact Ext.refl _ _
  | some x => exact Ext.upd _ _ _ _
theorem grow_ext {t : TypeId} {d x : Value} {H' : AHeap} {n : Nat} {b : ABlk} (h : aAppend P H t d x = some (.grow H' n b)) : Ext m H m H' :=
  ⟨m.le_refl, fun _ _ hi => ⟨rfl, fun e => hi ((grow_none h).1 e)⟩⟩
theorem resolve_value {f : Operand} {c : Call} {ty : TypeId} {fn : Fn} {u cp : Array Value} (hc : c.callee = .value f) (hv : a'.eval f = .func fn u cp) :
    (resolve a'.eval c ty).run P w = .ok { target := .fn fn cp, args := u ++ c.args.map a'.eval } w := by
  have _ := TT.tt
  simp [resolve, hc, Deferred.ofValue, hv]

theorem AOp_sound {ro : Option Nat} {F : Fence} (hf : FRel m ro F) (hr : Rel P B0 m H w) (ha : ARel m a a') {n : Nat} {o : Oper} {K : AAct → AHeap → Prop} {X : Value → AHeap → Prop} {Q : Exit → Act → World → Prop} {next : Act → World → Prop}
    (hnext : ∀ a1 w1, LiftK P B0 m H w K a1 w1 → next a1 w1) (hX : ∀ v v' H' m' w1, X v H' → Ext m H m' H' → Rel P B0 m' H' w1 → Below B0 w w1 → VRel m' v v' → Q (.panic [{ v := v', recovered := false }]) a' w1)
    (h : AOp P ro a H o.dst o.op K X) : o.wpIn F n P a' w next Q := by
  refine ⟨fun f _ => hf.fn f, ?_⟩
  have ndepth : F.depth.isSome = true → 1 ≤ n := fun h => by rw [hf.depth] at h; cases h
  unfold AOp at h
  split at h
  · -- it computes
    rename_i v hv
    obtain ⟨v', h1, h2⟩ := aPure_sound hr ha hv
    rw [semAt_exec (by rintro c hc; rw [hc] at hv; simp [aPure] at hv), h1]
    exact hnext _ _ ⟨_, H, m, h, Ext.refl _ _, hr, put_sound ha h2, Below.refl _ _⟩
  · rename_i hpn
    clear hpn
    split at h
    · -- it makes a block
      rename_i b mk hal
      obtain ⟨i, hmi, hHi, hK⟩ := hr.pick h
      obtain ⟨v', ob, f, h1, h2, h3⟩ := aAlloc_sound hr ha hal hmi hHi
      rw [semAt_exec (by rintro c hc; rw [hc] at hal; simp [aAlloc] at hal), h1]
      exact hnext _ _ ⟨_, _, _, hK, Ext.new hmi hHi, h2, put_sound (ha.mono (nset_le hmi)) h3, (Below.refl B0 w).alloc hr.base _⟩
    · rename_i han
      clear han
      obtain ⟨dst, op, ty, pos, aft, gd⟩ := o
      simp only at h
      have next1 : ∀ (v v' : Value) (H' : AHeap) (w1 : World), K (a.put dst v) H' → VRel m v v' → Ext m H m H' → Rel P B0 m H' w1 → Below B0 w w1 → next (a'.put dst v') w1 :=
        fun v v' H' w1 hk hv he hrr hB => hnext _ _ ⟨_, H', m, hk, he, hrr, put_sound ha hv, hB⟩
      cases op with
      | store t x y =>
        obtain ⟨u, hu, h⟩ := h
        obtain ⟨v, hv, h⟩ := h
        split at h
        · rename_i i o
          obtain ⟨hsz, b, hb, hk⟩ := h
          obtain ⟨b0, hb0, hsb⟩ := option_bind_some hb
          obtain ⟨f, hm, hx'⟩ := (eval_sound hr ha hu).ptr_inv
          have hv' := eval_sound hr ha hv
          obtain ⟨row, h1, h2, hB⟩ := storeCells_sound hr hb0 hm hv'.cells hsb
          have hcl := hv'.cells.length
          simp only [Array.length_toList] at hcl
          have hst : (storeVar t ⟨f.blk, f.off + o, none⟩ (a'.eval y)).run P w = .ok () (w.setRow f.blk row) := by
            simp only [storeVar, Sem.run_bind, run_sizeOf_t w hsz, Result.andThen_ok, hcl]
            simp [h1]
          have hrun : (execOp a'.eval ⟨dst, .store t x y, ty, pos, aft, gd⟩).run P w = .ok .skip (w.setRow f.blk row) := by
            simp only [execOp, Instr.storeAt, Instr.sureAddr, hx', Sem.run_bind, Sem.run_pure, Result.andThen_ok, hst]
          rw [semAt_exec (by rintro c hc; cases hc), hrun]
          exact next1 _ _ _ _ hk (.tuple .nil .nil) (Ext.upd _ _ _ _) h2 (below_setRow' (Below.refl B0 w) hB row)
        · exact h.elim
      | mapUpdate t x k y =>
        obtain ⟨u, hu, kv, hkv, v, hv, r, hms, hk⟩ := h
        obtain ⟨w1, h1, hB, h2⟩ := mapSet_sound hr (eval_sound hr ha hu) (eval_sound hr ha hkv) (eval_sound hr ha hv) (i := r.1) (b := r.2) hms
        have hrun : (execOp a'.eval ⟨dst, .mapUpdate t x k y, ty, pos, aft, gd⟩).run P w = .ok .skip w1 := by simp only [execOp, Sem.run_bind, h1, Result.andThen_ok, Sem.run_pure]
        rw [semAt_exec (by rintro c hc; cases hc), hrun]
        exact next1 _ _ _ _ hk (.tuple .nil .nil) (Ext.upd _ _ _ _) h2 hB
      | insert t x k y =>
        obtain ⟨u, hu, kv, hkv, v, hv, r, hms, hk⟩ := h
        obtain ⟨w1, h1, hB, h2⟩ := mapSet_sound hr (eval_sound hr ha hu) (eval_sound hr ha hkv) (eval_sound hr ha hv) (i := r.1) (b := r.2) hms
        have hrun : (execOp a'.eval ⟨dst, .insert t x k y, ty, pos, aft, gd⟩).run P w = .ok .skip w1 := by simp only [execOp, Sem.run_bind, h1, Result.andThen_ok, Sem.run_pure]
        rw [semAt_exec (by rintro c hc; cases hc), hrun]
        exact next1 _ _ _ _ hk (.tuple .nil .nil) (Ext.upd _ _ _ _) h2 hB
      | panic x =>
        obtain ⟨u, hu, h⟩ := h
        split at h
        · rename_i t v
          obtain ⟨u', hx', hv⟩ := (eval_sound hr ha hu).iface_inv
          have hrun : (execOp a'.eval ⟨dst, .panic x, ty, pos, aft, gd⟩).run P w = .halt (.panic (.iface t u')) w := by
            simp [execOp, hx', Instr.panic]
          rw [semAt_exec (by rintro c hc; cases hc), hrun]
          exact hX _ _ H m w h (Ext.refl _ _) hr (Below.refl _ _) (.iface hv .nil)
        · exact h.elim
      | defer c =>
        obtain ⟨hro, h⟩ := h
        subst hro
        cases hf
        obtain ⟨callee, args, argTypes⟩ := c
        cases callee with
        | value f =>
          obtain ⟨fv, hfv, h⟩ := h
          obtain ⟨vs, hvs, h⟩ := h
          split at h
          · rename_i fn first cap
            obtain ⟨fn', u', c', e, hfn, hu, hc⟩ := VRel.func_inv (u := first) (c := cap.toList) (eval_sound hr ha hfv)
            have hres := resolve_value (P := P) (w := w) (a' := a') (c := ⟨.value f, args, argTypes⟩) (ty := ty) rfl e
            have hrun : (execOp a'.eval ⟨dst, .defer ⟨.value f, args, argTypes⟩, ty, pos, aft, gd⟩).run P w = .ok (.defer { target := .fn fn' ⟨c'⟩, args := ⟨u'⟩ ++ args.map a'.eval }) w := by
              simp only [execOp, Sem.run_bind, hres, Result.andThen_ok, Sem.run_pure]
            show Oper.uponIn _ _ _ _ _ _ _ ((Oper.semAt none _ _).run P w)
            rw [Oper.semAt_none, hrun]
            have hvs' := evs_sound hr ha hvs
            have e1 : ((⟨u'⟩ : Array Value) ++ args.map a'.eval) = ⟨u' ++ args.toList.map a'.eval⟩ := by apply Array.ext'; simp
            rw [e1]
            have key : ARel m { a with defers := ⟨.fn fn cap, ⟨first ++ vs⟩⟩ :: a.defers } { a' with defers := { target := .fn fn' ⟨c'⟩, args := ⟨u' ++ args.toList.map a'.eval⟩ } :: a'.defers } := ⟨ha.1, .fn hfn hc (hu.append hvs') ha.2⟩
            exact hnext _ _ ⟨_, H, m, h, Ext.refl _ _, hr, put_sound key (.tuple .nil .nil), Below.refl _ _⟩
          · exact h.elim
        | _ => exact h.elim
      | call c =>
        rw [semAt_exec (by rintro c hc; cases hc)]
        obtain ⟨callee, args, argTypes⟩ := c
        cases callee with
        | value f =>
          obtain ⟨fv, hfv, h⟩ := h
          obtain ⟨vs, hvs, h⟩ := h
          have hvs' := evs_sound hr ha hvs
          have hfv' := eval_sound hr ha hfv
          unfold ACall at h
          split at h
          · rename_i g first cap
            obtain ⟨hcall, h⟩ := h
            obtain ⟨fn', u', c', e, hfn, hu, hc⟩ := hfv'.func_inv
            cases hfn
            have hres := resolve_value (P := P) (w := w) (a' := a') (c := ⟨.value f, args, argTypes⟩) (ty := ty) rfl e
            have e1 : (((⟨u'⟩ : Array Value) ++ args.map a'.eval) ++ ⟨c'⟩) = ⟨u' ++ args.toList.map a'.eval ++ c'⟩ := by apply Array.ext'; simp
            have hrun : (execOp a'.eval ⟨dst, .call ⟨.value f, args, argTypes⟩, ty, pos, aft, gd⟩).run P w = .ok (.enter g ⟨u' ++ args.toList.map a'.eval ++ c'⟩) w := by
              simp only [execOp, Sem.run_bind, hres, Result.andThen_ok, invoke, e1]
              exact hcall _ _
            rw [hrun]
            refine ⟨ndepth, hf.calls ((h B0 m w _ hr ((hu.append hvs').append hc) (n - 1)).mono fun e w1 hl => ?_)⟩
            rcases call_upon (o := ⟨dst, .call ⟨.value f, args, argTypes⟩, ty, pos, aft, gd⟩) ha hnext hX hl with ⟨v, rfl, h⟩ | ⟨ch, rfl, h⟩ <;> exact h
          · rename_i l first cap
            obtain ⟨fn', u', c', e, hfn, hu, hc⟩ := VRel.func_inv (u := first) (c := cap.toList) hfv'
            cases hfn with
            | @yield _ fl hl =>
              have hres := resolve_value (P := P) (w := w) (a' := a') (c := ⟨.value f, args, argTypes⟩) (ty := ty) rfl e
              have e1 : ((⟨u'⟩ : Array Value) ++ args.map a'.eval) = ⟨u' ++ args.toList.map a'.eval⟩ := by apply Array.ext'; simp
              obtain ⟨L, hL, hsz, hround⟩ := h B0 m w _ fl hr hl (hu.append hvs')
              have hy := run_yield (P := P) (args := ⟨u' ++ args.toList.map a'.eval⟩) hL (by simpa using hsz)
              have hrun : (execOp a'.eval ⟨dst, .call ⟨.value f, args, argTypes⟩, ty, pos, aft, gd⟩).run P w = .ok (.round fl.blk L.fn ((L.params.zip ⟨u' ++ args.toList.map a'.eval⟩).foldl (fun tmps (t, a) => tmps.setIfInBounds t a) L.tmps) L.assign L.body) w := by
                simp only [execOp, Sem.run_bind, hres, Result.andThen_ok, invoke, e1, hy]
              rw [hrun]
              refine ⟨ndepth, hf.round ((hround (n - 1)).mono fun e w1 hl => ?_)⟩
              rcases call_upon (o := ⟨dst, .call ⟨.value f, args, argTypes⟩, ty, pos, aft, gd⟩) ha hnext hX hl with ⟨v, rfl, h⟩ | ⟨ch, rfl, h⟩ <;> exact h
          · rename_i t path g ptr first cap
            obtain ⟨fn', u', c', e, hfn, hu, hc⟩ := VRel.func_inv (u := first) (c := cap.toList) hfv'
            cases hfn
            have hres := resolve_value (P := P) (w := w) (a' := a') (c := ⟨.value f, args, argTypes⟩) (ty := ty) rfl e
            split at h
            · rename_i x rest hxr
              obtain ⟨u2, hu2, hcall, h⟩ := h
              obtain ⟨tv, htv, hrv⟩ := option_bind_some hu2
              have hall := hu.append hvs'
              rw [hxr] at hall
              obtain ⟨x', rest', exr, hx', hrest⟩ := hall.uncons
              obtain ⟨q1, h1, h2⟩ := aFollow_sound (P := P) (w := w) (t2 := tv.1) (u := tv.2) hx' htv
              obtain ⟨q2, h3, h4⟩ := aRecv_sound (P := P) (w := w) (wr := none) h2 hrv
              have e1 : ((⟨u'⟩ : Array Value) ++ args.map a'.eval) = ⟨x' :: rest'⟩ := by apply Array.ext'; simpa using exr
              have hvia : (receiverVia t x' path ptr).run P w = .ok q2 w := by
                simp only [receiverVia, Sem.run_bind, h1, Result.andThen_ok, h3]
              have e2 : (#[q2] ++ (⟨x' :: rest'⟩ : Array Value).extract 1 (⟨x' :: rest'⟩ : Array Value).size) = ⟨q2 :: rest'⟩ := by apply Array.ext'; simp
              have hrun : (execOp a'.eval ⟨dst, .call ⟨.value f, args, argTypes⟩, ty, pos, aft, gd⟩).run P w = .ok (.enter g ⟨q2 :: rest'⟩) w := by
                simp only [execOp, Sem.run_bind, hres, Result.andThen_ok, e1, invoke]
                simp only [List.getElem?_toArray, List.getElem?_cons_zero, Sem.run_bind, hvia, Result.andThen_ok, e2]
                exact hcall _ _
              rw [hrun]
              refine ⟨ndepth, hf.calls ((h B0 m w _ hr (.cons h4 hrest) (n - 1)).mono fun e w1 hl => ?_)⟩
              rcases call_upon (o := ⟨dst, .call ⟨.value f, args, argTypes⟩, ty, pos, aft, gd⟩) ha hnext hX hl with ⟨v, rfl, h⟩ | ⟨ch, rfl, h⟩ <;> exact h
            · exact h.elim
          · exact h.elim
        | invoke r name =>
          obtain ⟨rv, hrv, h⟩ := h
          obtain ⟨vs, hvs, h⟩ := h
          have hvs' := evs_sound hr ha hvs
          have hrv' := eval_sound hr ha hrv
          unfold AInvoke at h
          split at h
          · rename_i t v
            obtain ⟨g, u, hmth, hcall, h⟩ := h
            obtain ⟨v', ev, hv⟩ := hrv'.iface_inv
            obtain ⟨u', h1, h2⟩ := aMethod_sound (P := P) (w := w) (P.types.size + Made.depth - 1) hv hmth
            have hdep : P.types.size + Made.depth - 1 + 1 = P.types.size + Made.depth := by simp [Made.depth]
            rw [hdep] at h1
            have e0 : (#[a'.eval r] ++ args.map a'.eval) = ⟨a'.eval r :: args.toList.map a'.eval⟩ := by apply Array.ext'; simp
            have e2 : (#[u'] ++ ((⟨a'.eval r :: args.toList.map a'.eval⟩ : Array Value).extract 1 (⟨a'.eval r :: args.toList.map a'.eval⟩ : Array Value).size)) = ⟨u' :: args.toList.map a'.eval⟩ := by
              apply Array.ext'
              simp [List.take_of_length_le]
            have hrun : (execOp a'.eval ⟨dst, .call ⟨.invoke r name, args, argTypes⟩, ty, pos, aft, gd⟩).run P w = .ok (.enter g ⟨u' :: args.toList.map a'.eval⟩) w := by
              simp only [execOp, resolve, Sem.run_bind, Sem.run_pure, Result.andThen_ok, invoke, e0]
              show (callMethod (a'.eval r) name _).run P w = _
              rw [ev]
              simp only [callMethod, Sem.run_bind, run_program, Result.andThen_ok, h1]
              rw [← ev, e2]
              exact hcall _ _
            rw [hrun]
            refine ⟨ndepth, hf.calls ((h B0 m w _ hr (.cons h2 hvs') (n - 1)).mono fun e w1 hl => ?_)⟩
            rcases call_upon (o := ⟨dst, .call ⟨.invoke r name, args, argTypes⟩, ty, pos, aft, gd⟩) ha hnext hX hl with ⟨v, rfl, h⟩ | ⟨ch, rfl, h⟩ <;> exact h
          · exact h.elim
        | builtin bi =>
          obtain ⟨args⟩ := args
          obtain ⟨argTypes⟩ := argTypes
          cases bi with
          | append =>
            simp only [AEff] at h
            split at h
            · rename_i x y t t'
              obtain ⟨ht, u, hu, v, hv, r, hap, h⟩ := h
              subst ht
              obtain ⟨v', w1, hrun0, hB, hpost⟩ := aAppend_sound (ty := ty) hr (eval_sound hr ha hu) (eval_sound hr ha hv) hap
              have hrun : (execOp a'.eval ⟨dst, .call ⟨.builtin .append, ⟨[x, y]⟩, ⟨[t', t']⟩⟩, ty, pos, aft, gd⟩).run P w = .ok (.value v') w1 := by
                have e1 : (⟨[x, y]⟩ : Array Operand).map a'.eval = #[a'.eval x, a'.eval y] := by simp
                simp only [execOp, resolve, Sem.run_bind, Sem.run_pure, Result.andThen_ok, invoke, builtin, e1]
                rw [show (⟨[t', t']⟩ : Array TypeId) = #[t', t'] from rfl, hrun0]
                rfl
              rw [hrun]
              cases r with
              | same v =>
                obtain ⟨p1, rfl⟩ := hpost
                exact next1 _ _ _ _ h p1 (Ext.refl _ _) hr hB
              | inpl v i b =>
                obtain ⟨p1, p2⟩ := hpost
                exact next1 _ _ _ _ h p1 (Ext.upd _ _ _ _) p2 hB
              | grow H' k b =>
                have hp : pick H fun j => K (a.put dst (.slice (some ⟨j, 0, none⟩) k k)) (upd H' j b) := by
                  rcases h with ⟨ht, j, hj, hk⟩ | h
                  · exact .inl ⟨ht, j, (grow_none hap).1 hj, hk⟩
                  · exact .inr fun j hj => h j ((grow_none hap).2 hj)
                obtain ⟨j, hmj, hHj, hK⟩ := hr.pick hp
                have hHj' := (grow_none hap).2 hHj
                obtain ⟨f, p1, p2⟩ := hpost j hmj hHj'
                exact hnext _ _ ⟨_, _, _, hK, (grow_ext hap).trans (Ext.new hmj hHj'), p1, put_sound (ha.mono (nset_le hmj)) p2, hB⟩
            · exact h.elim
          | copy =>
            simp only [AEff] at h
            split at h
            · rename_i x y t t'
              obtain ⟨u, hu, v, hv, r, hap, h⟩ := h
              obtain ⟨k, ou⟩ := r
              obtain ⟨w1, hrun0, hB, hpost⟩ := aCopy_sound (ty := ty) hr (eval_sound hr ha hu) (eval_sound hr ha hv) hap
              have hrun : (execOp a'.eval ⟨dst, .call ⟨.builtin .copy, ⟨[x, y]⟩, ⟨[t, t']⟩⟩, ty, pos, aft, gd⟩).run P w = .ok (.value (.int .i64 k)) w1 := by
                have e1 : (⟨[x, y]⟩ : Array Operand).map a'.eval = #[a'.eval x, a'.eval y] := by simp
                simp only [execOp, resolve, Sem.run_bind, Sem.run_pure, Result.andThen_ok, invoke, builtin, e1]
                rw [show (⟨[t, t']⟩ : Array TypeId) = #[t, t'] from rfl, hrun0]
                rfl
              rw [hrun]
              exact next1 _ _ _ _ h (.of_atomic rfl) (Ext.updO _ _ _) hpost hB
            · exact h.elim
          | clear =>
            simp only [AEff] at h
            split at h
            · rename_i x t
              obtain ⟨u, hu, r, hap, h⟩ := h
              obtain ⟨w1, hrun0, hB, hpost⟩ := aClear_sound (ty := ty) hr (eval_sound hr ha hu) hap
              have hrun : (execOp a'.eval ⟨dst, .call ⟨.builtin .clear, ⟨[x]⟩, ⟨[t]⟩⟩, ty, pos, aft, gd⟩).run P w = .ok (.value (.tuple #[])) w1 := by
                have e1 : (⟨[x]⟩ : Array Operand).map a'.eval = #[a'.eval x] := by simp
                simp only [execOp, resolve, Sem.run_bind, Sem.run_pure, Result.andThen_ok, invoke, builtin, e1]
                rw [show (⟨[t]⟩ : Array TypeId) = #[t] from rfl, hrun0]
                rfl
              rw [hrun]
              exact next1 _ _ _ _ h (.tuple .nil .nil) (Ext.updO _ _ _) hpost hB
            · exact h.elim
          | panic =>
            simp only [AEff] at h
            split at h
            · rename_i x
              obtain ⟨u, hu, h⟩ := h
              split at h
              · rename_i t v
                obtain ⟨u', hx', hv⟩ := (eval_sound hr ha hu).iface_inv
                have hrun : (execOp a'.eval ⟨dst, .call ⟨.builtin .panic, ⟨[x]⟩, ⟨argTypes⟩⟩, ty, pos, aft, gd⟩).run P w = .halt (.panic (.iface t u')) w := by
                  simp [execOp, resolve, invoke, builtin, hx', Instr.panic]
                rw [hrun]
                exact hX _ _ H m w h (Ext.refl _ _) hr (Below.refl _ _) (.iface hv .nil)
              · exact h.elim
            · exact h.elim
          | _ => exact h.elim
      | _ => exact h.elim
end
end Go.Ab

/- ABSTRACT MEMORY, 13: regions in the text's order, code. -/
namespace Go.Ab
open Go Go.RowKit
variable [TT]

/-- Is an operation asked for? -/
def aWanted (ops : Array Oper) (a : AAct) (o : Oper) : Option Bool :=
  match o.guard with
  | none => some true
  | some (j, want) =>
    match (ops[j]?).bind (·.dst) with
    | some d => match a.f d with
      | some (.bool b) => some (b == want)
      | some (.tuple _) => some false
      | _ => none
    | none => none
def AOps (P : Program) (ro : Option Nat) (ops : Array Oper) (Q : AExit → AAct → AHeap → Prop) : List Nat → AAct → AHeap → Prop
  | [], a, H => Q .normal a H
  | i :: rest, a, H =>
    match ops[i]? with
    | none => AOps P ro ops Q rest a H
    | some o => bindO (aWanted ops a o) fun b =>
        (b = true → AOp P ro a H o.dst o.op (AOps P ro ops Q rest) (fun v H' => Q (.panic v) a H')) ∧ (b = false → AOps P ro ops Q rest (a.put o.dst undef) H)
/-- A piece of code, in abstract memory. -/
def AWp (P : Program) (ro : Option Nat) (c : Code) (Q : AExit → AAct → AHeap → Prop) (a : AAct) (H : AHeap) : Prop :=
  ∀ (B0 : Nat) (m : NMap) (w : World) (a' : Act) (F : Fence), Rel P B0 m H w → ARel m a a' → FRel m ro F → ∀ n, c.wpIn F n P (LiftQ P B0 m H w Q) a' w

section
variable {P : Program} {B0 : Nat} {m : NMap} {H : AHeap} {w w' : World} {a : AAct} {a' : Act} {ro : Option Nat} {Q Q' : AExit → AAct → AHeap → Prop}

theorem LiftQ.mono {e : Exit} {a1 : Act} {w1 : World} (hq : ∀ e a H, Q e a H → Q' e a H) (h : LiftQ P B0 m H w Q e a1 w1) : LiftQ P B0 m H w Q' e a1 w1 := by
  obtain ⟨x, a, H', m', q, r⟩ := h
  exact ⟨x, a, H', m', hq _ _ _ q, r⟩
theorem AWp.mono {c : Code} (h : AWp P ro c Q a H) (hq : ∀ e a H, Q e a H → Q' e a H) : AWp P ro c Q' a H :=
  fun B0 m w a' F h1 h2 h3 n => wpIn_mono (h B0 m w a' F h1 h2 h3 n) fun _ _ _ hl => LiftQ.mono hq hl
/-- What is not looked at may be forgotten: temporaries and blocks. -/
theorem AWp.forget {c : Code} {a2 : AAct} {H2 : AHeap} (h : AWp P ro c Q a2 H2) (hn : a2.n = a.n) (hf : ∀ t v, a2.f t = some v → a.f t = some v) (hd : a2.defers = a.defers) (hH : Sub H2 H) : AWp P ro c Q a H :=
  fun B0 m w a' F h1 h2 h3 n => wpIn_mono (h B0 m w a' F (h1.sub hH) ⟨⟨by rw [hn]; exact h2.1.1, fun t v ht => h2.1.2 t v (hf t v ht)⟩, by rw [hd]; exact h2.2⟩ h3 n) fun _ _ _ ⟨x, a, H', m', q, hE, r⟩ => ⟨x, a, H', m', q, hE.sub hH (Sub.refl _), r⟩

theorem aWanted_sound (ha : ARel m a a') {ops : Array Oper} {o : Oper} {b : Bool} (h : aWanted ops a o = some b) : Region.wanted o (yielded ops a'.tmps) = b := by
  unfold aWanted at h
  unfold Region.wanted
  split at h
  · rename_i hg
    cases h
    rw [hg]
  · rename_i j want hg
    rw [hg]
    simp only
    split at h
    · rename_i d hd
      split at h
      · rename_i x hx
        cases h
        have hv := ha.1.2 d _ hx
        have hb := hv.bool_inv
        have hsz : d < a'.tmps.size := by
          rcases Nat.lt_or_ge d a'.tmps.size with h1 | h1
          · exact h1
          · simp [Array.getD, Nat.not_lt.2 h1, undef] at hb
        have hg2 : a'.tmps[d]? = some (.bool x) := by
          rw [Array.getElem?_eq_getElem hsz]
          simpa [Array.getD, hsz] using hb
        simp only [yielded, hd, Option.bind_some, hg2]
        cases x <;> cases want <;> rfl
      · rename_i x hx
        cases h
        have hv := ha.1.2 d _ hx
        obtain ⟨cs', e, _⟩ := VRel.tuple_inv (cs := x.toList) hv
        have hg2 : a'.tmps[d]? = none ∨ a'.tmps[d]? = some (.tuple ⟨cs'⟩) := by
          rcases Nat.lt_or_ge d a'.tmps.size with h1 | h1
          · refine .inr ?_
            rw [Array.getElem?_eq_getElem h1]
            simpa [Array.getD, h1] using e
          · exact .inl (Array.getElem?_eq_none h1)
        rcases hg2 with hg2 | hg2 <;> simp only [yielded, hd, Option.bind_some, hg2] <;> cases want <;> rfl
      · cases h
    · cases h

theorem AOps_sound {F : Fence} {ops : Array Oper} {n : Nat} {m0 : NMap} {H0 : AHeap} {w0 : World} (l : List Nat) : ∀ {m : NMap} {w : World} {a : AAct} {a' : Act} {H : AHeap}, Ext m0 H0 m H → Below B0 w0 w → FRel m ro F → Rel P B0 m H w → ARel m a a' →
    AOps P ro ops Q l a H → wpOpsIn F n P ops (LiftQ P B0 m0 H0 w0 Q) l a' w := by
  induction l with
  | nil => exact fun hm0 hB0 hf hr ha h => ⟨.normal, _, _, _, h, hm0, hr, ha, hB0, rfl⟩
  | cons i rest ih =>
    intro m w a a' H hm0 hB0 hf hr ha h
    simp only [AOps] at h
    simp only [wpOpsIn]
    cases ho : ops[i]? with
    | none =>
      rw [ho] at h
      exact ih hm0 hB0 hf hr ha h
    | some o =>
      rw [ho] at h
      simp only at h ⊢
      obtain ⟨b, hb, h1, h2⟩ := h
      rw [aWanted_sound ha hb]
      cases b with
      | true =>
        simp only [if_true]
        refine AOp_sound hf hr ha ?_ ?_ (h1 rfl)
        · rintro a1 w1 ⟨a2, H', m', hk, hm, hr', ha', hB⟩
          exact ih (hm0.trans hm) (hB0.trans hB) (hf.mono hm.le) hr' ha' hk
        · intro v v' H' m' w1 hx hm hr' hB hv
          exact ⟨.panic v, a, H', m', hx, hm0.trans hm, hr', ha.mono hm.le, hB0.trans hB, v', rfl, hv⟩
      | false =>
        simp only [Bool.false_eq_true, if_false]
        exact ⟨fun f _ => hf.fn f, ih hm0 hB0 hf hr (put_sound ha (.tuple .nil .nil)) (h2 rfl)⟩

/-! ### Code -/
theorem AWp_region {id : Nat} {ops : Array Oper} (h : AOps P ro ops Q (List.range ops.size) a H) : AWp P ro (.region id ops false) Q a H :=
  fun _ m _ _ _ hr ha hf _ => wpIn_region (AOps_sound _ (Ext.refl m _) (Below.refl _ _) hf hr ha h)
theorem AWp_skip (h : Q .normal a H) : AWp P ro .skip Q a H :=
  fun _ m _ _ _ hr ha _ _ => wpIn_skip ⟨.normal, _, _, m, h, Ext.refl _ _, hr, ha, Below.refl _ _, rfl⟩
theorem AWp_label {l : Nat} (h : Q .normal a H) : AWp P ro (.label l) Q a H :=
  fun _ m _ _ _ hr ha _ _ => wpIn_label ⟨.normal, _, _, m, h, Ext.refl _ _, hr, ha, Below.refl _ _, rfl⟩
theorem AWp_exit {id : Nat} (h : Q (.exit id) a H) : AWp P ro (.exit id) Q a H :=
  fun _ m _ _ _ hr ha _ _ => wpIn_exit ⟨.exit id, _, _, m, h, Ext.refl _ _, hr, ha, Below.refl _ _, rfl⟩
theorem AWp_ret (h : Q .ret a H) : AWp P ro .ret Q a H :=
  fun _ m _ _ _ hr ha _ _ => wpIn_ret ⟨.ret, _, _, m, h, Ext.refl _ _, hr, ha, Below.refl _ _, rfl⟩

/-- Behind the first of two. -/
def AThen (K : AAct → AHeap → Prop) (Q : AExit → AAct → AHeap → Prop) : AExit → AAct → AHeap → Prop
  | .normal, a, H => K a H
  | e, a, H => Q e a H
theorem AWp_seq {x y : Code} (h : AWp P ro x (AThen (AWp P ro y Q) Q) a H) : AWp P ro (.seq x y) Q a H := by
  intro B0 m w a' F hr ha hf n
  refine wpIn_seq (wpIn_mono (h B0 m w a' F hr ha hf n) ?_)
  rintro e a1 w1 ⟨x, a2, H', m', hq, hm, hr', ha', hB, hx⟩
  cases x with
  | normal =>
    cases hx
    exact wpIn_mono (hq B0 m' w1 a1 F hr' ha' (hf.mono hm.le) n) fun _ _ _ hl => LiftQ.trans hm hB hl
  | exit id => cases hx; exact ⟨.exit id, a2, H', m', hq, hm, hr', ha', hB, rfl⟩
  | goto l => cases hx; exact ⟨.goto l, a2, H', m', hq, hm, hr', ha', hB, rfl⟩
  | ret => cases hx; exact ⟨.ret, a2, H', m', hq, hm, hr', ha', hB, rfl⟩
  | panic v =>
    obtain ⟨v', rfl, hv⟩ := hx
    exact ⟨.panic v, a2, H', m', hq, hm, hr', ha', hB, v', rfl, hv⟩
theorem AWp_cond {c : Operand} {x y : Code} {b : Bool} (hc : a.eval P c = some (.bool b)) (ht : b = true → AWp P ro x Q a H) (hf : b = false → AWp P ro y Q a H) : AWp P ro (.cond c x y) Q a H := by
  intro B0 m w a' F hr ha hF n
  have hb := (eval_sound hr ha hc).bool_inv
  cases b with
  | true => exact wpIn_cond_true hb (ht rfl B0 m w a' F hr ha hF n)
  | false => exact wpIn_cond_false hb (hf rfl B0 m w a' F hr ha hF n)
def AInBlock (id : Nat) (Q : AExit → AAct → AHeap → Prop) : AExit → AAct → AHeap → Prop
  | .exit id', a, H => if id' = id then Q .normal a H else Q (.exit id') a H
  | e, a, H => Q e a H
theorem AWp_block {id : Nat} {c : Code} (h : AWp P ro c (AInBlock id Q) a H) : AWp P ro (.block id c) Q a H := by
  intro B0 m w a' F hr ha hf n
  refine wpIn_block (wpIn_mono (h B0 m w a' F hr ha hf n) ?_)
  rintro e a1 w1 ⟨x, a2, H', m', hq, hm, hr', ha', hB, hx⟩
  cases x with
  | normal => cases hx; exact ⟨.normal, a2, H', m', hq, hm, hr', ha', hB, rfl⟩
  | exit id' =>
    cases hx
    simp only [AInBlock] at hq
    simp only [Exit.inBlock]
    split
    · rename_i e; rw [if_pos e] at hq; exact ⟨.normal, a2, H', m', hq, hm, hr', ha', hB, rfl⟩
    · rename_i e; rw [if_neg e] at hq; exact ⟨.exit id', a2, H', m', hq, hm, hr', ha', hB, rfl⟩
  | goto l => cases hx; exact ⟨.goto l, a2, H', m', hq, hm, hr', ha', hB, rfl⟩
  | ret => cases hx; exact ⟨.ret, a2, H', m', hq, hm, hr', ha', hB, rfl⟩
  | panic v =>
    obtain ⟨v', rfl, hv⟩ := hx
    exact ⟨.panic v, a2, H', m', hq, hm, hr', ha', hB, v', rfl, hv⟩

theorem roundsIn_mono {F : Fence} {n : Nat} {c : Code} {Q1 : Exit → Act → World → Prop} {k k' : Nat} (hk : k ≤ k') : ∀ {a : Act} {w : World}, Code.roundsIn F n P c Q1 k a w → Code.roundsIn F n P c Q1 k' a w := by
  have _ := TT.tt
  induction k generalizing k' with
  | zero => intro a w h; exact h.elim
  | succ k ih =>
    intro a w h
    match k', hk with
    | k' + 1, hk =>
      rw [roundsIn_succ] at h ⊢
      refine wpIn_mono h fun e a1 w1 he => ?_
      cases e <;> first | exact ih (by omega) he | exact he

/-- A loop: a relation at each round's head, and a number that every round lowers. -/
theorem AWp_loop {c : Code} (I : Nat → AAct → AHeap → Prop) {k0 : Nat} (h0 : I k0 a H) (round : ∀ k a H, I k a H → AWp P ro c (AThen (fun a H => ∃ k', k' < k ∧ I k' a H) Q) a H) : AWp P ro (.loop c) Q a H := by
  intro B0 m w a' F hr ha hf n
  have key : ∀ k (m1 : NMap) (w1 : World) (a1 : AAct) (a1' : Act) (H1 : AHeap), Ext m H m1 H1 → Below B0 w w1 → FRel m1 ro F → Rel P B0 m1 H1 w1 → ARel m1 a1 a1' → I k a1 H1 → Code.roundsIn F n P c (LiftQ P B0 m H w Q) (k + 1) a1' w1 := by
    intro k
    induction k using Nat.strongRecOn with
    | _ k ih =>
      intro m1 w1 a1 a1' H1 hm1 hB1 hf1 hr1 ha1 hI
      rw [roundsIn_succ]
      refine wpIn_mono (round k a1 H1 hI B0 m1 w1 a1' F hr1 ha1 hf1 n) ?_
      rintro e a2' w2 ⟨x, a2, H2, m2, hq, hm, hr2, ha2, hB2, hx⟩
      cases x with
      | normal =>
        cases hx
        obtain ⟨k', hk, hI'⟩ := hq
        exact roundsIn_mono (by omega) (ih k' hk m2 w2 a2 a2' H2 (hm1.trans hm) (hB1.trans hB2) (hf1.mono hm.le) hr2 ha2 hI')
      | exit id => cases hx; exact ⟨.exit id, a2, H2, m2, hq, hm1.trans hm, hr2, ha2, hB1.trans hB2, rfl⟩
      | goto l => cases hx; exact ⟨.goto l, a2, H2, m2, hq, hm1.trans hm, hr2, ha2, hB1.trans hB2, rfl⟩
      | ret => cases hx; exact ⟨.ret, a2, H2, m2, hq, hm1.trans hm, hr2, ha2, hB1.trans hB2, rfl⟩
      | panic v =>
        obtain ⟨v', rfl, hv⟩ := hx
        exact ⟨.panic v, a2, H2, m2, hq, hm1.trans hm, hr2, ha2, hB1.trans hB2, v', rfl, hv⟩
  exact wpIn_loop_rounds _ (key k0 m w a a' H (Ext.refl _ _) (Below.refl _ _) hf hr ha h0)

/-- A scope that nothing jumps into. -/
theorem stepR_scope {b : Frame} {a : Act} {k : List Item} {cs : List Frame} {w : World} {c : Code} : step P (lone (b.atR a (.code (.scope c) :: k)) cs w) = .next (lone (b.atR a (.code c :: .inScope c :: k)) cs w) := have _ := TT.tt;
  step_lone_go (by simp [stepG, stepG.exec, Frame.atR])
theorem stepR_inScope {b : Frame} {a : Act} {k : List Item} {cs : List Frame} {w : World} {c : Code} : step P (lone (b.atR a (.inScope c :: k)) cs w) = .next (lone (b.atR a k) cs w) := have _ := TT.tt;
  step_lone_go (by simp [stepG, stepG.exec, Frame.atR])
theorem wpIn_scope {F : Fence} {n : Nat} {c : Code} {a : Act} {w : World} {Q1 : Exit → Act → World → Prop} (h : c.wpIn F n P (fun e a w => (∀ l, e ≠ .goto l) ∧ Q1 e a w) a w) : (Code.scope c).wpIn F n P Q1 a w := by
  intro b k cs hro hb hr
  have h0 : (lone (b.atR a (.code (.scope c) :: k)) cs w).fenced P F := fenced_calm hb hr rfl
  obtain ⟨e, a₁, w₁, ⟨hng, hq⟩, harr⟩ := h b (.inScope c :: k) cs hro hb hr
  cases e with
  | normal => exact ⟨.normal, a₁, w₁, hq, .head h0 stepR_scope (StepsIn.trans harr (.one (fenced_calm hb hr rfl) stepR_inScope))⟩
  | exit id =>
    have hx : exitTo id (.inScope c :: k) = exitTo id k := by simp [exitTo]
    exact ⟨.exit id, a₁, w₁, hq, fun k' hk => .head h0 stepR_scope (harr.1 k' (by rw [hx]; exact hk)),
      fun hr' hk => let ⟨k₁, h1, h2⟩ := harr.2 hr' (by rw [hx]; exact hk); ⟨k₁, h1, .head h0 stepR_scope h2⟩⟩
  | goto l => exact absurd rfl (hng l)
  | ret => exact ⟨_, a₁, w₁, hq, .of_steps (.one h0 stepR_scope) harr⟩
  | panic ch => exact ⟨_, a₁, w₁, hq, .of_steps (.one h0 stepR_scope) harr⟩
  | outgrown => exact ⟨_, a₁, w₁, hq, .of_steps (.one h0 stepR_scope) harr⟩
theorem AWp_scope {c : Code} (h : AWp P ro c (fun e a H => (∀ l, e ≠ .goto l) ∧ Q e a H) a H) : AWp P ro (.scope c) Q a H := by
  intro B0 m w a' F hr ha hf n
  refine wpIn_scope (wpIn_mono (h B0 m w a' F hr ha hf n) ?_)
  rintro e a1 w1 ⟨x, a2, H', m', ⟨hng, hq⟩, hm, hr', ha', hB, hx⟩
  refine ⟨?_, x, a2, H', m', hq, hm, hr', ha', hB, hx⟩
  rintro l rfl
  cases x with
  | goto l' => exact hng l' rfl
  | panic v => obtain ⟨_, h, _⟩ := hx; cases h
  | _ => cases hx
end
end Go.Ab

/- ABSTRACT MEMORY, 14: a function from its body. -/
namespace Go.Ab
open Go Go.RowKit
variable [TT]

/-! ### What a function hands back -/
def aResult (P : Program) (a : AAct) (H : AHeap) : ResultVar → Option Value
  | .tmp t => a.f t
  | .cell x t => match a.f x with
    | some (.pointer (some ⟨i, o, none⟩)) => loadV P t H i o
    | _ => none
def aResList (P : Program) (a : AAct) (H : AHeap) : List ResultVar → Option (List Value)
  | [] => some []
  | r :: rs => (aResult P a H r).bind fun v => (aResList P a H rs).map (v :: ·)
def oneOf : List Value → Value
  | [v] => v
  | vs => .tuple ⟨vs⟩
def aResults (P : Program) (fn : Func) (a : AAct) (H : AHeap) : Option Value := (aResList P a H fn.results.toList).map oneOf

/-! ### How a function is left -/
inductive AMode where
  | ret
  | pan (v : Value)
  | caught
def MRel (m : NMap) : AMode → FrameMode → Prop
  | .ret, u => u = .returning
  | .pan v, u => ∃ v', u = .panicking [{ v := v', recovered := false }] ∧ VRel m v v'
  | .caught, u => ∃ v', u = .panicking [{ v := v', recovered := true }]
def aSettle : AMode → AMode
  | .caught => .ret
  | u => u
/-- A deferred call: the mode of the frame below it is handed over, and on. -/
def SDCalls (P : Program) (f : FuncId) (args : List Value) (u : AMode) (H : AHeap) (R : Value → AMode → AHeap → Prop) : Prop :=
  ∀ (B0 : Nat) (m : NMap) (w : World) (args' : List Value) (u' : FrameMode), Rel P B0 m H w → VsRel m args args' → MRel m u u' → ∀ n,
    CallsDIn Fence.wide n P f ⟨args'⟩ u' w fun e u2' w' => ∃ v v' u2 H' m', R v u2 H' ∧ Ext m H m' H' ∧ Rel P B0 m' H' w' ∧ Below B0 w w' ∧ e = .returned v' ∧ VRel m' v v' ∧ MRel m' u2 u2'
def ALeave (P : Program) (fn : Func) (R : ARes → AHeap → Prop) : List Deferred → AMode → AAct → AHeap → Prop
  | [], .ret, a, H => bindO (aResults P fn a H) fun v => R (.ret v) H
  | [], .pan v, _, H => R (.pan v) H
  | [], .caught, _, _ => False
  | ⟨.collected r, _⟩ :: ds, u, a, H => (H r = some .defs) ∧ ALeave P fn R ds u a (del H r)
  | ⟨.fn (.func f) cap, args⟩ :: ds, u, a, H => Callable P f ∧ SDCalls P f (args.toList ++ cap.toList) u H (fun _ u' H' => ALeave P fn R ds (aSettle u') a H')
  | _, _, _, _ => False
def ABody (P : Program) (fn : Func) (R : ARes → AHeap → Prop) : AExit → AAct → AHeap → Prop
  | .normal, a, H | .ret, a, H => ALeave P fn R a.defers .ret a H
  | .panic v, a, H => ALeave P fn R a.defers (.pan v) a H
  | _, _, _ => False
/-- A function's temporaries when it is entered. -/
def aEntry (args : List Value) (n : Nat) : AAct := { n := args.length + (n - args.length), f := fun t => if t < args.length then args[t]? else some undef, defers := [] }

section
variable {P : Program} {B0 : Nat} {m : NMap} {H : AHeap} {w w' : World} {a : AAct} {a' : Act} {R : ARes → AHeap → Prop}

/-- What a result variable holds. -/
def resF (tmps : Array Value) : ResultVar → Sem Value
  | .tmp t => pure (tmps.getD t undef)
  | .cell x t => do loadVar t (← asAddr (tmps.getD x undef))
theorem results_eq (fn : Func) (tmps : Array Value) : results fn tmps = (do let vs ← fn.results.mapM (resF tmps); pure (if h : vs.size = 1 then vs[0] else .tuple vs)) := by
  have _ := TT.tt
  unfold results
  congr 1
theorem aResult_sound (hr : Rel P B0 m H w) (ha : TRel m ⟨a.n, a.f⟩ a'.tmps) {r : ResultVar} {v : Value} (h : aResult P a H r = some v) :
    ∃ v', (resF a'.tmps r).run P w = .ok v' w ∧ VRel m v v' := by
  cases r with
  | tmp t => exact ⟨_, rfl, ha.2 t v h⟩
  | cell x t =>
    simp only [aResult] at h
    split at h
    · rename_i i o hx
      obtain ⟨f, hm, e⟩ := (ha.2 x _ hx).ptr_inv
      obtain ⟨v', h1, h2⟩ := loadV_sound hr hm h
      exact ⟨v', by simp [resF, e, asAddr, h1], h2⟩
    · cases h

theorem results_sound {fn : Func} (hr : Rel P B0 m H w) (ha : TRel m ⟨a.n, a.f⟩ a'.tmps) {v : Value} (h : aResults P fn a H = some v) :
    ∃ v', (results fn a'.tmps).run P w = .ok v' w ∧ VRel m v v' := by
  unfold aResults at h
  cases hl : aResList P a H fn.results.toList with
  | none => rw [hl] at h; cases h
  | some vs =>
    rw [hl] at h
    cases h
    have key : ∀ (l : List ResultVar) vs, aResList P a H l = some vs → ∃ vs', (l.mapM (resF a'.tmps)).run P w = .ok vs' w ∧ VsRel m vs vs' := by
      intro l
      induction l with
      | nil => intro vs h; cases h; exact ⟨[], rfl, .nil⟩
      | cons r rs ih =>
        intro vs h
        obtain ⟨v, hv, h1⟩ := option_bind_some h
        cases hl : aResList P a H rs with
        | none => rw [hl] at h1; cases h1
        | some vs1 =>
          rw [hl] at h1
          cases h1
          obtain ⟨vs', h2, h3⟩ := ih vs1 hl
          obtain ⟨v', h4, h5⟩ := aResult_sound hr ha hv
          refine ⟨v' :: vs', ?_, .cons h5 h3⟩
          rw [List.mapM_cons]
          simp only [Sem.run_bind, h4, Result.andThen_ok, h2, Sem.run_pure]
    obtain ⟨vs', h1, h2⟩ := key _ _ hl
    have hrun : (results fn a'.tmps).run P w = .ok (oneOf vs') w := by
      rw [results_eq, Array.mapM_eq_mapM_toList]
      simp only [Sem.run_bind, Sem.run_map, h1, Result.andThen_ok]
      match vs' with
      | [] => rfl
      | [x] => rfl
      | x :: y :: l => rfl
    refine ⟨_, hrun, ?_⟩
    match vs, vs', h2 with
    | [], _, h => have := h.nil_left; subst this; exact .tuple .nil .nil
    | [x], _, h =>
      obtain ⟨v', l', rfl, hv, hl⟩ := h.uncons
      have := hl.nil_left; subst this
      exact hv
    | x :: y :: l, _, h =>
      obtain ⟨v1, l1, rfl, hv, hl⟩ := h.uncons
      obtain ⟨v2, l2, rfl, hv2, hl2⟩ := hl.uncons
      exact .tuple (.cons hv (.cons hv2 hl2)) .nil

/-- A block of the call's own that is written and no more spoken of. -/
theorem Rel.shut (h : Rel P B0 m H w) {i : Nat} {b0 : ABlk} {f : BInfo} (hi : H i = some b0) (hm : m i = some f) (h0 : b0.own = true) (hsize : w.heap.size ≤ w'.heap.size)
    (hoth : ∀ k, k ≠ f.blk → k < w.heap.size → w'.heap[k]? = w.heap[k]?) : Rel P B0 m (Ab.del H i) w' where
  blocks j c g hj hg := by
    by_cases e : j = i
    · subst e; simp at hj; subst hj; trivial
    rw [del_other _ _ _ e] at hj
    have hc := h.blocks j c g hj hg
    refine hc.heap fun hd => hoth _ ?_ (hc.lt hd)
    cases ho : c.own with
    | true => exact h.inj j i c b0 g f e hj hi ho h0 hg hm
    | false =>
      have := hc.ro_lt ho hd
      have := (h.blocks i b0 f hi hm).own_ge h0
      omega
  inj := (h.del (by rw [hi]; simp)).inj
  fin := (h.del (by rw [hi]; simp)).fin
  base := Nat.le_trans h.base hsize
  glob := h.glob
  tot := (h.del (by rw [hi]; simp)).tot

theorem below_putObj {B k : Nat} {w : World} (hB : B ≤ k) (o : Obj) : Below B w (w.putObj k o) := have _ := TT.tt;
  ⟨rfl, rfl, rfl, by simp, fun j hj => World.putObj_heap_other (by omega)⟩

theorem settle_sound {u : AMode} {u' : FrameMode} (h : MRel m u u') : MRel m (aSettle u) (settle u') := by
  have _ := TT.tt
  cases u with
  | ret => cases h; rfl
  | pan v => obtain ⟨v', rfl, hv⟩ := h; exact ⟨v', rfl, hv⟩
  | caught => obtain ⟨v', rfl⟩ := h; rfl

theorem leaves_sound {fn : Func} {n : Nat} {m0 : NMap} {H0 : AHeap} {w0 : World} (ds : List Deferred) : ∀ {ds' : List Deferred} {u : AMode} {u' : FrameMode} {m : NMap} {w : World} {H : AHeap}, Ext m0 H0 m H → Below B0 w0 w → Rel P B0 m H w → DsRel m ds ds' →
    TRel m ⟨a.n, a.f⟩ a'.tmps → MRel m u u' → ALeave P fn R ds u a H → LeavesInM Fence.wide n P fn a'.tmps (LiftR P B0 m0 H0 w0 R) ds' u' w := by
  induction ds with
  | nil =>
    intro ds' u u' m w H hm0 hB0 hr hd ha hu h
    cases hd
    cases u with
    | ret =>
      cases hu
      obtain ⟨v, hv, hR⟩ := h
      obtain ⟨v', h1, h2⟩ := results_sound hr ha hv
      exact ⟨v', h1, .ret v, H, m, hR, hm0, hr, hB0, v', rfl, h2⟩
    | pan v =>
      obtain ⟨v', rfl, hv⟩ := hu
      exact ⟨.pan v, H, m, h, hm0, hr, hB0, v', rfl, hv⟩
    | caught => exact h.elim
  | cons d ds ih =>
    intro ds' u u' m w H hm0 hB0 hr hd ha hu h
    have hne : u' ≠ .run := by
      cases u with
      | ret => cases hu; simp
      | pan v => obtain ⟨v', rfl, hv⟩ := hu; simp
      | caught => obtain ⟨v', rfl⟩ := hu; simp
    cases hd with
    | @mark r f _ ds2 hm hd =>
      obtain ⟨hH, h⟩ := h
      have hblk := hr.blocks r _ f hH hm
      obtain ⟨hB, hheap⟩ := hblk
      exact ⟨hne, .inl ⟨f.blk, _, rfl, run_takeDeferred hheap, ih (hm0.trans (Ext.del _ _)) (hB0.trans (below_putObj hB _)) (hr.shut hH hm rfl (by simp) fun k hk _ => World.putObj_heap_other hk) hd ha hu h⟩⟩
    | @fn fv fv' cap cap' args args' _ ds2 hfn hc hargs hd =>
      cases hfn with
      | func f =>
        obtain ⟨hcall, h⟩ := h
        refine ⟨hne, .inr ⟨fun h => (by cases h), .func f, ⟨cap'⟩, f, ⟨args' ++ cap'⟩, rfl, ?_, fun _ _ => trivial, ?_⟩⟩
        · have e1 : ((⟨args'⟩ : Array Value) ++ ⟨cap'⟩) = ⟨args' ++ cap'⟩ := by apply Array.ext'; simp
          simp only [invoke, e1]
          exact hcall _ _
        · have hx := h B0 m w _ u' hr (hargs.append hc) hu (n - 1)
          refine ⟨hx.1, fun c cs hmode hroom => ?_⟩
          obtain ⟨e, u2, w2, fr, ⟨v, v', U, H', m', hR, hm, hr', hB, he, hv, hU⟩, hs, hk, hf', hg⟩ := hx.2 c cs hmode hroom
          subst he
          exact ⟨.returned v', u2, w2, fr, ih (hm0.trans hm) (hB0.trans hB) hr' (hd.mono hm.le) (ha.mono hm.le) (settle_sound hU) hR, hs, hk, hf', hg⟩
      | _ => exact h.elim

theorem body_sound {fn : Func} {n : Nat} {e : Exit} {a1 : Act} {w1 : World} (h : LiftQ P B0 m H w (ABody P fn R) e a1 w1) : bodyPostM Fence.wide n P fn (LiftR P B0 m H w R) e a1 w1 := by
  obtain ⟨x, a, H', m', hq, hm, hr, ha, hB, hx⟩ := h
  cases x with
  | normal => cases hx; exact leaves_sound _ hm hB hr ha.2 ha.1 (u := .ret) rfl hq
  | ret => cases hx; exact leaves_sound _ hm hB hr ha.2 ha.1 (u := .ret) rfl hq
  | panic v =>
    obtain ⟨v', rfl, hv⟩ := hx
    exact leaves_sound _ hm hB hr ha.2 ha.1 (u := .pan v) ⟨v', rfl, hv⟩ hq
  | exit id => exact hq.elim
  | goto l => exact hq.elim

theorem entry_sound {args args' : List Value} (h : VsRel m args args') (n : Nat) :
    ARel m (aEntry args n) { tmps := (⟨args'⟩ : Array Value) ++ Array.replicate (n - (⟨args'⟩ : Array Value).size) undef, defers := [] } := by
  have _ := TT.tt
  have hlen := h.length
  refine ⟨⟨by simp [aEntry, hlen], fun t v ht => ?_⟩, .nil⟩
  simp only [aEntry] at ht
  split at ht
  · rename_i hlt
    obtain ⟨v', h1, h2⟩ := h.get ht
    have : (((⟨args'⟩ : Array Value) ++ Array.replicate (n - (⟨args'⟩ : Array Value).size) undef)).getD t undef = v' := by
      have hlt' : t < args'.length := by omega
      rw [List.getElem?_eq_getElem hlt'] at h1
      cases h1
      simp [Array.getD, hlt']
      intro h
      omega
    rw [this]
    exact h2
  · cases ht
    have : (((⟨args'⟩ : Array Value) ++ Array.replicate (n - (⟨args'⟩ : Array Value).size) undef)).getD t undef = undef := by
      rw [Array.getD_eq_getD_getElem?, Array.getElem?_append_right (by simp; omega), Array.getElem?_replicate]
      split <;> rfl
    rw [this]
    exact .tuple .nil .nil

/-- A function's contract, from its body. -/
theorem SCalls_of_AWp {f : FuncId} {fn : Func} {c : Code} {args : List Value} (hf : P.funcs[f]? = some fn) (hb : fn.body = some c)
    (h : AWp P none c (ABody P fn R) (aEntry args fn.ntmps) H) : SCalls P f args H R :=
  fun B0 m w args' hr hv n => callsIn_of_wp_marks hf hb trivial (wpIn_mono (h B0 m w _ Fence.wide hr (entry_sound hv _) rfl n) fun _ _ _ hl => body_sound hl)

/-- What is not spoken of may be forgotten: before, and behind. -/
theorem SCalls.weaken {f : FuncId} {args : List Value} {H2 : AHeap} {R' : ARes → AHeap → Prop} (h : SCalls P f args H2 R) (hH : Sub H2 H) (hr : ∀ r H', R r H' → ∃ H'', Sub H'' H' ∧ R' r H'') : SCalls P f args H R' :=
  fun B0 m w args' h1 h2 n => (h B0 m w args' (h1.sub hH) h2 n).mono fun _ _ ⟨r, H', m', a, b, c, d⟩ => let ⟨H'', s, a'⟩ := hr r H' a; ⟨r, H'', m', a', b.sub hH s, c.sub s, d⟩
end
end Go.Ab

