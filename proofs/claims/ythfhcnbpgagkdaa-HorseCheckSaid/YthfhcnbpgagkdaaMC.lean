/- ABSTRACT MEMORY, 20c: regions that draw their order, where names are free: the rule. -/
import Derived.Test.YthfhcnbpgagkdaaMB
namespace Go.Ab
open Go Go.RowKit
variable [TT]
section
variable {P : Program} {B0 : Nat} {m : NMap} {w : World} {ro : Option Nat} {ops : Array Oper} {Q : AExit → AAct → AHeap → Prop} {ai : AAct} {ds : List Deferred} {D T : List Nat} {V : Nat → Value} {H : AHeap} {a : AAct}

/-- Memory with a block that is not there yet. -/
theorem Rel.phantom (h : Rel P B0 m H w) {z : Nat} (hm : m z = none) (b : ABlk) : Rel P B0 m (upd H z b) w where
  blocks i c f hi hg := by
    have e : i ≠ z := by rintro rfl; rw [hm] at hg; cases hg
    rw [upd_other _ _ _ _ e] at hi
    exact h.blocks i c f hi hg
  inj i k c d g g' hik hi hk hci hck hgi hgk := by
    have e : i ≠ z := by rintro rfl; rw [hm] at hgi; cases hgi
    have e' : k ≠ z := by rintro rfl; rw [hm] at hgk; cases hgk
    rw [upd_other _ _ _ _ e] at hi
    rw [upd_other _ _ _ _ e'] at hk
    exact h.inj i k c d g g' hik hi hk hci hck hgi hgk
  fin := by
    obtain ⟨N, hN⟩ := h.fin
    refine ⟨max N (z + 1), fun i hi => ?_⟩
    have h1 : i ≠ z := by omega
    exact ⟨(hN i (by omega)).1, by rw [upd_other _ _ _ _ h1]; exact (hN i (by omega)).2⟩
  base := h.base
  glob := h.glob
  tot ht i hi := by
    by_cases e : i = z
    · subst e; exact hm
    · rw [upd_other _ _ _ _ e] at hi; exact h.tot ht i hi
/-- Memory without a block that is not there yet. -/
theorem Rel.without (h : Rel P B0 m H w) {z : Nat} (hm : m z = none) : Rel P B0 m (fun j => if j = z then none else H j) w where
  blocks i c f hi hg := by
    have e : i ≠ z := by rintro rfl; rw [hm] at hg; cases hg
    simp only [e, if_false] at hi
    exact h.blocks i c f hi hg
  inj i k c d g g' hik hi hk hci hck hgi hgk := by
    have e : i ≠ z := by rintro rfl; rw [hm] at hgi; cases hgi
    have e' : k ≠ z := by rintro rfl; rw [hm] at hgk; cases hgk
    simp only [e, if_false] at hi
    simp only [e', if_false] at hk
    exact h.inj i k c d g g' hik hi hk hci hck hgi hgk
  fin := by
    obtain ⟨N, hN⟩ := h.fin
    refine ⟨N, fun i hi => ⟨(hN i hi).1, ?_⟩⟩
    split
    · rfl
    · exact (hN i hi).2
  base := h.base
  glob := h.glob
  tot ht i hi := by
    by_cases e : i = z
    · subst e; exact hm
    · simp only [e, if_false] at hi; exact h.tot ht i hi

/-- All that only computes, or makes a block, and can be done, is done. -/
theorem goT_norm (htt : TT.tt = true) (hw : wfT ops ai.n = true) {a0 : AAct} {m0 : NMap} {H0 : AHeap} (fuel : Nat) : ∀ {D : List Nat} {V : Nat → Value} {H : AHeap}, InvT P ops ai D T V H → Blank ops D T V m H0 → Ext m0 H0 m H → Rel P B0 m H w →
    BGo P ro ops Q a0 fuel D { asg ops D V ai with defers := ds } H →
    ∃ fuel' D' V' H', InvT P ops ai D' T V' H' ∧ Blank ops D' T V' m H0 ∧ Ext m0 H0 m H' ∧ Rel P B0 m H' w ∧ (∀ i ∈ T, V' i = V i) ∧ (readyL ops D').find? (floatAt ops) = none ∧ (readyL ops D').find? (mkAt ops) = none ∧
      BGo P ro ops Q a0 (fuel' + 1) D' { asg ops D' V' ai with defers := ds } H' := by
  induction fuel with
  | zero => exact fun _ _ _ _ h => h.elim
  | succ fuel ih =>
    intro D V H hI hB hE hr h
    have fin : ∀ {i : Nat} (v : Value) (H2 : AHeap), i ∉ D → InvT P ops ai (i :: D) T (vset V i v) H2 → Blank ops (i :: D) T (vset V i v) m H0 → Ext m0 H0 m H2 → Rel P B0 m H2 w →
        BGo P ro ops Q a0 fuel (i :: D) { asg ops (i :: D) (vset V i v) ai with defers := ds } H2 →
        ∃ fuel' D' V' H', InvT P ops ai D' T V' H' ∧ Blank ops D' T V' m H0 ∧ Ext m0 H0 m H' ∧ Rel P B0 m H' w ∧ (∀ i ∈ T, V' i = V i) ∧ (readyL ops D').find? (floatAt ops) = none ∧ (readyL ops D').find? (mkAt ops) = none ∧
          BGo P ro ops Q a0 (fuel' + 1) D' { asg ops D' V' ai with defers := ds } H' := by
      intro i v H2 h2 g1 g2 g3 g4 g5
      obtain ⟨fuel', D', V', H', p1, p2, p3, p4, p5, p6, p7, p8⟩ := ih g1 g2 g3 g4 g5
      refine ⟨fuel', D', V', H', p1, p2, p3, p4, fun k hk => ?_, p6, p7, p8⟩
      rw [p5 k hk]
      have : k ≠ i := by rintro rfl; exact h2 (hI.sub k hk)
      simp [vset, this]
    have hlook : ∀ {i : Nat} {o : Oper} {v : Value}, i ∈ readyL ops D → ops[i]? = some o → (∀ s ∈ looks ops i, (asg ops D V ai).f s = (asg ops (depsOf ops i) (vset V i v) ai).f s) := by
      intro i o v hi ho s hs
      obtain ⟨h1, h2, h3⟩ := ready_mem.1 hi
      have hVi : asg ops (depsOf ops i) (vset V i v) ai = asg ops (depsOf ops i) V ai := asg_V fun j hj => by
        have : j ≠ i := by rintro rfl; exact h2 (h3 j hj)
        simp [vset, this]
      rw [hVi]
      exact lookT hw h1 (fun z hz => (hI.dcl z hz).1) h3 (.inr ⟨h2, fun z hz => (hI.dcl z hz).2⟩) hs
    cases hf : (readyL ops D).find? (floatAt ops) with
    | some i =>
      have hi := List.mem_of_find?_eq_some hf
      have hfl := List.find?_some hf
      obtain ⟨h1, h2, h3⟩ := ready_mem.1 hi
      obtain ⟨o, ho⟩ := get_of_lt h1
      have hfl' : isFloat o.op = true := by simpa [floatAt, ho] using hfl
      have hnm : mkAt ops i = false := by simp [mkAt, ho, float_mk hfl']
      simp only [BGo, hf, ho] at h
      obtain ⟨b, hb, ht, hfa⟩ := h
      have hb' : aWanted ops (asg ops D V ai) o = some b := hb
      cases b with
      | true =>
        obtain ⟨v, hv, hg⟩ := ht rfl
        rw [put_asg ho h2] at hg
        have hl := hlook (v := v) hi ho
        refine fin v H h2 (hI.plan hw hi ho (fun _ _ h => h) (.inl ⟨hfl', .inl ⟨?_, ?_⟩⟩) (by rw [hnm]; exact fun h => (by cases h))) (hB.plan h2 (by rw [hnm]; exact fun h => (by cases h))) hE hr hg
        · rw [← wanted_congr ho hl]; exact hb'
        · rw [← aPure_congr (eval_congr ho hl), show vset V i v i = v by simp [vset]]
          exact hv
      | false =>
        have hg := hfa rfl
        rw [put_asg ho h2] at hg
        have hl := hlook (v := undef) hi ho
        refine fin undef H h2 (hI.plan hw hi ho (fun _ _ h => h) (.inl ⟨hfl', .inr ⟨?_, by simp [vset]⟩⟩) (by rw [hnm]; exact fun h => (by cases h))) (hB.plan h2 (by rw [hnm]; exact fun h => (by cases h))) hE hr hg
        rw [← wanted_congr ho hl]; exact hb'
    | none =>
      cases hk : (readyL ops D).find? (mkAt ops) with
      | none => exact ⟨fuel, D, V, H, hI, hB, hE, hr, fun _ _ => rfl, hf, hk, h⟩
      | some i =>
        have hi := List.mem_of_find?_eq_some hk
        have hmk := List.find?_some hk
        obtain ⟨h1, h2, h3⟩ := ready_mem.1 hi
        obtain ⟨o, ho⟩ := get_of_lt h1
        have hmk' : isMk o.op = true := by simpa [mkAt, ho] using hmk
        simp only [BGo, hf, hk, ho] at h
        obtain ⟨b, hb, ht, hfa⟩ := h
        have hb' : aWanted ops (asg ops D V ai) o = some b := hb
        cases b with
        | true =>
          obtain ⟨bm, hbm, z, hz, hg⟩ := ht rfl
          obtain ⟨b, mk⟩ := bm
          rw [put_asg ho h2] at hg
          have hl := hlook (v := mk z) hi ho
          have hmz := hr.tot htt z hz
          have hup : ∀ i b', H i = some b' → upd H z b i = some b' := fun i b' hi => by
            have : i ≠ z := by rintro rfl; rw [hz] at hi; cases hi
            rw [upd_other _ _ _ _ this]; exact hi
          have hH0 : H0 z = none := by
            cases h0 : H0 z with
            | none => rfl
            | some x => exact absurd hz (hE.same htt z (by rw [h0]; simp)).2
          have hnz : ∀ z', nameOf (mk z) = some z' → z' = z := fun z' h' => by rw [nameOf_mk hbm] at h'; cases h'; rfl
          refine fin (mk z) (upd H z b) h2 (hI.plan hw hi ho hup (.inr ⟨hmk', .inl ⟨?_, b, mk, z, ?_, by simp [vset], by simp⟩⟩) fun _ z' h' => by rw [hnz z' h']; exact hz) (hB.plan h2 fun _ z' h' => by rw [hnz z' h']; exact ⟨hmz, hH0⟩)
            (hE.trans (Ext.upd _ _ _ _)) (hr.phantom hmz b) hg
          · rw [← wanted_congr ho hl]; exact hb'
          · rw [← aAlloc_congr (eval_congr ho hl)]
            exact hbm
        | false =>
          have hg := hfa rfl
          rw [put_asg ho h2] at hg
          have hl := hlook (v := undef) hi ho
          refine fin undef H h2 (hI.plan hw hi ho (fun _ _ h => h) (.inr ⟨hmk', .inr ⟨?_, by simp [vset]⟩⟩) fun _ z' h' => (by cases h')) (hB.plan h2 fun _ z' h' => (by cases h')) hE hr hg
          rw [← wanted_congr ho hl]; exact hb'

/-- In the order's own state, an operation that the plan has done is done. -/
theorem InvT.step (h : InvT P ops ai D T V H) {i : Nat} (hi : i ∈ D) (hd : ∀ j ∈ depsOf ops i, j ∈ T) : InvT P ops ai D (i :: T) V H := by
  have _ := TT.tt
  refine ⟨fun k hk => ?_, h.dcl, fun k hk j hj => ?_, fun k hk hkT => h.lag k hk fun hc => hkT (List.mem_cons_of_mem _ hc), h.ord, fun k hk hkT j hj hjT => h.dist k hk (fun hc => hkT (List.mem_cons_of_mem _ hc)) j hj fun hc => hjT (List.mem_cons_of_mem _ hc)⟩
  · rcases List.mem_cons.1 hk with rfl | hk
    · exact hi
    · exact h.sub k hk
  · rcases List.mem_cons.1 hk with rfl | hk
    · exact List.mem_cons_of_mem _ (hd j hj)
    · exact List.mem_cons_of_mem _ (h.tcl k hk j hj)

theorem againT_at {y : Nat} (h : AgainT P ops y a H D) {i : Nat} (hi : i ∈ D) : againAt ops i = true → (ancOf ops ops.size (depsOf ops y)).contains i = false →
    match ops[i]? with
      | some o => match o.dst with
        | some d => aWanted ops a o = some true → (isFloat o.op = true → aPure P (a.eval P) H o.op = a.f d) ∧ (isMk o.op = true → ∃ b mk z, aAlloc P (a.eval P) o.op = some (b, mk) ∧ a.f d = some (mk z) ∧ H z = some b)
        | none => False
      | none => False := by
  have _ := TT.tt
  induction D with
  | nil => cases hi
  | cons x D ih =>
    rcases List.mem_cons.1 hi with rfl | hi
    · exact h.1
    · exact ih h.2 hi

/-- An operation that the plan has not done, done in the plan and in the order's own state. -/
theorem InvT.both (hw : wfT ops ai.n = true) (h : InvT P ops ai D T V H) {i : Nat} (hiD : i ∉ D) (hi : i < ops.size) (hd : ∀ j ∈ depsOf ops i, j ∈ T) {v : Value} {H1 : AHeap} (hag : H1 = H ∨ AgainT P ops i { asg ops (i :: D) (vset V i v) ai with defers := ds } H1 D) :
    InvT P ops ai (i :: D) (i :: T) (vset V i v) H1 := by
  have hVd : ∀ k ∈ D, asg ops (depsOf ops k) (vset V i v) ai = asg ops (depsOf ops k) V ai := fun k hk => asg_V fun j hj => by
    have : j ≠ i := by rintro rfl; exact hiD ((h.dcl k hk).2 j hj)
    simp [vset, this]
  have hD3 : ∀ j ∈ depsOf ops i, j ∈ D := fun j hj => h.sub j (hd j hj)
  have hdcl : ∀ k ∈ i :: D, k < ops.size ∧ ∀ j ∈ depsOf ops k, j ∈ i :: D := fun k hk => by
    rcases List.mem_cons.1 hk with rfl | hk
    · exact ⟨hi, fun j hj => List.mem_cons_of_mem _ (hD3 j hj)⟩
    · exact ⟨(h.dcl k hk).1, fun j hj => List.mem_cons_of_mem _ ((h.dcl k hk).2 j hj)⟩
  have hne : ∀ k ∈ D, vset V i v k = V k := fun k hk => by
    have : k ≠ i := by rintro rfl; exact hiD hk
    simp [vset, this]
  have lagD : ∀ k, k ∈ i :: D → k ∉ i :: T → k ∈ D ∧ k ∉ T := fun k hk hkT => by
    have hki : k ≠ i := by rintro rfl; exact hkT List.mem_cons_self
    exact ⟨by simpa [hki] using hk, fun hc => hkT (List.mem_cons_of_mem _ hc)⟩
  refine ⟨fun k hk => ?_, hdcl, fun k hk j hj => ?_, fun k hk hkT => ?_, ⟨hD3, h.ord⟩, ?_⟩
  · rcases List.mem_cons.1 hk with rfl | hk
    · exact List.mem_cons_self
    · exact List.mem_cons_of_mem _ (h.sub k hk)
  · rcases List.mem_cons.1 hk with rfl | hk
    · exact List.mem_cons_of_mem _ (hd j hj)
    · exact List.mem_cons_of_mem _ (h.tcl k hk j hj)
  · obtain ⟨hkD, hkT'⟩ := lagD k hk hkT
    obtain ⟨o, ho, hx⟩ := h.lag k hkD hkT'
    refine ⟨o, ho, ?_⟩
    have hvk := hne k hkD
    rcases hag with rfl | hag
    · exact hx.congr (hVd k hkD) hvk fun _ _ h => h
    · have hanc : (ancOf ops ops.size (depsOf ops i)).contains k = false := by
        cases hc : (ancOf ops ops.size (depsOf ops i)).contains k with
        | false => rfl
        | true => exact absurd (anc_sub h.tcl _ hd k (by simpa using hc)) hkT'
      have hself : ∀ {d : Tmp}, o.dst = some d → (asg ops (i :: D) (vset V i v) ai).f d = some (V k) := by
        intro d hdst
        have hdk : dstOf ops k = some d := by simp [dstOf, ho, hdst]
        have hdn : d < ai.n := wfT_lt hw (h.dcl k hkD).1 hdk
        simp only [asg]
        cases hf : (i :: D).find? (fun z => dstOf ops z == some d) with
        | none =>
          have := List.find?_eq_none.1 hf k hk
          simp [hdk] at this
        | some z =>
          have hz := List.mem_of_find?_eq_some hf
          have hdz : dstOf ops z = some d := by simpa using List.find?_some hf
          have := wfT_dst hw (hdcl z hz).1 (h.dcl k hkD).1 hdz hdk
          subst this
          simp [hdn, hvk]
      have hlk : againAt ops k = true → ∀ t ∈ looks ops k, ({ asg ops (i :: D) (vset V i v) ai with defers := ds } : AAct).f t = (asg ops (depsOf ops k) V ai).f t := fun hA t ht => by
        rw [← hVd k hkD]
        exact lookT hw (h.dcl k hkD).1 (fun z hz => (hdcl z hz).1) (fun j hj => (hdcl k hk).2 j hj) (.inl hA) ht
      unfold LagT at hx ⊢
      rw [hVd k hkD, hvk]
      rcases hx with ⟨hfl, ⟨h1, h2⟩ | h2⟩ | ⟨hmk, ⟨h1, b, mk, z, h2, h3, h4⟩ | h2⟩
      · refine .inl ⟨hfl, .inl ⟨h1, ?_⟩⟩
        cases hrd : reads o.op with
        | false => rw [← h2]; exact aPure_noread hrd
        | true =>
          have hrA : againAt ops k = true := by simp [againAt, readsAt, ho, hfl, hrd]
          have hA := againT_at hag hkD hrA hanc
          rw [ho] at hA
          simp only at hA
          have hl' := hlk hrA
          split at hA
          · rename_i d hdst
            have h3 := (hA (by rw [wanted_congr ho hl']; exact h1)).1 hfl
            rw [aPure_congr (eval_congr ho hl')] at h3
            rw [h3]
            exact hself hdst
          · exact hA.elim
      · exact .inl ⟨hfl, .inr h2⟩
      · refine .inr ⟨hmk, .inl ⟨h1, ?_⟩⟩
        have hrA : againAt ops k = true := by simp [againAt, mkAt, ho, hmk]
        have hA := againT_at hag hkD hrA hanc
        rw [ho] at hA
        simp only at hA
        have hl' := hlk hrA
        split at hA
        · rename_i d hdst
          obtain ⟨b', mk', z', q1, q2, q3⟩ := (hA (by rw [wanted_congr ho hl']; exact h1)).2 hmk
          rw [aAlloc_congr (eval_congr ho hl')] at q1
          rw [show ({ asg ops (i :: D) (vset V i v) ai with defers := ds } : AAct).f d = some (V k) from hself hdst] at q2
          exact ⟨b', mk', z', q1, Option.some.inj q2, q3⟩
        · exact hA.elim
      · exact .inr ⟨hmk, .inr h2⟩
  · intro k hk hkT j hj hjT hkj mk mj z hz
    obtain ⟨hkD, hkT'⟩ := lagD k hk hkT
    obtain ⟨hjD, hjT'⟩ := lagD j hj hjT
    rw [hne k hkD] at hz
    rw [hne j hjD]
    exact h.dist k hkD hkT' j hjD hjT' hkj mk mj z hz
end
end Go.Ab

/- ABSTRACT MEMORY, 20d: regions that draw their order, where names are free: every order. -/
namespace Go.Ab
open Go Go.RowKit
variable [TT]
section
variable {P : Program} {B0 : Nat} {m : NMap} {w : World} {ro : Option Nat} {ops : Array Oper} {Q : AExit → AAct → AHeap → Prop} {ai : AAct} {ds : List Deferred} {D T : List Nat} {V : Nat → Value} {H : AHeap} {a : AAct}

theorem simT (htt : TT.tt = true) (hw : wfT ops ai.n = true) {F : Fence} {n : Nat} {m0 : NMap} {H0 : AHeap} {w0 : World} (fuelσ : Nat) : ∀ {fuel : Nat} {listed : Array Bool} {D T : List Nat} {V : Nat → Value} {H : AHeap} {ds : List Deferred} {m : NMap} {w : World} {a' : Act} (t : Nat),
    (∀ j, listed.getD j false = true ↔ j ∈ T) → listed.size = ops.size → unlisted ops T ≤ fuelσ → InvT P ops ai D T V H → Blank ops D T V m H0 → Ext m0 H0 m H → Below B0 w0 w → FRel m ro F → Rel P B0 m H w → ARel m { asg ops T V ai with defers := ds } a' →
    BGo P ro ops Q (sans ops ai) fuel D { asg ops D V ai with defers := ds } H → wpOpsIn F n P ops (LiftQ P B0 m0 H0 w0 (Up Q)) (Region.linearise.go .any ops fuelσ t listed []) a' w := by
  have hready : ∀ {listed : Array Bool} {T : List Nat}, (∀ j, listed.getD j false = true ↔ j ∈ T) → listed.size = ops.size → ∀ i, i ∈ Region.ready .any ops listed ↔ i < ops.size ∧ i ∉ T ∧ ∀ j ∈ depsOf ops i, j ∈ T := by
    intro listed T hl hs i
    simp only [Region.ready, List.mem_filter, List.mem_range, Bool.and_eq_true, Bool.not_eq_true']
    constructor
    · rintro ⟨h1, h2, h3⟩
      obtain ⟨o, ho⟩ := get_of_lt h1
      refine ⟨h1, fun hc => ?_, fun j hj => ?_⟩
      · have := (hl i).2 hc
        have hlt : i < listed.size := by rw [hs]; exact h1
        simp [Array.getD, hlt] at this h2
        rw [this] at h2
        cases h2
      · simp only [depsOf, ho, List.mem_map, List.mem_filter] at hj
        obtain ⟨e, ⟨he, hb⟩, rfl⟩ := hj
        simp only [ho, Option.map_some, Option.getD_some, Array.all_eq_true'] at h3
        have := h3 e (by simpa using he)
        rw [hb] at this
        exact (hl e.on).1 (by simpa using this)
    · rintro ⟨h1, h2, h3⟩
      obtain ⟨o, ho⟩ := get_of_lt h1
      refine ⟨h1, ?_, ?_⟩
      · have hlt : i < listed.size := by rw [hs]; exact h1
        have hn : ¬ listed.getD i false = true := fun hc => h2 ((hl i).1 hc)
        simp [Array.getD, hlt] at hn ⊢
        exact hn
      · simp only [ho, Option.map_some, Option.getD_some, Array.all_eq_true']
        intro e he
        cases hb : Region.binds .any e with
        | false => rfl
        | true =>
          have := (hl e.on).2 (h3 e.on (by simp only [depsOf, ho, List.mem_map, List.mem_filter]; exact ⟨e, ⟨by simpa using he, hb⟩, rfl⟩))
          simpa using this
  /- nothing is left -/
  have hend : ∀ {fuel : Nat} {D T : List Nat} {V : Nat → Value} {H : AHeap} {ds : List Deferred} {m : NMap} {w : World} {a' : Act}, (∀ i, i < ops.size → i ∉ T → ¬ ∀ j ∈ depsOf ops i, j ∈ T) → InvT P ops ai D T V H → Ext m0 H0 m H → Below B0 w0 w → Rel P B0 m H w →
      ARel m { asg ops T V ai with defers := ds } a' → BGo P ro ops Q (sans ops ai) fuel D { asg ops D V ai with defers := ds } H → LiftQ P B0 m0 H0 w0 (Up Q) .normal a' w := by
    intro fuel D T V H ds m w a' hno hI hE hB hr ha hg
    have hDT : ∀ i ∈ D, i ∈ T := fun i hi => Classical.byContradiction fun hc => by
      obtain ⟨k, hk, hkT, hd⟩ := hI.ord.first ⟨i, hi, hc⟩
      exact hno k (hI.dcl k hk).1 hkT hd
    have hnil : readyL ops D = [] := List.eq_nil_iff_forall_not_mem.2 fun i hi => by
      obtain ⟨h1, h2, h3⟩ := ready_mem.1 hi
      exact hno i h1 (fun hc => h2 (hI.sub i hc)) fun j hj => hDT j (h3 j hj)
    cases fuel with
    | zero => exact hg.elim
    | succ fuel =>
      simp only [BGo, hnil, List.find?_nil] at hg
      have hq := hg.1 trivial
      have e : asg ops D V ai = asg ops T V ai := by
        unfold asg
        congr 1
        funext t
        cases hf : D.find? (fun z => dstOf ops z == some t) with
        | none =>
          cases hg' : T.find? (fun z => dstOf ops z == some t) with
          | none => rfl
          | some z =>
            have := List.find?_eq_none.1 hf z (hI.sub z (List.mem_of_find?_eq_some hg'))
            have h2 := List.find?_some hg'
            exact absurd h2 this
        | some z =>
          have hz := List.mem_of_find?_eq_some hf
          have hd := List.find?_some hf
          cases hg' : T.find? (fun z => dstOf ops z == some t) with
          | none => exact absurd hd (List.find?_eq_none.1 hg' z (hDT z hz))
          | some z' =>
            have hz' := List.mem_of_find?_eq_some hg'
            have hd' := List.find?_some hg'
            have := wfT_dst hw (hI.dcl z hz).1 (hI.dcl z' (hI.sub z' hz')).1 (d := t) (by simpa using hd) (by simpa using hd')
            subst this
            rfl
      rw [e] at hq
      exact ⟨.normal, _, _, _, up_self hq, hE, hr, ha, hB, rfl⟩
  induction fuelσ with
  | zero =>
    intro fuel listed D T V H ds m w a' t hl hs hun hI hBl hE hB hf hr ha hg
    simp only [Region.linearise.go, List.reverse_nil, wpOpsIn]
    refine hend (fun i hi hiT _ => ?_) hI hE hB hr ha hg
    have := unlisted_cons hi hiT
    omega
  | succ fuelσ ih =>
    intro fuel listed D T V H ds m w a' t hl hs hun hI hBl hE hB hf hr ha hg
    simp only [Region.linearise.go]
    change wpOpsIn F n P ops _ (match (Region.ready .any ops listed)[t % (Region.ready .any ops listed).length]? with
      | some i => Region.linearise.go .any ops fuelσ (t / (Region.ready .any ops listed).length) (listed.setIfInBounds i true) [i]
      | none => [].reverse) a' w
    cases hi : (Region.ready .any ops listed)[t % (Region.ready .any ops listed).length]? with
    | none =>
      have hnil : Region.ready .any ops listed = [] := by
        cases hr : Region.ready .any ops listed with
        | nil => rfl
        | cons x xs =>
          rw [hr] at hi
          have hlt : t % (x :: xs).length < (x :: xs).length := Nat.mod_lt _ (by simp)
          simp at hi
          simp at hlt
          omega
      simp only [List.reverse_nil, wpOpsIn]
      refine hend (fun i hi hiT hd => ?_) hI hE hB hr ha hg
      have := (hready hl hs i).2 ⟨hi, hiT, hd⟩
      rw [hnil] at this
      cases this
    | some i =>
      simp only []
      rw [linearise_go_acc, List.reverse_singleton, List.singleton_append]
      obtain ⟨h1, h2, h3⟩ := (hready hl hs i).1 (List.mem_of_getElem? hi)
      obtain ⟨o, ho⟩ := get_of_lt h1
      have hl' : ∀ j, (listed.setIfInBounds i true).getD j false = true ↔ j ∈ i :: T := by
        intro j
        have hlt : i < listed.size := by rw [hs]; exact h1
        simp only [Array.getD_eq_getD_getElem?, List.mem_cons]
        by_cases e : j = i
        · subst e; simp [hlt]
        · rw [Array.getElem?_setIfInBounds_ne (Ne.symm e), ← Array.getD_eq_getD_getElem?, hl j]
          simp [e]
      have hs' : (listed.setIfInBounds i true).size = ops.size := by simpa using hs
      have hun' : unlisted ops (i :: T) ≤ fuelσ := by have := unlisted_cons h1 h2; omega
      obtain ⟨fuel', D', V', H', hI', hBl', hE', hr', hV', hn, hnm, hg'⟩ := goT_norm htt hw fuel hI hBl hE hr hg
      have haT : asg ops T V ai = asg ops T V' ai := (asg_V hV').symm
      rw [haT] at ha
      have hlook : ∀ {X : List Nat} {W : Nat → Value}, (∀ z ∈ X, z < ops.size) → (∀ z ∈ X, ∀ j ∈ depsOf ops z, j ∈ X) → (∀ j ∈ depsOf ops i, j ∈ X) → i ∉ X → ∀ s ∈ looks ops i, (asg ops X W ai).f s = (asg ops (depsOf ops i) W ai).f s :=
        fun hX hXc hXd hiX s hs => lookT hw h1 hX hXd (.inr ⟨hiX, hXc⟩) hs
      have hTl : ∀ z ∈ T, z < ops.size := fun z hz => (hI'.dcl z (hI'.sub z hz)).1
      have hlT := hlook (X := T) (W := V') hTl hI'.tcl h3 h2
      simp only [wpOpsIn, ho]
      by_cases hiD : i ∈ D'
      · -- the plan has done it
        obtain ⟨o', ho', hx⟩ := hI'.lag i hiD h2
        rw [ho] at ho'
        cases ho'
        have hI2 := hI'.step hiD h3
        have hVV : vset V' i (V' i) = V' := by funext j; simp only [vset]; split <;> simp_all
        have hBl2 : Blank ops D' (i :: T) V' m H0 := fun k hk hkT => hBl' k hk fun hc => hkT (List.mem_cons_of_mem _ hc)
        have off : aWanted ops (asg ops (depsOf ops i) V' ai) o = some false → V' i = undef → Region.wanted o (yielded ops a'.tmps) = false ∧ wpOpsIn F n P ops (LiftQ P B0 m0 H0 w0 (Up Q)) (Region.linearise.go .any ops fuelσ (t / (Region.ready .any ops listed).length) (listed.setIfInBounds i true) []) (a'.put o.dst undef) w := by
          intro hw1 hu
          have hwT : aWanted ops ({ asg ops T V' ai with defers := ds } : AAct) o = some false := by rw [← hw1]; exact wanted_congr ho hlT
          refine ⟨aWanted_sound ha hwT, ?_⟩
          have hput := put_sound (dst := o.dst) ha (v := undef) (v' := undef) (.tuple .nil .nil)
          rw [← hu, put_asg ho h2, hVV] at hput
          rw [hu] at hput
          exact ih _ hl' hs' hun' hI2 hBl2 hE' hB hf hr' hput hg'
        rcases hx with ⟨hfl, ⟨hw1, hp⟩ | ⟨hw1, hu⟩⟩ | ⟨hmk, ⟨hw1, b, mk, z, hal, hVz, hHz⟩ | ⟨hw1, hu⟩⟩
        · -- it computes
          have hwT : aWanted ops ({ asg ops T V' ai with defers := ds } : AAct) o = some true := by rw [← hw1]; exact wanted_congr ho hlT
          have hpT : aPure P (({ asg ops T V' ai with defers := ds } : AAct).eval P) H' o.op = some (V' i) := by rw [← hp]; exact aPure_congr (eval_congr ho hlT)
          rw [aWanted_sound ha hwT]
          simp only [if_true]
          refine ⟨fun f _ => hf.fn f, ?_⟩
          obtain ⟨v', q1, q2⟩ := aPure_sound hr' ha hpT
          rw [semAt_exec (by rintro c hc; rw [hc] at hpT; simp [aPure] at hpT), q1]
          have hput := put_sound (dst := o.dst) ha q2
          rw [put_asg ho h2, hVV] at hput
          exact ih _ hl' hs' hun' hI2 hBl2 hE' hB hf hr' hput hg'
        · obtain ⟨e1, e2⟩ := off hw1 hu
          rw [e1]
          simp only [Bool.false_eq_true, if_false]
          exact ⟨fun f _ => hf.fn f, e2⟩
        · -- it makes the block that memory is said to have
          have hmkA : mkAt ops i = true := by simp [mkAt, ho, hmk]
          have hnz : nameOf (V' i) = some z := by rw [hVz]; exact nameOf_mk hal z
          obtain ⟨hmz, hH0z⟩ := hBl' i hiD h2 hmkA z hnz
          have hwT : aWanted ops ({ asg ops T V' ai with defers := ds } : AAct) o = some true := by rw [← hw1]; exact wanted_congr ho hlT
          have halT : aAlloc P (({ asg ops T V' ai with defers := ds } : AAct).eval P) o.op = some (b, mk) := by rw [← hal]; exact aAlloc_congr (eval_congr ho hlT)
          rw [aWanted_sound ha hwT]
          simp only [if_true]
          refine ⟨fun f _ => hf.fn f, ?_⟩
          have hH2 : upd (fun j => if j = z then none else H' j) z b = H' := by
            funext j
            simp only [upd]
            split
            · rename_i e; rw [e, hHz]
            · rfl
          obtain ⟨v', ob, fz, q1, q2, q3⟩ := aAlloc_sound (hr'.without hmz) ha halT (i := z) hmz (by simp)
          rw [hH2] at q2
          rw [semAt_exec (by rintro c hc; rw [hc] at halT; simp [aAlloc] at halT), q1]
          have hput := put_sound (dst := o.dst) (ha.mono (nset_le hmz)) q3
          rw [← hVz, put_asg ho h2, hVV] at hput
          refine ih _ hl' hs' hun' hI2 (fun k hk hkT mk' z' hz' => ?_) ⟨NMap.le_trans hE'.le (nset_le hmz), fun ht j hj => ?_⟩ (hB.trans ((Below.refl B0 w).alloc hr'.base _)) (hf.mono (nset_le hmz)) q2 hput hg'
          · have hkT' : k ∉ T := fun hc => hkT (List.mem_cons_of_mem _ hc)
            have hki : k ≠ i := by rintro rfl; exact hkT List.mem_cons_self
            have hne : z' ≠ z := by
              rintro rfl
              exact hI'.dist k hk hkT' i hiD h2 hki mk' hmkA z' hz' hnz
            obtain ⟨g1, g2⟩ := hBl' k hk hkT' mk' z' hz'
            exact ⟨by simp [nset, hne, g1], g2⟩
          · have hne : j ≠ z := by rintro rfl; exact hj hH0z
            obtain ⟨g1, g2⟩ := hE'.same ht j hj
            exact ⟨by simp [nset, hne, g1], g2⟩
        · obtain ⟨e1, e2⟩ := off hw1 hu
          rw [e1]
          simp only [Bool.false_eq_true, if_false]
          exact ⟨fun f _ => hf.fn f, e2⟩
      · -- the plan does it now
        have hiR : i ∈ readyL ops D' := ready_mem.2 ⟨h1, hiD, fun j hj => hI'.sub j (h3 j hj)⟩
        have hlD := hlook (X := D') (W := V') (fun z hz => (hI'.dcl z hz).1) (fun z hz => (hI'.dcl z hz).2) (fun j hj => hI'.sub j (h3 j hj)) hiD
        have hlDT : ∀ s ∈ looks ops i, ({ asg ops D' V' ai with defers := ds } : AAct).f s = ({ asg ops T V' ai with defers := ds } : AAct).f s := fun s hs => (hlD s hs).trans (hlT s hs).symm
        simp only [BGo, hn, hnm] at hg'
        have hgi := hg'.2 i hiR
        rw [ho] at hgi
        obtain ⟨b, hb, ht, hfa⟩ := hgi
        have hbT : aWanted ops ({ asg ops T V' ai with defers := ds } : AAct) o = some b := by rw [← hb]; exact (wanted_congr ho hlDT).symm
        rw [aWanted_sound ha hbT]
        have blank : ∀ {v : Value} {H1 : AHeap} {m1 : NMap}, Ext m H' m1 H1 → Blank ops (i :: D') (i :: T) (vset V' i v) m1 H0 := by
          intro v H1 m1 hE1 k hk hkT mk' z' hz'
          have hki : k ≠ i := by rintro rfl; exact hkT List.mem_cons_self
          have hkD : k ∈ D' := by simpa [hki] using hk
          have hkT' : k ∉ T := fun hc => hkT (List.mem_cons_of_mem _ hc)
          have hz2 : nameOf (V' k) = some z' := by simpa [vset, hki] using hz'
          obtain ⟨g1, g2⟩ := hBl' k hkD hkT' mk' z' hz2
          obtain ⟨o', ho', hx⟩ := hI'.lag k hkD hkT'
          exact ⟨by rw [(hE1.same htt z' (hx.inH ho' mk' hz2)).1]; exact g1, g2⟩
        cases b with
        | true =>
          simp only [if_true]
          have hop : AOp P ro { asg ops T V' ai with defers := ds } H' o.dst o.op (fun a1 H1 => ∃ v ds2, a1 = { asg ops (i :: T) (vset V' i v) ai with defers := ds2 } ∧ AgainT P ops i { asg ops (i :: D') (vset V' i v) ai with defers := ds2 } H1 D' ∧
              BGo P ro ops Q (sans ops ai) fuel' (i :: D') { asg ops (i :: D') (vset V' i v) ai with defers := ds2 } H1) (fun v H1 => Up Q (.panic v) { asg ops T V' ai with defers := ds } H1) := by
            refine AOp_congr (eval_congr ho hlDT) rfl (fun v ds2 H2 hk => ?_) (fun v H2 hx => up_sans hTl hx) (ht rfl)
            have e1 := put_asg (V := V') (v := v) (ai := ai) (ds := ds2) ho hiD
            have e2 := put_asg (V := V') (v := v) (ai := ai) (ds := ds2) ho h2
            simp only at e1 e2 hk ⊢
            rw [e1] at hk
            exact ⟨v, ds2, e2, hk.1, hk.2⟩
          refine AOp_sound hf hr' ha ?_ ?_ hop
          · rintro a1 w1 ⟨a2, H1, m1, ⟨v, ds2, rfl, hk1, hk2⟩, hE1, hr1, ha1, hB1⟩
            exact ih _ hl' hs' hun' (hI'.both hw hiD h1 h3 (.inr hk1)) (blank hE1) (hE'.trans hE1) (hB.trans hB1) (hf.mono hE1.le) hr1 ha1 hk2
          · intro v v' H1 m1 w1 hx hE1 hr1 hB1 hv
            exact ⟨.panic v, _, H1, m1, hx, hE'.trans hE1, hr1, ha.mono hE1.le, hB.trans hB1, v', rfl, hv⟩
        | false =>
          simp only [Bool.false_eq_true, if_false]
          refine ⟨fun f _ => hf.fn f, ?_⟩
          have hk := hfa rfl
          rw [put_asg ho hiD] at hk
          have hput := put_sound (dst := o.dst) ha (v := undef) (v' := undef) (.tuple .nil .nil)
          rw [put_asg ho h2] at hput
          exact ih _ hl' hs' hun' (hI'.both (ds := ds) hw hiD h1 h3 (.inl rfl)) (blank (Ext.refl m H')) hE' hB hf hr' hput hk

/-- A region that draws its order. -/
theorem AWp_drawT {id : Nat} (k : Nat) (htt : TT.tt = true) (hmix : P.follows .mixedOrders = true) (hw : wfT ops a.n = true) (h : BGo P ro ops Q (sans ops a) k [] a H) : AWp P ro (.region id ops true) Q a H := by
  intro B0 m w a' F hr ha hf n
  refine wpIn_mono (wpIn_region_draw (Q := LiftQ P B0 m H w (Up Q)) fun t => ?_) fun _ _ _ hl => LiftQ_up hl
  have hs : Region.schedule (P.follows .mixedOrders) ops t = Region.linearise.go .any ops ops.size t (Array.replicate ops.size false) [] := by
    simp only [Region.schedule, hmix, Bool.true_or, if_true]
    rfl
  rw [hs]
  have hI : InvT P ops a [] [] (fun _ => undef) H := ⟨fun _ h => h, fun _ h => (by cases h), fun _ h => (by cases h), fun _ h => (by cases h), trivial, fun _ h => (by cases h)⟩
  have hr' : Rel P B0 m H { w with drawn := w.drawn + 1 } := hr.of_heap rfl
  have hB : Below B0 w { w with drawn := w.drawn + 1 } := Below.drew (Below.refl _ _)
  exact simT htt hw ops.size (fuel := k) (listed := Array.replicate ops.size false) (T := []) (ds := a.defers) t (fun j => by rw [Array.getD_eq_getD_getElem?, Array.getElem?_replicate]; split <;> simp) (by simp) (Nat.le_trans (List.length_filter_le _ _) (by simp)) hI (fun _ h => (by cases h)) (Ext.refl _ _) hB hf hr' ha h
end
end Go.Ab

/- ABSTRACT MEMORY, 21: closed runs, reckoned: the reckoner. -/
namespace Go.Ab
open Go Go.RowKit

/-! ### A tree of slots -/
inductive Tr (α : Type) where
  | nil
  | node (l : Tr α) (v : Option α) (r : Tr α)
noncomputable def Tr.get {α : Type} (t : Tr α) : Nat → Option α :=
  Tr.rec (motive := fun _ => Nat → Option α) (fun _ => none) (fun _ v _ gl gr k => Nat.rec (motive := fun _ => Option α) v (fun j _ => Nat.rec (motive := fun _ => Option α) (gl (Nat.div j 2)) (fun _ _ => gr (Nat.div j 2)) (Nat.mod j 2)) k) t
noncomputable def Tr.set {α : Type} (d : Nat) : Tr α → Nat → α → Tr α :=
  Nat.rec (motive := fun _ => Tr α → Nat → α → Tr α) (fun t _ _ => t) (fun _ ih t k v => Tr.rec (motive := fun _ => Tr α)
    (Nat.rec (motive := fun _ => Tr α) (.node .nil (some v) .nil) (fun j _ => Nat.rec (motive := fun _ => Tr α) (.node (ih .nil (Nat.div j 2) v) none .nil) (fun _ _ => .node .nil none (ih .nil (Nat.div j 2) v)) (Nat.mod j 2)) k)
    (fun l x r _ _ => Nat.rec (motive := fun _ => Tr α) (.node l (some v) r) (fun j _ => Nat.rec (motive := fun _ => Tr α) (.node (ih l (Nat.div j 2) v) x r) (fun _ _ => .node l x (ih r (Nat.div j 2) v)) (Nat.mod j 2)) k) t) d

section
variable {α : Type}
theorem beq_iff {a b : Nat} : Nat.beq a b = decide (a = b) := by
  by_cases h : a = b
  · subst h; simp
  · simp only [h, decide_false]
    cases hb : Nat.beq a b with
    | false => rfl
    | true => exact absurd (Nat.eq_of_beq_eq_true hb) h
theorem Tr.get_nil {k : Nat} : (Tr.nil : Tr α).get k = none := rfl
theorem half_odd {j : Nat} (h : j % 2 = 0) : (j + 1) % 2 = 1 ∧ (j + 1) / 2 = j / 2 := by omega
theorem half_even {j : Nat} (h : j % 2 = 1) : (j + 1) % 2 = 0 ∧ (j + 1) / 2 - 1 = j / 2 := by omega
theorem mod2 (j : Nat) : j % 2 = 0 ∨ j % 2 = 1 := by omega
theorem Tr.get_node {l r : Tr α} {v : Option α} {k : Nat} : (Tr.node l v r).get k = if k = 0 then v else if k % 2 = 1 then l.get (k / 2) else r.get (k / 2 - 1) := by
  cases k with
  | zero => rfl
  | succ j =>
    have e : (Tr.node l v r).get (j + 1) = Nat.rec (motive := fun _ => Option α) (l.get (j / 2)) (fun _ _ => r.get (j / 2)) (j % 2) := rfl
    rw [e, if_neg (by omega)]
    rcases mod2 j with h | h
    · rw [h, if_pos (half_odd h).1, (half_odd h).2]
      rfl
    · rw [h, if_neg (by rw [(half_even h).1]; simp), (half_even h).2]
      rfl
theorem Tr.set_node {d k : Nat} {l r : Tr α} {x : Option α} {v : α} : Tr.set (d + 1) (.node l x r) k v = if k = 0 then Tr.node l (some v) r else if k % 2 = 1 then Tr.node (Tr.set d l (k / 2) v) x r else Tr.node l x (Tr.set d r (k / 2 - 1) v) := by
  cases k with
  | zero => rfl
  | succ j =>
    have e : Tr.set (d + 1) (.node l x r) (j + 1) v = Nat.rec (motive := fun _ => Tr α) (.node (Tr.set d l (j / 2) v) x r) (fun _ _ => .node l x (Tr.set d r (j / 2) v)) (j % 2) := rfl
    rw [e, if_neg (by omega)]
    rcases mod2 j with h | h
    · rw [h, if_pos (half_odd h).1, (half_odd h).2]
      rfl
    · rw [h, if_neg (by rw [(half_even h).1]; simp), (half_even h).2]
      rfl
theorem Tr.set_nil {d k : Nat} {v : α} : Tr.set (d + 1) .nil k v = Tr.set (d + 1) (.node .nil none .nil) k v := by
  cases k with
  | zero => rfl
  | succ j => rfl
theorem Tr.get_set {d : Nat} : ∀ {t : Tr α} {k j : Nat} {v : α}, k + 1 < 2 ^ d → (Tr.set d t k v).get j = if j = k then some v else t.get j := by
  induction d with
  | zero => intro t k j v h; simp at h
  | succ d ih =>
    have key : ∀ {l r : Tr α} {x : Option α} {k j : Nat} {v : α}, k + 1 < 2 ^ (d + 1) → (Tr.set (d + 1) (.node l x r) k v).get j = if j = k then some v else (Tr.node l x r).get j := by
      intro l r x k j v h
      rw [Nat.pow_succ] at h
      rw [Tr.set_node]
      by_cases h0 : k = 0
      · subst h0
        simp only [if_true, Tr.get_node]
        by_cases hj : j = 0 <;> simp [hj]
      · simp only [h0, if_false]
        by_cases h1 : k % 2 = 1
        · simp only [h1, if_true, Tr.get_node]
          rw [ih (by omega)]
          by_cases hj : j = 0
          · subst hj; simp; omega
          · simp only [hj, if_false]
            by_cases hj1 : j % 2 = 1
            · simp only [hj1, if_true]
              by_cases e : j = k
              · subst e; simp
              · have : j / 2 ≠ k / 2 := by omega
                simp [e, this]
            · have : j ≠ k := by rintro rfl; exact hj1 h1
              simp [hj1, this]
        · simp only [h1, if_false, Tr.get_node]
          rw [ih (by omega)]
          by_cases hj : j = 0
          · subst hj; simp; omega
          · simp only [hj, if_false]
            by_cases hj1 : j % 2 = 1
            · have : j ≠ k := by rintro rfl; exact h1 hj1
              simp [hj1, this]
            · simp only [hj1, if_false]
              by_cases e : j = k
              · subst e; simp
              · have : j / 2 - 1 ≠ k / 2 - 1 := by omega
                simp [e, this]
    intro t k j v h
    cases t with
    | nil =>
      rw [Tr.set_nil, key h, Tr.get_node]
      simp [Tr.get_nil]
    | node l x r => exact key h
end

/-! ### Where a piece of code stands -/
class PR where
  prog : Program
inductive Loc where
  | top (f : Nat)
  | l (p : Loc)
  | r (p : Loc)
def kidL : Code → Code
  | .seq a _ => a
  | .cond _ a _ => a
  | .block _ a => a
  | .loop a => a
  | .scope a => a
  | .rangeFunc _ _ a _ => a
  | _ => .skip
def kidR : Code → Code
  | .seq _ b => b
  | .cond _ _ b => b
  | .rangeFunc _ _ _ b => b
  | _ => .skip
def bodyOf (P : Program) (f : Nat) : Code := ((P.funcs[f]?).bind fun fn => fn.body).getD .skip
noncomputable def codeGet [PR] (p : Loc) : Code := Loc.rec (motive := fun _ => Code) (fun f => bodyOf PR.prog f) (fun _ c => kidL c) (fun _ c => kidR c) p
noncomputable def locEq (p : Loc) : Loc → Bool :=
  Loc.rec (motive := fun _ => Loc → Bool) (fun f q => Loc.rec (motive := fun _ => Bool) (fun g => Nat.beq f g) (fun _ _ => false) (fun _ _ => false) q)
    (fun _ ih q => Loc.rec (motive := fun _ => Bool) (fun _ => false) (fun q' _ => ih q') (fun _ _ => false) q) (fun _ ih q => Loc.rec (motive := fun _ => Bool) (fun _ => false) (fun _ _ => false) (fun q' _ => ih q') q) p
theorem locEq_eq {p : Loc} : ∀ {q : Loc}, locEq p q = true → p = q := by
  induction p with
  | top f => intro q h; cases q with
    | top g => rw [Nat.eq_of_beq_eq_true (show Nat.beq f g = true from h)]
    | _ => exact absurd h (by simp [locEq])
  | l p ih => intro q h; cases q with
    | l q => rw [ih (show locEq p q = true from h)]
    | _ => exact absurd h (by simp [locEq])
  | r p ih => intro q h; cases q with
    | r q => rw [ih (show locEq p q = true from h)]
    | _ => exact absurd h (by simp [locEq])

/-! ### The state -/
structure XLoop where
  state : LoopState
  pending : Option Code
  n : Nat
  t : Tr (Option Value)
  params : Array Tmp
  loc : Loc
inductive XB where
  | dead
  | cells (cs : List Value) (e : TypeId) (k : BKind)
  | map (es : List (Value × Value))
  | loop (L : XLoop)
  | defs
section
variable [PR]
noncomputable def tF (t : Tr (Option Value)) : Nat → Option Value := fun x => Option.casesOn (motive := fun _ => Option Value) (t.get x) (some undef) fun o => o
noncomputable def XLoop.a (L : XLoop) : ALoop := ⟨L.state, L.pending, ⟨L.n, tF L.t⟩, L.params, codeGet (.l L.loc), codeGet (.r L.loc)⟩
noncomputable def XB.a : XB → ABlk
  | .dead => .dead
  | .cells cs e k => .cells cs e k
  | .map es => .map es
  | .loop L => .loop L.a
  | .defs => .defs
def XB.of : ABlk → Option XB
  | .dead => some .dead
  | .cells cs e k => some (.cells cs e k)
  | .map es => some (.map es)
  | .defs => some .defs
  | .loop _ => none
theorem XB.of_a {b : ABlk} {x : XB} (h : XB.of b = some x) : x.a = b := by cases b <;> cases h <;> rfl
structure Mem where
  h : Tr XB
  nx : Nat
noncomputable def Mem.H (m : Mem) : AHeap := fun i => Option.casesOn (motive := fun _ => Option ABlk) (m.h.get i) none fun b => some b.a
structure St where
  n : Nat
  t : Tr (Option Value)
  ds : List Deferred
  m : Mem
noncomputable def St.a (s : St) : AAct := ⟨s.n, tF s.t, s.ds⟩
noncomputable def St.H (s : St) : AHeap := s.m.H
/-- A block is written. -/
noncomputable def Mem.put (m : Mem) (i : Nat) (b : XB) : Mem := ⟨Tr.set 40 m.h i b, m.nx⟩
/-- A block is made. -/
noncomputable def Mem.new (m : Mem) (b : XB) : Mem := ⟨Tr.set 40 m.h m.nx b, Nat.succ m.nx⟩
noncomputable def Mem.free (m : Mem) : Bool := Option.casesOn (motive := fun _ => Bool) (m.h.get m.nx) (Nat.ble m.nx 1000000000) fun _ => false
/-- A slot is written; an unknown slot beyond the last is not. -/
noncomputable def St.put (s : St) (dst : Option Tmp) (v : Value) : St :=
  Option.casesOn (motive := fun _ => St) dst s fun d => { s with t := Tr.set 40 s.t d (some (cond (Nat.ble (Nat.succ d) s.n) v undef)) }
noncomputable def slotOK (dst : Option Tmp) : Bool := Option.casesOn (motive := fun _ => Bool) dst true fun d => Nat.ble d 1000000000

section
theorem lt40 {k : Nat} (h : Nat.ble k 1000000000 = true) : k + 1 < 2 ^ 40 := by
  have _ := PR.prog
  have h1 : k ≤ 1000000000 := Nat.le_of_ble_eq_true h
  have h2 : (1000000000 : Nat) + 1 < 2 ^ 40 := by decide
  exact Nat.lt_of_le_of_lt (Nat.succ_le_succ h1) h2
theorem tF_set {t : Tr (Option Value)} {d : Nat} {o : Option Value} (h : Nat.ble d 1000000000 = true) : tF (Tr.set 40 t d o) = fun x => if x = d then o else tF t x := by
  funext x
  unfold tF
  rw [Tr.get_set (lt40 h)]
  by_cases e : x = d
  · simp only [e, if_true]
  · simp only [e, if_false]
theorem ble_cond {d n : Nat} {v : Value} : some (cond (Nat.ble (Nat.succ d) n) v undef) = if d < n then some v else some undef := by
  have _ := PR.prog
  by_cases hl : d < n
  · rw [Nat.ble_eq_true_of_le (Nat.succ_le_of_lt hl), if_pos hl]; rfl
  · have : Nat.ble (Nat.succ d) n = false := by
      cases hb : Nat.ble (Nat.succ d) n with
      | false => rfl
      | true => exact absurd (Nat.le_of_ble_eq_true hb) hl
    rw [this, if_neg hl]; rfl
theorem St.put_a {s : St} {dst : Option Tmp} {v : Value} (h : slotOK dst = true) : (s.put dst v).a = s.a.put dst v := by
  cases dst with
  | none => rfl
  | some d =>
    have e : (s.put (some d) v).a = ⟨s.n, tF (Tr.set 40 s.t d (some (cond (Nat.ble (Nat.succ d) s.n) v undef))), s.ds⟩ := rfl
    rw [e, tF_set h, ble_cond]
    rfl
theorem St.put_H {s : St} {dst : Option Tmp} {v : Value} : (s.put dst v).H = s.H := by cases dst <;> rfl
theorem St.put_m {s : St} {dst : Option Tmp} {v : Value} : (s.put dst v).m = s.m := by have _ := PR.prog; cases dst <;> rfl
theorem Mem.put_H {m : Mem} {i : Nat} {b : XB} (h : Nat.ble i 1000000000 = true) : (m.put i b).H = upd m.H i b.a := by
  funext j
  unfold Mem.H Mem.put upd
  simp only
  rw [Tr.get_set (lt40 h)]
  by_cases e : j = i
  · subst e; simp
  · simp [e]
theorem Mem.new_H {m : Mem} {b : XB} (h : m.free = true) : (m.new b).H = upd m.H m.nx b.a ∧ m.H m.nx = none := by
  unfold Mem.free at h
  cases hg : m.h.get m.nx with
  | some x => rw [hg] at h; cases h
  | none =>
    rw [hg] at h
    refine ⟨?_, by simp [Mem.H, hg]⟩
    funext j
    unfold Mem.H Mem.new upd
    simp only
    rw [Tr.get_set (lt40 h)]
    by_cases e : j = m.nx
    · subst e; simp
    · simp [e]
end

end

/-! ### Are two values the same? -/
def adEq : Option Addr → Option Addr → Bool
  | none, none => true
  | some ⟨i, o, none⟩, some ⟨j, p, none⟩ => Nat.beq i j && Nat.beq o p
  | _, _ => false
theorem adEq_eq {a b : Option Addr} (h : adEq a b = true) : a = b := by
  unfold adEq at h
  split at h
  · rfl
  · simp only [Bool.and_eq_true] at h; rw [Nat.eq_of_beq_eq_true h.1, Nat.eq_of_beq_eq_true h.2]
  · cases h
def rfEq : Option Nat → Option Nat → Bool
  | none, none => true
  | some i, some j => Nat.beq i j
  | _, _ => false
theorem rfEq_eq {a b : Option Nat} (h : rfEq a b = true) : a = b := by
  unfold rfEq at h
  split at h
  · rfl
  · rw [Nat.eq_of_beq_eq_true h]
  · cases h
def veqW (f : Value → Value → Bool) (g : List Value → List Value → Bool) (u v : Value) : Bool :=
  match u with
  | .bool a => (match v with | .bool b => a == b | _ => false)
  | .int j a => (match v with | .int k b => decide (j = k) && decide (a = b) | _ => false)
  | .string a => (match v with | .string b => decide (a = b) | _ => false)
  | .pointer a => (match v with | .pointer b => adEq a b | _ => false)
  | .slice a n c => (match v with | .slice b n' c' => adEq a b && Nat.beq n n' && Nat.beq c c' | _ => false)
  | .map a => (match v with | .map b => rfEq a b | _ => false)
  | .func h a c => (match v with | .func k b d => decide (h = k) && g a.toList b.toList && g c.toList d.toList | _ => false)
  | .nilFunc => (match v with | .nilFunc => true | _ => false)
  | .nilIface => (match v with | .nilIface => true | _ => false)
  | .iface t a => (match v with | .iface s b => Nat.beq t s && f a b | _ => false)
  | .agg a => (match v with | .agg b => g a.toList b.toList | _ => false)
  | .tuple a => (match v with | .tuple b => g a.toList b.toList | _ => false)
  | _ => false
def vseqW (f : Value → Value → Bool) (g : List Value → List Value → Bool) : List Value → List Value → Bool
  | [], [] => true
  | u :: us, v :: vs => f u v && g us vs
  | _, _ => false
def veqN : Nat → (Value → Value → Bool) × (List Value → List Value → Bool)
  | 0 => (fun _ _ => false, fun _ _ => false)
  | n + 1 => (veqW (veqN n).1 (veqN n).2, vseqW (veqN n).1 (veqN n).2)
def veq (n : Nat) : Value → Value → Bool := (veqN n).1
theorem veqN_eq (n : Nat) : (∀ u v, (veqN n).1 u v = true → u = v) ∧ (∀ us vs, (veqN n).2 us vs = true → us = vs) := by
  induction n with
  | zero => exact ⟨fun u v h => by simp [veqN] at h, fun us vs h => by simp [veqN] at h⟩
  | succ n ih =>
    have arr : ∀ a b : Array Value, (veqN n).2 a.toList b.toList = true → a = b := fun a b h => by
      have := ih.2 _ _ h
      exact Array.toList_inj.1 this
    refine ⟨fun u v h => ?_, fun us vs h => ?_⟩
    · change veqW (veqN n).1 (veqN n).2 u v = true at h
      cases u with
      | bool a => cases v <;> first | cases h; done | (simp [veqW] at h; rw [h])
      | int j a => cases v <;> first | cases h; done | (simp [veqW] at h; rw [h.1, h.2])
      | string a => cases v <;> first | cases h; done | (simp [veqW] at h; rw [h])
      | pointer a => cases v <;> first | cases h; done | (simp only [veqW] at h; rw [adEq_eq h])
      | slice a x y => cases v <;> first | cases h; done | (simp only [veqW, Bool.and_eq_true] at h; rw [adEq_eq h.1.1, Nat.eq_of_beq_eq_true h.1.2, Nat.eq_of_beq_eq_true h.2])
      | map a => cases v <;> first | cases h; done | (simp only [veqW] at h; rw [rfEq_eq h])
      | func f a c => cases v <;> first | cases h; done | (simp only [veqW, Bool.and_eq_true, decide_eq_true_eq] at h; rw [h.1.1, arr _ _ h.1.2, arr _ _ h.2])
      | nilFunc => cases v <;> first | rfl | cases h
      | nilIface => cases v <;> first | rfl | cases h
      | iface t a => cases v <;> first | cases h; done | (simp only [veqW, Bool.and_eq_true] at h; rw [Nat.eq_of_beq_eq_true h.1, ih.1 _ _ h.2])
      | agg a => cases v <;> first | cases h; done | (simp only [veqW] at h; rw [arr _ _ h])
      | tuple a => cases v <;> first | cases h; done | (simp only [veqW] at h; rw [arr _ _ h])
      | _ => cases h
    · change vseqW (veqN n).1 (veqN n).2 us vs = true at h
      unfold vseqW at h
      split at h
      · rfl
      · simp only [Bool.and_eq_true] at h; rw [ih.1 _ _ h.1, ih.2 _ _ h.2]
      · cases h
theorem veq_eq {n : Nat} {u v : Value} (h : veq n u v = true) : u = v := (veqN_eq n).1 u v h

/-! ### The reckoner -/
inductive XR where
  | ok (s : St)
  | pan (v : Value) (m : Mem)
structure Ex where
  code : Option Nat → Loc → St → Option (AExit × St)
  loop : Option Nat → Loc → St → Option (AExit × St)
  codeS : Loc → AMode → St → Option (AExit × AMode × St)
  call : FuncId → List Value → Mem → Option (ARes × Mem)
  dcall : FuncId → List Value → AMode → Mem → Option (Value × AMode × Mem)
  round : Nat → List Value → Mem → Option (ARes × Mem)
def Ex.zero : Ex := ⟨fun _ _ _ => none, fun _ _ _ => none, fun _ _ _ => none, fun _ _ _ => none, fun _ _ _ _ => none, fun _ _ _ => none⟩

section
variable [PR]
noncomputable def xFnVal (X : Ex) (P : Program) (fv : Value) (args : List Value) (m : Mem) : Option (ARes × Mem) :=
  match fv with
  | .func (.func f) ⟨first⟩ ⟨cap⟩ => X.call f (first ++ args ++ cap) m
  | .func (.yield l) ⟨first⟩ _ => X.round l (first ++ args) m
  | .func (.via t path f ptr) ⟨first⟩ _ =>
    match first ++ args with
    | x :: rest => ((aFollow P path.toList t x).bind fun tv => aRecv P tv.1 tv.2 ptr).bind fun u => X.call f (u :: rest) m
    | [] => none
  | _ => none
noncomputable def xInvoke (X : Ex) (P : Program) (rv : Value) (name : String) (args : List Value) (m : Mem) : Option (ARes × Mem) :=
  match rv with
  | .iface t v => (aMethod P t v name).bind fun fu => X.call fu.1 (fu.2 :: args) m
  | _ => none
/-- What a call hands on. -/
noncomputable def xRet (s : St) (dst : Option Tmp) (r : Option (ARes × Mem)) : Option XR :=
  r.bind fun rm => match rm.1 with
    | .ret v => some (.ok ({ s with m := rm.2 }.put dst v))
    | .pan v => some (.pan v rm.2)
noncomputable def xWrite (s : St) (dst : Option Tmp) (v : Value) (i : Nat) (b : ABlk) : Option XR :=
  (XB.of b).bind fun b => cond (Nat.ble i 1000000000) (some (.ok ({ s with m := s.m.put i b }.put dst v))) none
noncomputable def xAppend (P : Program) (s : St) (dst : Option Tmp) (t : TypeId) (u v : Value) : Option XR :=
  (aAppend P s.H t u v).bind fun r =>
    match r with
    | .same v => some (.ok (s.put dst v))
    | .inpl v i b => xWrite s dst v i b
    | .grow _ n b =>
      (XB.of b).bind fun b =>
        match u with
        | .slice none 0 0 => cond s.m.free (some (.ok ({ s with m := s.m.new b }.put dst (.slice (some ⟨s.m.nx, 0, none⟩) n n)))) none
        | .slice (some ⟨i, 0, none⟩) _ _ => cond ((s.m.put i .dead).free && Nat.ble i 1000000000) (some (.ok ({ s with m := (s.m.put i .dead).new b }.put dst (.slice (some ⟨s.m.nx, 0, none⟩) n n)))) none
        | _ => none
noncomputable def xBuiltin (P : Program) (s : St) (dst : Option Tmp) (bi : Builtin) (args : List Operand) (ats : List TypeId) : Option XR :=
  match bi with
  | .append => match args, ats with
    | [x, y], [t, t'] => cond (Nat.beq t' t) ((s.a.eval P x).bind fun u => (s.a.eval P y).bind fun v => xAppend P s dst t u v) none
    | _, _ => none
  | .copy => match args, ats with
    | [x, y], [t, t'] => (s.a.eval P x).bind fun u => (s.a.eval P y).bind fun v => (aCopy P s.H t t' u v).bind fun r =>
        match r.2 with
        | none => some (.ok (s.put dst (.int .i64 r.1)))
        | some (i, b) => xWrite s dst (.int .i64 r.1) i b
    | _, _ => none
  | .clear => match args, ats with
    | [x], [t] => (s.a.eval P x).bind fun u => (aClear P s.H t u).bind fun r =>
        match r with
        | none => some (.ok (s.put dst (.tuple #[])))
        | some (i, b) => xWrite s dst (.tuple #[]) i b
    | _, _ => none
  | .panic => match args with
    | [x] => (s.a.eval P x).bind fun u => match u with | .iface t v => some (.pan (.iface t v) s.m) | _ => none
    | _ => none
  | _ => none
noncomputable def xCall (X : Ex) (P : Program) (s : St) (dst : Option Tmp) (c : Call) : Option XR :=
  match c.callee with
  | .value f => (s.a.eval P f).bind fun fv => (evs (s.a.eval P) c.args.toList).bind fun vs => xRet s dst (xFnVal X P fv vs s.m)
  | .invoke r name => (s.a.eval P r).bind fun rv => (evs (s.a.eval P) c.args.toList).bind fun vs => xRet s dst (xInvoke X P rv name vs s.m)
  | .builtin b => xBuiltin P s dst b c.args.toList c.argTypes.toList
noncomputable def xDefer (P : Program) (ro : Option Nat) (s : St) (dst : Option Tmp) (c : Call) : Option XR :=
  match ro, c.callee with
  | none, .value f => (s.a.eval P f).bind fun fv => (evs (s.a.eval P) c.args.toList).bind fun vs =>
      match fv with
      | .func fn ⟨first⟩ cap => some (.ok ({ s with ds := ⟨.fn fn cap, ⟨first ++ vs⟩⟩ :: s.ds }.put dst undef))
      | _ => none
  | _, _ => none
noncomputable def xEff (X : Ex) (P : Program) (ro : Option Nat) (s : St) (dst : Option Tmp) (op : Op) : Option XR :=
  match op with
  | .store t x y => (s.a.eval P x).bind fun u => (s.a.eval P y).bind fun v =>
      match u with
      | .pointer (some ⟨i, o, none⟩) => if tSize P t = some v.cells.size then ((s.H i).bind fun b => storeB b o v.cells.toList).bind fun b => xWrite s dst undef i b else none
      | _ => none
  | .mapUpdate t x k y => (s.a.eval P x).bind fun u => (s.a.eval P k).bind fun kv => (s.a.eval P y).bind fun v => (mapSet P s.H t u kv v).bind fun r => xWrite s dst undef r.1 r.2
  | .insert t x k y => (s.a.eval P x).bind fun u => (s.a.eval P k).bind fun kv => (s.a.eval P y).bind fun v => (mapSet P s.H t u kv v).bind fun r => xWrite s dst undef r.1 r.2
  | .call c => xCall X P s dst c
  | .panic x => (s.a.eval P x).bind fun u => match u with | .iface t v => some (.pan (.iface t v) s.m) | _ => none
  | .defer c => xDefer P ro s dst c
  | _ => none
noncomputable def xOp (X : Ex) (P : Program) (ro : Option Nat) (s : St) (dst : Option Tmp) (op : Op) : Option XR :=
  cond (slotOK dst)
    (match aPure P (s.a.eval P) s.H op with
    | some v => some (.ok (s.put dst v))
    | none =>
      match aAlloc P (s.a.eval P) op with
      | some (b, mk) => (XB.of b).bind fun b => cond s.m.free (some (.ok ({ s with m := s.m.new b }.put dst (mk s.m.nx)))) none
      | none => xEff X P ro s dst op)
    none
/-- A region in the text's order. -/
noncomputable def xOps (X : Ex) (P : Program) (ro : Option Nat) (ops : List Oper) : List Oper → St → Option (AExit × St)
  | [], s => some (.normal, s)
  | o :: l, s => (aWanted ⟨ops⟩ s.a o).bind fun b =>
      cond b ((xOp X P ro s o.dst o.op).bind fun r => match r with | .ok s' => xOps X P ro ops l s' | .pan v m => some (.panic v, { s with m := m }))
        (cond (slotOK o.dst) (xOps X P ro ops l (s.put o.dst undef)) none)
def kEq : BKind → BKind → Bool
  | .ro, .ro => true
  | .var, .var => true
  | .row, .row => true
  | _, _ => false
def beqB : ABlk → ABlk → Bool
  | .cells cs e k, .cells cs' e' k' => (veqN 1000).2 cs cs' && Nat.beq e e' && kEq k k'
  | .map [], .map [] => true
  | _, _ => false
/-- Those of which it has to be shown that they come to the same again. -/
def againLT (ops : Array Oper) (y : Nat) (D : List Nat) : List Nat := let A := ancOf ops ops.size (depsOf ops y); D.filter fun i => againAt ops i && !A.contains i
noncomputable def xAgain1 (P : Program) (s : St) (o : Oper) (d : Tmp) : Bool :=
  cond (isFloat o.op)
    (match aPure P (s.a.eval P) s.H o.op, s.a.f d with
    | some u, some v => veq 1000 u v
    | _, _ => false)
    (match aAlloc P (s.a.eval P) o.op, s.a.f d with
    | some (b, mk), some v => match nameOf v with
      | some z => veq 1000 v (mk z) && (match s.H z with | some b' => beqB b' b | none => false)
      | none => false
    | _, _ => false)
/-- Is all that was read, or made, the same? -/
noncomputable def xAgain (P : Program) (ops : Array Oper) (y : Nat) (D : List Nat) (s : St) : Bool :=
  (againLT ops y D).all fun i => match ops[i]? with
    | some o => match o.dst with
      | some d => match aWanted ops s.a o with
        | some true => xAgain1 P s o d
        | some false => true
        | none => true
      | none => false
    | none => false
/-- The slots that a region writes, forgotten. -/
noncomputable def xSans (ops : List Oper) (t : Tr (Option Value)) : Tr (Option Value) :=
  match ops with
  | [] => t
  | o :: l => match o.dst with
    | some d => xSans l (Tr.set 40 t d none)
    | none => xSans l t
/-- A region that draws its order. -/
noncomputable def xGo (X : Ex) (P : Program) (ro : Option Nat) (ops : Array Oper) (t0 : Tr (Option Value)) : Nat → List Nat → St → Option (AExit × St)
  | 0, _, _ => none
  | k + 1, D, s =>
    match (readyL ops D).find? (floatAt ops) with
    | some i => match ops[i]? with
      | none => none
      | some o => cond (slotOK o.dst) ((aWanted ops s.a o).bind fun b => cond b ((aPure P (s.a.eval P) s.H o.op).bind fun v => xGo X P ro ops t0 k (i :: D) (s.put o.dst v)) (xGo X P ro ops t0 k (i :: D) (s.put o.dst undef))) none
    | none => match (readyL ops D).find? (mkAt ops) with
      | some i => match ops[i]? with
        | none => none
        | some o => cond (slotOK o.dst) ((aWanted ops s.a o).bind fun b => cond b
            ((aAlloc P (s.a.eval P) o.op).bind fun bm => (XB.of bm.1).bind fun b => cond s.m.free (xGo X P ro ops t0 k (i :: D) ({ s with m := s.m.new b }.put o.dst (bm.2 s.m.nx))) none)
            (xGo X P ro ops t0 k (i :: D) (s.put o.dst undef))) none
      | none => match readyL ops D with
        | [] => some (.normal, s)
        | [i] => match ops[i]? with
          | none => none
          | some o => (aWanted ops s.a o).bind fun b =>
              cond b ((xOp X P ro s o.dst o.op).bind fun r => match r with
                | .ok s' => cond (xAgain P ops i D s') (xGo X P ro ops t0 k (i :: D) s') none
                | .pan v m => some (.panic v, { s with t := t0, m := m }))
              (cond (slotOK o.dst) (xGo X P ro ops t0 k (i :: D) (s.put o.dst undef)) none)
        | _ => none
/-- How a function is left. -/
noncomputable def xLeave (X : Ex) (P : Program) (fn : Func) : List Deferred → AMode → St → Option (ARes × Mem)
  | [], .ret, s => (aResults P fn s.a s.H).map fun v => (.ret v, s.m)
  | [], .pan v, s => some (.pan v, s.m)
  | [], .caught, _ => none
  | ⟨.collected r, _⟩ :: ds, u, s => match s.m.h.get r with
    | some .defs => cond (Nat.ble r 1000000000) (xLeave X P fn ds u { s with m := s.m.put r .dead }) none
    | _ => none
  | ⟨.fn (.func f) cap, args⟩ :: ds, u, s => (X.dcall f (args.toList ++ cap.toList) u s.m).bind fun r => xLeave X P fn ds (aSettle r.2.1) { s with m := r.2.2 }
  | _, _, _ => none
noncomputable def xFill : List Value → Nat → Tr (Option Value) → Tr (Option Value)
  | [], _, t => t
  | v :: l, k, t => xFill l (Nat.succ k) (Tr.set 40 t k (some v))
noncomputable def xCallF (X : Ex) (P : Program) (f : FuncId) (args : List Value) (m : Mem) : Option (ARes × Mem) :=
  (P.funcs[f]?).bind fun fn => fn.body.bind fun _ =>
    cond (Nat.ble args.length 1000000)
      ((X.code none (.top f) ⟨args.length + (fn.ntmps - args.length), xFill args 0 .nil, [], m⟩).bind fun r =>
        match r.1 with
        | .normal => xLeave X P fn r.2.ds .ret r.2
        | .ret => xLeave X P fn r.2.ds .ret r.2
        | .panic v => xLeave X P fn r.2.ds (.pan v) r.2
        | _ => none)
      none
noncomputable def xDCallF (X : Ex) (P : Program) (f : FuncId) (args : List Value) (u : AMode) (m : Mem) : Option (Value × AMode × Mem) :=
  (P.funcs[f]?).bind fun fn => fn.body.bind fun _ =>
    cond (Nat.ble args.length 1000000)
      ((X.codeS (.top f) u ⟨args.length + (fn.ntmps - args.length), xFill args 0 .nil, [], m⟩).bind fun r =>
        match r.1, r.2.2.ds with
        | .normal, [] => (aResults P fn r.2.2.a r.2.2.H).map fun v => (v, r.2.1, r.2.2.m)
        | .ret, [] => (aResults P fn r.2.2.a r.2.2.H).map fun v => (v, r.2.1, r.2.2.m)
        | _, _ => none)
      none
noncomputable def xSetPs (n : Nat) (t : Tr (Option Value)) : List (Tmp × Value) → Tr (Option Value)
  | [] => t
  | (d, v) :: l => xSetPs n (Tr.set 40 t d (some (cond (Nat.ble (Nat.succ d) n) v undef))) l
noncomputable def xEndRound (l : Nat) (jump : Option Code) (m : Mem) : Option (ARes × Mem) :=
  match m.h.get l with
  | some (.loop L) => some (.ret (.bool jump.isNone), m.put l (.loop { L with state := if jump.isNone then .ready else .done, pending := jump }))
  | _ => none
noncomputable def xRoundF (X : Ex) (l : Nat) (args : List Value) (m : Mem) : Option (ARes × Mem) :=
  cond (Nat.ble l 1000000000)
    (match m.h.get l with
    | some (.loop L) =>
      cond (Nat.beq args.length L.params.size && L.params.toList.all fun d => Nat.ble d 1000000000)
        ((X.code (some l) (.l L.loc) ⟨L.n, xSetPs L.n L.t (L.params.toList.zip args), [], m⟩).bind fun r =>
          match r.1 with
          | .normal => match r.2.m.h.get l with
            | some (.loop L2) => match L2.state with
              | .ready => (X.code (some l) (.r L.loc) { r.2 with m := r.2.m.put l (.loop { L2 with state := .busy }) }).bind fun q =>
                  match q.1 with
                  | .normal => xEndRound l none q.2.m
                  | .ret => xEndRound l (some .ret) q.2.m
                  | .exit id => xEndRound l (some (.exit id)) q.2.m
                  | _ => none
              | _ => none
            | _ => none
          | _ => none)
        none
    | _ => none)
    none
/-- A range over a function: the end. -/
noncomputable def xRangeEnd (l : Nat) (s : St) (r : ARes × Mem) : Option (AExit × St) :=
  match r.1 with
  | .pan v => some (.panic v, { s with m := r.2 })
  | .ret _ => match r.2.h.get l with
    | some (.loop L) =>
      match L.state with
      | .busy => none
      | _ => match L.pending with
        | none => some (.normal, { s with m := r.2.put l .dead })
        | some .ret => some (.ret, { s with m := r.2.put l .dead })
        | some (.exit id) => some (.exit id, { s with m := r.2.put l .dead })
        | _ => none
    | _ => none
def isYield : Value → Bool
  | .func (.yield _) _ _ => true
  | _ => false
noncomputable def xRange (X : Ex) (P : Program) (ro : Option Nat) (g : Operand) (ps : Array Tmp) (p : Loc) (s : St) : Option (AExit × St) :=
  (s.a.eval P g).bind fun gv => cond (isYield gv) none
    (match ro with
    | none =>
      cond s.m.free
        (let m1 := s.m.new .defs
        cond m1.free
          (let m2 := m1.new (.loop ⟨.ready, none, s.n, s.t, ps, p⟩)
          (xFnVal X P gv [yieldOf m1.nx] m2).bind fun r => xRangeEnd m1.nx { s with ds := ⟨.collected s.m.nx, #[]⟩ :: s.ds } r)
          none)
        none
    | some l0 => match s.m.h.get l0 with
      | some (.loop _) => cond s.m.free ((xFnVal X P gv [yieldOf s.m.nx] (s.m.new (.loop ⟨.ready, none, s.n, s.t, ps, p⟩))).bind fun r => xRangeEnd s.m.nx s r) none
      | _ => none)
noncomputable def xCode (X : Ex) (P : Program) (ro : Option Nat) (p : Loc) (s : St) : Option (AExit × St) :=
  match codeGet p with
  | .skip => some (.normal, s)
  | .label _ => some (.normal, s)
  | .exit id => some (.exit id, s)
  | .ret => some (.ret, s)
  | .region _ ops false => xOps X P ro ops.toList ops.toList s
  | .region _ ops true => cond (wfT ops s.n && ops.toList.all fun o => slotOK o.dst) (xGo X P ro ops (xSans ops.toList s.t) (Nat.succ ops.size) [] s) none
  | .seq _ _ => (X.code ro (.l p) s).bind fun r => match r.1 with | .normal => X.code ro (.r p) r.2 | e => some (e, r.2)
  | .cond c _ _ => match s.a.eval P c with
    | some (.bool b) => cond b (X.code ro (.l p) s) (X.code ro (.r p) s)
    | _ => none
  | .block id _ => (X.code ro (.l p) s).bind fun r => match r.1 with | .exit id' => some (if id' = id then .normal else .exit id', r.2) | e => some (e, r.2)
  | .loop _ => X.loop ro (.l p) s
  | .rangeFunc g ps _ _ => xRange X P ro g ps p s
  | .scope _ => (X.code ro (.l p) s).bind fun r => match r.1 with | .goto _ => none | e => some (e, r.2)
  | _ => none
noncomputable def xLoop (X : Ex) (ro : Option Nat) (p : Loc) (s : St) : Option (AExit × St) :=
  (X.code ro p s).bind fun r => match r.1 with | .normal => X.loop ro p r.2 | e => some (e, r.2)
def isRecover : Op → Bool
  | .call ⟨.builtin .recover, _, _⟩ => true
  | _ => false
noncomputable def xSOps (P : Program) : List Oper → AMode → St → Option (AExit × AMode × St)
  | [], u, s => some (.normal, u, s)
  | o :: l, u, s => match o.guard with
    | none => cond (slotOK o.dst)
        (cond (isRecover o.op) (match u with | .pan v => xSOps P l .caught (s.put o.dst v) | u => xSOps P l u (s.put o.dst .nilIface))
          ((aPure P (s.a.eval P) s.H o.op).bind fun v => xSOps P l u (s.put o.dst v))) none
    | some _ => none
noncomputable def xCodeS (X : Ex) (P : Program) (p : Loc) (u : AMode) (s : St) : Option (AExit × AMode × St) :=
  match codeGet p with
  | .seq _ _ => (X.codeS (.l p) u s).bind fun r => match r.1 with | .normal => X.codeS (.r p) r.2.1 r.2.2 | e => some (e, r.2)
  | .cond c _ _ => match s.a.eval P c with
    | some (.bool b) => cond b (X.codeS (.l p) u s) (X.codeS (.r p) u s)
    | _ => none
  | .region _ ops false => cond (ops.toList.any fun o => isRecover o.op) (xSOps P ops.toList u s) ((X.code none p s).map fun r => (r.1, u, r.2))
  | _ => (X.code none p s).map fun r => (r.1, u, r.2)
noncomputable def Ex.step (P : Program) (X : Ex) : Ex := ⟨xCode X P, xLoop X, xCodeS X P, xCallF X P, xDCallF X P, xRoundF X⟩
end
noncomputable def ex [PR] (P : Program) (n : Nat) : Ex := Nat.rec (motive := fun _ => Ex) Ex.zero (fun _ X => X.step P) n
end Go.Ab

/- ABSTRACT MEMORY, 22: closed runs, reckoned: what is reckoned is so. -/
namespace Go.Ab
open Go Go.RowKit
variable [TT] [PR]

/-- What a reckoner gives is so. -/
structure Sound (P : Program) (N : Nat) (X : Ex) : Prop where
  code : ∀ {ro : Option Nat} {p : Loc} {s s' : St} {e : AExit}, X.code ro p s = some (e, s') → AWp P ro (codeGet p) (fun x a H => x = e ∧ a = s'.a ∧ H = s'.H) s.a s.H
  loop : ∀ {ro : Option Nat} {p : Loc} {s s' : St} {e : AExit}, X.loop ro p s = some (e, s') → ∀ (B0 : Nat) (m : NMap) (w : World) (a' : Act) (F : Fence), Rel P B0 m s.H w → ARel m s.a a' → FRel m ro F → ∀ n, Code.roundsIn F n P (codeGet p) (LiftQ P B0 m s.H w fun x a H => x = e ∧ a = s'.a ∧ H = s'.H) N a' w
  codeS : ∀ {p : Loc} {u u' : AMode} {s s' : St} {e : AExit}, X.codeS p u s = some (e, u', s') → AWpS P (codeGet p) (fun x v a H => x = e ∧ v = u' ∧ a = s'.a ∧ H = s'.H) u s.a s.H
  call : ∀ {f : FuncId} {args : List Value} {m m' : Mem} {r : ARes}, X.call f args m = some (r, m') → Callable P f ∧ SCalls P f args m.H fun r' H' => r' = r ∧ H' = m'.H
  dcall : ∀ {f : FuncId} {args : List Value} {u u' : AMode} {m m' : Mem} {v : Value}, X.dcall f args u m = some (v, u', m') → Callable P f ∧ SDCalls P f args u m.H fun v' w H' => v' = v ∧ w = u' ∧ H' = m'.H
  round : ∀ {l : Nat} {args : List Value} {m m' : Mem} {r : ARes}, X.round l args m = some (r, m') → SRound P l args m.H fun r' H' => r' = r ∧ H' = m'.H

theorem cond_some {α : Type} {b : Bool} {x y : α} : cond b x y = if b = true then x else y := by have _ := TT.tt; have _ := PR.prog; cases b <;> rfl
theorem cond_none {α : Type} {b : Bool} {x : Option α} {y : α} (h : cond b x none = some y) : b = true ∧ x = some y := by
  have _ := TT.tt
  have _ := PR.prog
  cases b with
  | true => exact ⟨rfl, h⟩
  | false => cases h
theorem bind_some_iff {α β : Type} {o : Option α} {f : α → Option β} {b : β} (h : o.bind f = some b) : ∃ a, o = some a ∧ f a = some b := have _ := TT.tt; have _ := PR.prog; option_bind_some h
theorem map_some_iff {α β : Type} {o : Option α} {f : α → β} {b : β} (h : o.map f = some b) : ∃ a, o = some a ∧ f a = b := by
  have _ := TT.tt
  have _ := PR.prog
  cases o with
  | none => cases h
  | some a => exact ⟨a, rfl, by simpa using h⟩

section
variable {P : Program} {N : Nat} {X : Ex} {ro : Option Nat} {s s' : St} {dst : Option Tmp}

theorem St.mem_a {m : Mem} : ({ s with m := m } : St).a = s.a := have _ := TT.tt; have _ := PR.prog; rfl
theorem St.mem_H {m : Mem} : ({ s with m := m } : St).H = m.H := have _ := TT.tt; rfl
theorem St.putm_a {m : Mem} {v : Value} (h : slotOK dst = true) : (({ s with m := m } : St).put dst v).a = s.a.put dst v := have _ := TT.tt; St.put_a (s := { s with m := m }) h
theorem St.putm_H {m : Mem} {v : Value} : (({ s with m := m } : St).put dst v).H = m.H := have _ := TT.tt; St.put_H (s := { s with m := m })
theorem St.put_H' {v : Value} : (s.put dst v).H = s.m.H := have _ := TT.tt; St.put_H
theorem Mem.get_H {m : Mem} {i : Nat} {b : XB} (h : m.h.get i = some b) : m.H i = some b.a := by have _ := TT.tt; simp [Mem.H, h]

/-- What an operation comes to. -/
def KOk (r : XR) (a : AAct) (H : AHeap) : Prop := ∃ s', r = .ok s' ∧ a = s'.a ∧ H = s'.H
def KPan (r : XR) (v : Value) (H : AHeap) : Prop := ∃ m, r = .pan v m ∧ H = m.H

theorem xFnVal_sound (hX : Sound P N X) {fv : Value} {args : List Value} {m m' : Mem} {r : ARes} (h : xFnVal X P fv args m = some (r, m')) : ACall P fv args m.H fun r' H' => r' = r ∧ H' = m'.H := by
  unfold xFnVal at h
  split at h
  · exact hX.call h
  · exact hX.round h
  · unfold ACall
    simp only
    split at h
    · rename_i x rest hx
      obtain ⟨u, hu, h⟩ := bind_some_iff h
      rw [hx]
      exact ⟨u, hu, hX.call h⟩
    · cases h
  · cases h
theorem xFnVal_soundF (hX : Sound P N X) {fv : Value} {args : List Value} {m m' : Mem} {r : ARes} (hy : isYield fv = false) (h : xFnVal X P fv args m = some (r, m')) : ACallF P fv args m.H fun r' H' => r' = r ∧ H' = m'.H := by
  unfold xFnVal at h
  split at h
  · exact hX.call h
  · cases hy
  · unfold ACallF
    simp only
    split at h
    · rename_i x rest hx
      obtain ⟨u, hu, h⟩ := bind_some_iff h
      rw [hx]
      exact ⟨u, hu, hX.call h⟩
    · cases h
  · cases h
theorem xInvoke_sound (hX : Sound P N X) {rv : Value} {name : String} {args : List Value} {m m' : Mem} {r : ARes} (h : xInvoke X P rv name args m = some (r, m')) : AInvoke P rv name args m.H fun r' H' => r' = r ∧ H' = m'.H := by
  unfold xInvoke at h
  split at h
  · obtain ⟨fu, hfu, h⟩ := bind_some_iff h
    obtain ⟨h1, h2⟩ := hX.call h
    exact ⟨fu.1, fu.2, hfu, h1, h2⟩
  · cases h
theorem xRet_sound {r : XR} {o : Option (ARes × Mem)} (hd : slotOK dst = true) (h : xRet s dst o = some r) : ∃ q m', o = some (q, m') ∧ ∀ r' H', (r' = q ∧ H' = m'.H) → onRes (fun v H' => KOk r (s.a.put dst v) H') (KPan r) r' H' := by
  unfold xRet at h
  obtain ⟨rm, hrm, h⟩ := bind_some_iff h
  obtain ⟨q, m'⟩ := rm
  refine ⟨q, m', hrm, ?_⟩
  rintro r' H' ⟨rfl, rfl⟩
  cases r' with
  | ret v => cases h; exact ⟨_, rfl, (St.putm_a hd).symm, St.putm_H.symm⟩
  | pan v => cases h; exact ⟨_, rfl, rfl⟩
theorem xWrite_sound {r : XR} {v : Value} {i : Nat} {b : ABlk} (hd : slotOK dst = true) (h : xWrite s dst v i b = some r) : KOk r (s.a.put dst v) (upd s.H i b) := by
  unfold xWrite at h
  obtain ⟨x, hx, h⟩ := bind_some_iff h
  obtain ⟨hi, h⟩ := cond_none h
  cases h
  refine ⟨_, rfl, (St.putm_a hd).symm, ?_⟩
  rw [St.putm_H, Mem.put_H hi, XB.of_a hx]
  rfl
theorem app_grow {H H' : AHeap} {t : TypeId} {u v : Value} {n : Nat} {b : ABlk} (h : aAppend P H t u v = some (.grow H' n b)) : (u = .slice none 0 0 ∧ H' = H) ∨ ∃ i n c, u = .slice (some ⟨i, 0, none⟩) n c ∧ H' = del H i := by
  have _ := TT.tt
  have _ := PR.prog
  unfold aAppend at h
  obtain ⟨e, he, h1⟩ := option_bind_some h
  clear h
  obtain ⟨s, hs, h2⟩ := option_bind_some h1
  clear h1
  obtain ⟨by_, hby, h3⟩ := option_bind_some h2
  clear h2
  obtain ⟨z, hz, h4⟩ := option_bind_some h3
  clear h3
  obtain ⟨kx, hkx, h⟩ := option_bind_some h4
  clear h4
  split at h
  · split at h
    · split at h
      · cases h
      · split at h
        · cases h; exact .inl ⟨rfl, rfl⟩
        · cases h
    · split at h
      · cases h
      · split at h
        · split at h
          · split at h
            · cases hsb : storeB (.cells _ e .row) (_ * s) kx.2 with
              | none => rw [hsb] at h; cases h
              | some b' => rw [hsb] at h; cases h
            · split at h
              · cases h
                exact .inr ⟨_, _, _, rfl, rfl⟩
              · cases h
          · cases h
        · cases h
    · cases h
  · cases h
theorem xAppend_sound (htt : TT.tt = true) {r : XR} {t : TypeId} {u v : Value} (hd : slotOK dst = true) (h : xAppend P s dst t u v = some r) : bindO (aAppend P s.H t u v) fun q => match q with
    | .same v => KOk r (s.a.put dst v) s.H
    | .inpl v i b => KOk r (s.a.put dst v) (upd s.H i b)
    | .grow H' n b => pick H' fun j => KOk r (s.a.put dst (.slice (some ⟨j, 0, none⟩) n n)) (upd H' j b) := by
  unfold xAppend at h
  obtain ⟨q, hq, h⟩ := bind_some_iff h
  refine ⟨q, hq, ?_⟩
  cases q with
  | same v => cases h; exact ⟨_, rfl, (St.put_a hd).symm, St.put_H.symm⟩
  | inpl v i b => exact xWrite_sound hd h
  | grow H' n b =>
    simp only at h ⊢
    obtain ⟨x, hx, h⟩ := bind_some_iff h
    rcases app_grow hq with ⟨rfl, rfl⟩ | ⟨i, n', c, rfl, rfl⟩
    · simp only at h
      obtain ⟨hf, h⟩ := cond_none h
      cases h
      obtain ⟨e1, e2⟩ := Mem.new_H (b := x) hf
      refine .inl ⟨htt, _, e2, _, rfl, (St.putm_a hd).symm, ?_⟩
      rw [St.putm_H, e1, XB.of_a hx]
      rfl
    · simp only at h
      obtain ⟨hf, h⟩ := cond_none h
      cases h
      simp only [Bool.and_eq_true] at hf
      obtain ⟨e1, e2⟩ := Mem.new_H (b := x) hf.1
      have e3 : (s.m.put i .dead).H = del s.H i := by rw [Mem.put_H hf.2]; rfl
      rw [e3] at e1 e2
      refine .inl ⟨htt, _, e2, _, rfl, (St.putm_a hd).symm, ?_⟩
      rw [St.putm_H, e1, XB.of_a hx]

theorem xBuiltin_sound (htt : TT.tt = true) {r : XR} {bi : Builtin} {args : List Operand} {ats : List TypeId} (hd : slotOK dst = true) (h : xBuiltin P s dst bi args ats = some r) : AEff P ro s.a s.H dst (KOk r) (KPan r) (.call ⟨.builtin bi, ⟨args⟩, ⟨ats⟩⟩) := by
  unfold xBuiltin at h
  cases bi with
  | append =>
    simp only at h
    split at h
    · rename_i x y t t'
      obtain ⟨ht, h⟩ := cond_none h
      have ht := Nat.eq_of_beq_eq_true ht
      obtain ⟨u, hu, h⟩ := bind_some_iff h
      obtain ⟨v, hv, h⟩ := bind_some_iff h
      simp only [AEff]
      exact ⟨ht, u, hu, v, hv, xAppend_sound htt hd h⟩
    · cases h
  | copy =>
    simp only at h
    split at h
    · rename_i x y t t'
      obtain ⟨u, hu, h⟩ := bind_some_iff h
      obtain ⟨v, hv, h⟩ := bind_some_iff h
      obtain ⟨q, hq, h⟩ := bind_some_iff h
      simp only [AEff]
      refine ⟨u, hu, v, hv, q, hq, ?_⟩
      obtain ⟨k, o⟩ := q
      cases o with
      | none => cases h; exact ⟨_, rfl, (St.put_a hd).symm, St.put_H.symm⟩
      | some ib => exact xWrite_sound hd h
    · cases h
  | clear =>
    simp only at h
    split at h
    · rename_i x t
      obtain ⟨u, hu, h⟩ := bind_some_iff h
      obtain ⟨q, hq, h⟩ := bind_some_iff h
      simp only [AEff]
      refine ⟨u, hu, q, hq, ?_⟩
      cases q with
      | none => cases h; exact ⟨_, rfl, (St.put_a hd).symm, St.put_H.symm⟩
      | some ib => exact xWrite_sound hd h
    · cases h
  | panic =>
    simp only at h
    split at h
    · rename_i x
      obtain ⟨u, hu, h⟩ := bind_some_iff h
      simp only [AEff]
      refine ⟨u, hu, ?_⟩
      split at h
      · cases h; exact ⟨_, rfl, rfl⟩
      · cases h
    · cases h
  | _ => cases h

theorem xEff_sound (htt : TT.tt = true) (hX : Sound P N X) {r : XR} {op : Op} (hd : slotOK dst = true) (h : xEff X P ro s dst op = some r) : AEff P ro s.a s.H dst (KOk r) (KPan r) op := by
  unfold xEff at h
  cases op with
  | store t x y =>
    simp only at h
    obtain ⟨u, hu, h⟩ := bind_some_iff h
    obtain ⟨v, hv, h⟩ := bind_some_iff h
    simp only [AEff]
    refine ⟨u, hu, v, hv, ?_⟩
    split at h
    · rename_i i o
      split at h
      · rename_i hsz
        obtain ⟨b, hb, h⟩ := bind_some_iff h
        exact ⟨hsz, b, hb, xWrite_sound hd h⟩
      · cases h
    · cases h
  | mapUpdate t x k y =>
    simp only at h
    obtain ⟨u, hu, h⟩ := bind_some_iff h
    obtain ⟨kv, hk, h⟩ := bind_some_iff h
    obtain ⟨v, hv, h⟩ := bind_some_iff h
    obtain ⟨q, hq, h⟩ := bind_some_iff h
    simp only [AEff]
    exact ⟨u, hu, kv, hk, v, hv, q, hq, xWrite_sound hd h⟩
  | insert t x k y =>
    simp only at h
    obtain ⟨u, hu, h⟩ := bind_some_iff h
    obtain ⟨kv, hk, h⟩ := bind_some_iff h
    obtain ⟨v, hv, h⟩ := bind_some_iff h
    obtain ⟨q, hq, h⟩ := bind_some_iff h
    simp only [AEff]
    exact ⟨u, hu, kv, hk, v, hv, q, hq, xWrite_sound hd h⟩
  | panic x =>
    simp only at h
    obtain ⟨u, hu, h⟩ := bind_some_iff h
    simp only [AEff]
    refine ⟨u, hu, ?_⟩
    split at h
    · cases h; exact ⟨_, rfl, rfl⟩
    · cases h
  | defer c =>
    simp only at h
    unfold xDefer at h
    split at h
    · rename_i f hc
      obtain ⟨fv, hfv, h⟩ := bind_some_iff h
      obtain ⟨vs, hvs, h⟩ := bind_some_iff h
      simp only [AEff]
      refine ⟨trivial, ?_⟩
      rw [hc]
      refine ⟨fv, hfv, vs, hvs, ?_⟩
      split at h
      · cases h
        refine ⟨_, rfl, ?_, ?_⟩
        · rw [St.put_a hd]; rfl
        · rw [St.put_H]; rfl
      · cases h
    · cases h
  | call c =>
    simp only at h
    obtain ⟨callee, args, ats⟩ := c
    unfold xCall at h
    cases callee with
    | value f =>
      simp only at h
      obtain ⟨fv, hfv, h⟩ := bind_some_iff h
      obtain ⟨vs, hvs, h⟩ := bind_some_iff h
      obtain ⟨q, m', hq, hK⟩ := xRet_sound hd h
      simp only [AEff]
      exact ⟨fv, hfv, vs, hvs, ACall_mono hK (xFnVal_sound hX hq)⟩
    | invoke rv name =>
      simp only at h
      obtain ⟨fv, hfv, h⟩ := bind_some_iff h
      obtain ⟨vs, hvs, h⟩ := bind_some_iff h
      obtain ⟨q, m', hq, hK⟩ := xRet_sound hd h
      simp only [AEff]
      exact ⟨fv, hfv, vs, hvs, AInvoke_mono hK (xInvoke_sound hX hq)⟩
    | builtin b => exact xBuiltin_sound htt hd h
  | _ => cases h

theorem xOp_sound (htt : TT.tt = true) (hX : Sound P N X) {r : XR} {op : Op} (h : xOp X P ro s dst op = some r) : AOp P ro s.a s.H dst op (KOk r) (KPan r) := by
  unfold xOp at h
  obtain ⟨hd, h⟩ := cond_none h
  unfold AOp
  split at h
  · rename_i v hv
    rw [hv]
    cases h
    exact ⟨_, rfl, (St.put_a hd).symm, St.put_H.symm⟩
  · rename_i hv
    rw [hv]
    simp only
    split at h
    · rename_i b mk ha
      rw [ha]
      obtain ⟨x, hx, h⟩ := bind_some_iff h
      obtain ⟨hf, h⟩ := cond_none h
      cases h
      obtain ⟨e1, e2⟩ := Mem.new_H (b := x) hf
      refine .inl ⟨htt, _, e2, _, rfl, (St.putm_a hd).symm, ?_⟩
      rw [St.putm_H, e1, XB.of_a hx]
      rfl
    · rename_i ha
      rw [ha]
      exact xEff_sound htt hX hd h

theorem xRet_n {r : Option (ARes × Mem)} (h : xRet s dst r = some (.ok s')) : s'.n = s.n := by
  unfold xRet at h
  obtain ⟨rm, _, h⟩ := bind_some_iff h
  split at h
  · cases h; cases dst <;> rfl
  · cases h
theorem xWrite_n {v : Value} {i : Nat} {b : ABlk} (h : xWrite s dst v i b = some (.ok s')) : s'.n = s.n := by
  unfold xWrite at h
  obtain ⟨x, _, h⟩ := bind_some_iff h
  obtain ⟨_, h⟩ := cond_none h
  cases h; cases dst <;> rfl
theorem xAppend_n {t : TypeId} {u v : Value} (h : xAppend P s dst t u v = some (.ok s')) : s'.n = s.n := by
  unfold xAppend at h
  obtain ⟨q, _, h⟩ := bind_some_iff h
  cases q with
  | same v => cases h; cases dst <;> rfl
  | inpl v i b => exact xWrite_n h
  | grow H' n b =>
    simp only at h
    obtain ⟨x, _, h⟩ := bind_some_iff h
    split at h
    · obtain ⟨_, h⟩ := cond_none h
      cases h; cases dst <;> rfl
    · obtain ⟨_, h⟩ := cond_none h
      cases h; cases dst <;> rfl
    · cases h
/-- The number of slots stays. -/
theorem xOp_n {op : Op} (h : xOp X P ro s dst op = some (.ok s')) : s'.n = s.n := by
  unfold xOp at h
  obtain ⟨_, h⟩ := cond_none h
  split at h
  · cases h; cases dst <;> rfl
  · split at h
    · obtain ⟨x, _, h⟩ := bind_some_iff h
      obtain ⟨_, h⟩ := cond_none h
      cases h; cases dst <;> rfl
    · unfold xEff at h
      cases op with
      | store t x y =>
        simp only at h
        obtain ⟨u, _, h⟩ := bind_some_iff h
        obtain ⟨v, _, h⟩ := bind_some_iff h
        split at h
        · split at h
          · obtain ⟨b, _, h⟩ := bind_some_iff h
            exact xWrite_n h
          · cases h
        · cases h
      | mapUpdate t x k y =>
        simp only at h
        obtain ⟨u, _, h⟩ := bind_some_iff h
        obtain ⟨kv, _, h⟩ := bind_some_iff h
        obtain ⟨v, _, h⟩ := bind_some_iff h
        obtain ⟨q, _, h⟩ := bind_some_iff h
        exact xWrite_n h
      | insert t x k y =>
        simp only at h
        obtain ⟨u, _, h⟩ := bind_some_iff h
        obtain ⟨kv, _, h⟩ := bind_some_iff h
        obtain ⟨v, _, h⟩ := bind_some_iff h
        obtain ⟨q, _, h⟩ := bind_some_iff h
        exact xWrite_n h
      | panic x =>
        simp only at h
        obtain ⟨u, _, h⟩ := bind_some_iff h
        split at h <;> cases h
      | defer c =>
        simp only at h
        unfold xDefer at h
        split at h
        · obtain ⟨fv, _, h⟩ := bind_some_iff h
          obtain ⟨vs, _, h⟩ := bind_some_iff h
          split at h
          · cases h; cases dst <;> rfl
          · cases h
        · cases h
      | call c =>
        simp only at h
        unfold xCall at h
        split at h
        · obtain ⟨fv, _, h⟩ := bind_some_iff h
          obtain ⟨vs, _, h⟩ := bind_some_iff h
          exact xRet_n h
        · obtain ⟨fv, _, h⟩ := bind_some_iff h
          obtain ⟨vs, _, h⟩ := bind_some_iff h
          exact xRet_n h
        · unfold xBuiltin at h
          split at h
          · split at h
            · obtain ⟨_, h⟩ := cond_none h
              obtain ⟨u, _, h⟩ := bind_some_iff h
              obtain ⟨v, _, h⟩ := bind_some_iff h
              exact xAppend_n h
            · cases h
          · split at h
            · obtain ⟨u, _, h⟩ := bind_some_iff h
              obtain ⟨v, _, h⟩ := bind_some_iff h
              obtain ⟨q, _, h⟩ := bind_some_iff h
              split at h
              · cases h; cases dst <;> rfl
              · exact xWrite_n h
            · cases h
          · split at h
            · obtain ⟨u, _, h⟩ := bind_some_iff h
              obtain ⟨q, _, h⟩ := bind_some_iff h
              split at h
              · cases h; cases dst <;> rfl
              · exact xWrite_n h
            · cases h
          · split at h
            · obtain ⟨u, _, h⟩ := bind_some_iff h
              split at h <;> cases h
            · cases h
          · cases h
      | _ => cases h

/-- Where a piece of code ends. -/
def Ends (e : AExit) (s' : St) (x : AExit) (a : AAct) (H : AHeap) : Prop := x = e ∧ a = s'.a ∧ H = s'.H

theorem xOps_sound (htt : TT.tt = true) (hX : Sound P N X) {ops : List Oper} {e : AExit} (l : List Oper) : ∀ {s : St}, xOps X P ro ops l s = some (e, s') → AOpsL P ro ops (Ends e s') l s.a s.H := by
  induction l with
  | nil => intro s h; cases h; exact ⟨rfl, rfl, rfl⟩
  | cons o l ih =>
    intro s h
    simp only [xOps] at h
    obtain ⟨b, hb, h⟩ := bind_some_iff h
    refine ⟨b, hb, fun hbt => ?_, fun hbf => ?_⟩
    · subst hbt
      obtain ⟨r, hr, h⟩ := bind_some_iff (show (xOp X P ro s o.dst o.op).bind _ = some (e, s') from h)
      refine AOp_congr (fun _ _ => rfl) rfl (fun v ds H' hk => ?_) (fun v H' hx => ?_) (xOp_sound htt hX hr)
      · obtain ⟨s1, rfl, e1, e2⟩ := hk
        rw [e1, e2]
        exact ih h
      · obtain ⟨m, rfl, rfl⟩ := hx
        cases h
        exact ⟨rfl, rfl, rfl⟩
    · subst hbf
      obtain ⟨hd, h⟩ := cond_none (show cond (slotOK o.dst) (xOps X P ro ops l (s.put o.dst undef)) none = some (e, s') from h)
      rw [← St.put_a hd, ← St.put_H (s := s) (dst := o.dst) (v := undef)]
      exact ih h
end
end Go.Ab

/- ABSTRACT MEMORY, 23: closed runs, reckoned: regions that draw; how functions are left; rounds. -/
namespace Go.Ab
open Go Go.RowKit
variable [TT] [PR]
section
variable {P : Program} {N : Nat} {X : Ex} {ro : Option Nat} {s s' : St} {dst : Option Tmp}

theorem beqB_eq {b b' : ABlk} (h : beqB b b' = true) : b = b' := by
  have _ := TT.tt
  have _ := PR.prog
  unfold beqB at h
  split at h
  · simp only [Bool.and_eq_true] at h
    rw [(veqN_eq 1000).2 _ _ h.1.1, Nat.eq_of_beq_eq_true h.1.2]
    have := h.2
    unfold kEq at this
    split at this <;> first | rfl | cases this
  · rfl
  · cases h
theorem againT_of {ops : Array Oper} {y : Nat} {a : AAct} {H : AHeap} {D : List Nat} (h : ∀ i ∈ againLT ops y D, match ops[i]? with
      | some o => match o.dst with
        | some d => aWanted ops a o = some true → (isFloat o.op = true → aPure P (a.eval P) H o.op = a.f d) ∧ (isMk o.op = true → ∃ b mk z, aAlloc P (a.eval P) o.op = some (b, mk) ∧ a.f d = some (mk z) ∧ H z = some b)
        | none => False
      | none => False) : AgainT P ops y a H D := by
  have _ := TT.tt
  have _ := PR.prog
  induction D with
  | nil => trivial
  | cons x D ih =>
    refine ⟨fun h1 h2 => h x ?_, ih fun i hi => h i ?_⟩
    · simp only [againLT, List.mem_filter, List.mem_cons, true_or, true_and, h1, h2, Bool.not_false, Bool.and_self]
    · simp only [againLT, List.mem_filter, List.mem_cons] at hi ⊢
      exact ⟨.inr hi.1, hi.2⟩
theorem xAgain_sound {ops : Array Oper} {y : Nat} {D : List Nat} (h : xAgain P ops y D s = true) : AgainT P ops y s.a s.H D := by
  refine againT_of fun i hi => ?_
  have h1 := (List.all_eq_true.1 h) i hi
  split at h1
  · rename_i o ho
    split at h1
    · rename_i d hd
      rw [ho]
      simp only [hd]
      intro hw
      rw [hw] at h1
      simp only at h1
      unfold xAgain1 at h1
      refine ⟨fun hf => ?_, fun hm => ?_⟩
      · rw [hf] at h1
        simp only [cond_true] at h1
        split at h1
        · rename_i u v hu hv
          rw [hu, hv, veq_eq h1]
        · cases h1
      · have hf : isFloat o.op = false := by
          cases hfl : isFloat o.op with
          | false => rfl
          | true => rw [float_mk hfl] at hm; cases hm
        rw [hf] at h1
        simp only [cond_false] at h1
        split at h1
        · rename_i b mk v ha hv
          split at h1
          · rename_i z hz
            simp only [Bool.and_eq_true] at h1
            obtain ⟨h2, h3⟩ := h1
            split at h3
            · rename_i b' hb'
              exact ⟨b, mk, z, ha, by rw [hv, veq_eq h2], by rw [hb', beqB_eq h3]⟩
            · cases h3
          · cases h1
        · cases h1
    · cases h1
  · cases h1

theorem tF_sans (l : List Oper) : ∀ {t : Tr (Option Value)}, (l.all fun o => slotOK o.dst) = true → tF (xSans l t) = fun x => if l.any (fun o => o.dst == some x) then none else tF t x := by
  have _ := TT.tt
  induction l with
  | nil => intro t _; funext x; simp [xSans]
  | cons o l ih =>
    intro t h
    simp only [List.all_cons, Bool.and_eq_true] at h
    simp only [xSans]
    cases hd : o.dst with
    | none =>
      simp only
      rw [ih h.2]
      funext x
      simp [hd]
    | some d =>
      simp only
      rw [hd] at h
      rw [ih h.2]
      funext x
      rw [tF_set (show Nat.ble d 1000000000 = true from h.1)]
      simp only [List.any_cons, hd]
      by_cases e : x = d
      · subst e; simp
      · have e' : (some d == some x) = false := by simp; exact Ne.symm e
        simp [e, e']
theorem sans_eq {ops : Array Oper} (h : (ops.toList.all fun o => slotOK o.dst) = true) : (sans ops s.a).f = tF (xSans ops.toList s.t) := by
  rw [tF_sans _ h]
  funext x
  simp only [sans]
  have e : ((List.range ops.size).any fun i => dstOf ops i == some x) = ops.toList.any fun o => o.dst == some x := by
    rw [Bool.eq_iff_iff, List.any_eq_true, List.any_eq_true]
    constructor
    · rintro ⟨i, hi, h⟩
      have hi' : i < ops.size := by simpa using hi
      refine ⟨ops[i], by simp, ?_⟩
      simpa [dstOf, hi'] using h
    · rintro ⟨o, ho, h⟩
      obtain ⟨i, hi, e⟩ := List.getElem_of_mem ho
      refine ⟨i, by simpa using hi, ?_⟩
      have hi' : i < ops.size := by simpa using hi
      have : ops[i]? = some o := by rw [← e]; simp
      simpa [dstOf, this] using h
  rw [e]
  rfl

theorem xGo_sound (htt : TT.tt = true) (hX : Sound P N X) {ops : Array Oper} {t0 : Tr (Option Value)} {a0 : AAct} {e : AExit} (h0 : a0.f = tF t0) (k : Nat) : ∀ {D : List Nat} {s : St}, a0.n = s.n → xGo X P ro ops t0 k D s = some (e, s') → BGo P ro ops (Ends e s') a0 k D s.a s.H := by
  have hput : ∀ {s : St} {d : Option Tmp} {v : Value}, (s.put d v).n = s.n := by intro s d v; cases d <;> rfl
  induction k with
  | zero => intro D s _ h; cases h
  | succ k ih =>
    intro D s hn h
    simp only [xGo] at h
    simp only [BGo]
    split at h
    · rename_i i hf
      rw [hf]
      simp only
      split at h
      · cases h
      · rename_i o ho
        rw [ho]
        simp only
        obtain ⟨hd, h⟩ := cond_none h
        obtain ⟨b, hb, h⟩ := bind_some_iff h
        refine ⟨b, hb, fun hbt => ?_, fun hbf => ?_⟩
        · subst hbt
          obtain ⟨v, hv, h⟩ := bind_some_iff (show (aPure P (s.a.eval P) s.H o.op).bind _ = some (e, s') from h)
          refine ⟨v, hv, ?_⟩
          show BGo P ro ops (Ends e s') a0 k (i :: D) (s.a.put o.dst v) s.H
          rw [← St.put_a hd, ← St.put_H (s := s) (dst := o.dst) (v := v)]
          exact ih (by rw [hput]; exact hn) h
        · subst hbf
          rw [← St.put_a hd, ← St.put_H (s := s) (dst := o.dst) (v := undef)]
          exact ih (by rw [hput]; exact hn) h
    · rename_i hf
      rw [hf]
      simp only
      split at h
      · rename_i i hm
        rw [hm]
        simp only
        split at h
        · cases h
        · rename_i o ho
          rw [ho]
          simp only
          obtain ⟨hd, h⟩ := cond_none h
          obtain ⟨b, hb, h⟩ := bind_some_iff h
          refine ⟨b, hb, fun hbt => ?_, fun hbf => ?_⟩
          · subst hbt
            obtain ⟨bm, hbm, h⟩ := bind_some_iff (show (aAlloc P (s.a.eval P) o.op).bind _ = some (e, s') from h)
            obtain ⟨x, hx, h⟩ := bind_some_iff h
            obtain ⟨hfr, h⟩ := cond_none h
            obtain ⟨e1, e2⟩ := Mem.new_H (b := x) hfr
            refine ⟨bm, hbm, s.m.nx, e2, ?_⟩
            have q1 : (({ s with m := s.m.new x } : St).put o.dst (bm.2 s.m.nx)).a = s.a.put o.dst (bm.2 s.m.nx) := St.putm_a hd
            have q2 : (({ s with m := s.m.new x } : St).put o.dst (bm.2 s.m.nx)).H = upd s.H s.m.nx bm.1 := by rw [St.putm_H, e1, XB.of_a hx]; rfl
            rw [← q1, ← q2]
            exact ih (by rw [hput]; exact hn) h
          · subst hbf
            rw [← St.put_a hd, ← St.put_H (s := s) (dst := o.dst) (v := undef)]
            exact ih (by rw [hput]; exact hn) h
      · rename_i hm
        rw [hm]
        simp only
        split at h
        · rename_i hr
          rw [hr]
          cases h
          exact ⟨fun _ => ⟨rfl, rfl, rfl⟩, fun i hi => (by cases hi)⟩
        · rename_i i hr
          rw [hr]
          refine ⟨fun hc => (by cases hc), fun j hj => ?_⟩
          simp only [List.mem_singleton] at hj
          subst hj
          split at h
          · cases h
          · rename_i o ho
            rw [ho]
            simp only
            obtain ⟨b, hb, h⟩ := bind_some_iff h
            refine ⟨b, hb, fun hbt => ?_, fun hbf => ?_⟩
            · subst hbt
              obtain ⟨r, hr, h⟩ := bind_some_iff (show (xOp X P ro s o.dst o.op).bind _ = some (e, s') from h)
              have hop := xOp_sound htt hX hr
              have hnn : ∀ s1, r = .ok s1 → s1.n = s.n := fun s1 e1 => by
                subst e1
                exact xOp_n hr
              refine AOp_congr (fun _ _ => rfl) rfl (fun v ds H' hk => ?_) (fun v H' hx => ?_) hop
              · obtain ⟨s1, rfl, e1, e2⟩ := hk
                obtain ⟨hag, h⟩ := cond_none (show cond (xAgain P ops j D s1) _ none = some (e, s') from h)
                rw [e1, e2]
                exact ⟨xAgain_sound hag, ih (by rw [hnn s1 rfl]; exact hn) h⟩
              · obtain ⟨m, rfl, rfl⟩ := hx
                cases h
                refine ⟨rfl, ?_, rfl⟩
                show (⟨a0.n, a0.f, s.ds⟩ : AAct) = ⟨s.n, tF t0, s.ds⟩
                rw [hn, h0]
            · subst hbf
              obtain ⟨hd, h⟩ := cond_none (show cond (slotOK o.dst) _ none = some (e, s') from h)
              rw [← St.put_a hd, ← St.put_H (s := s) (dst := o.dst) (v := undef)]
              exact ih (by rw [hput]; exact hn) h
        · cases h

theorem xLeave_sound (hX : Sound P N X) {fn : Func} {r : ARes} {m' : Mem} (ds : List Deferred) : ∀ {u : AMode} {s : St} {a : AAct}, a.n = s.n → a.f = s.a.f → xLeave X P fn ds u s = some (r, m') → ALeave P fn (fun r' H' => r' = r ∧ H' = m'.H) ds u a s.H := by
  have hres : ∀ {s : St} {a : AAct}, a.f = s.a.f → aResults P fn a s.H = aResults P fn s.a s.H := by
    intro s a ha
    have h1 : ∀ x, aResult P a s.H x = aResult P s.a s.H x := fun x => by cases x <;> simp only [aResult, ha]
    have h2 : ∀ l, aResList P a s.H l = aResList P s.a s.H l := fun l => by
      induction l with
      | nil => rfl
      | cons x l ih => simp only [aResList, h1, ih]
    simp only [aResults, h2]
  induction ds with
  | nil =>
    intro u s a hn ha h
    cases u with
    | ret =>
      simp only [xLeave] at h
      obtain ⟨v, hv, h⟩ := map_some_iff h
      cases h
      simp only [ALeave]
      exact ⟨v, by rw [hres ha]; exact hv, rfl, rfl⟩
    | pan v => cases h; exact ⟨rfl, rfl⟩
    | caught => cases h
  | cons d ds ih =>
    intro u s a hn ha h
    obtain ⟨tg, args⟩ := d
    cases tg with
    | collected q =>
      simp only [xLeave] at h
      split at h
      · rename_i hg
        obtain ⟨hi, h⟩ := cond_none h
        have := ih (u := u) (s := { s with m := s.m.put q .dead }) (a := a) hn ha h
        simp only [ALeave]
        refine ⟨Mem.get_H hg, ?_⟩
        rw [show ({ s with m := s.m.put q .dead } : St).H = del s.H q by rw [St.mem_H, Mem.put_H hi]; rfl] at this
        exact this
      · cases h
    | fn f cap =>
      cases f with
      | func f =>
        simp only [xLeave] at h
        obtain ⟨q, hq, h⟩ := bind_some_iff h
        obtain ⟨v, u', m1⟩ := q
        obtain ⟨h1, h2⟩ := hX.dcall hq
        simp only [ALeave]
        refine ⟨h1, fun B0 m w args' u'' hr hv hu n => ?_⟩
        have h3 := h2 B0 m w args' u'' hr hv hu n
        refine ⟨h3.1, fun c cs hmode hroom => ?_⟩
        obtain ⟨e, u2, w2, fr, ⟨v1, v', U, H', mm, ⟨rfl, rfl, rfl⟩, rest⟩, more⟩ := h3.2 c cs hmode hroom
        exact ⟨e, u2, w2, fr, ⟨v1, v', U, _, mm, ih (u := aSettle U) (s := { s with m := m1 }) hn ha h, rest⟩, more⟩
      | _ => cases h
    | _ => cases h
end
end Go.Ab

/- ABSTRACT MEMORY, 24: closed runs, reckoned: code, calls, rounds; the reckoner is right. -/
namespace Go.Ab
open Go Go.RowKit
variable [TT] [PR]
section
variable {P : Program} {N : Nat} {X : Ex} {ro : Option Nat} {s s' : St} {dst : Option Tmp}

theorem xFill_get (l : List Value) : ∀ {k : Nat} {t : Tr (Option Value)}, k + l.length ≤ 1000000000 → ∀ x, tF (xFill l k t) x = if k ≤ x ∧ x < k + l.length then l[x - k]? else tF t x := by
  have _ := TT.tt
  induction l with
  | nil =>
    intro k t _ x
    simp only [xFill, List.length_nil, Nat.add_zero]
    rw [if_neg (by omega)]
  | cons v l ih =>
    intro k t h x
    simp only [List.length_cons] at h ⊢
    simp only [xFill]
    rw [ih (by omega)]
    have hb : Nat.ble k 1000000000 = true := Nat.ble_eq_true_of_le (by omega)
    by_cases h1 : Nat.succ k ≤ x ∧ x < Nat.succ k + l.length
    · rw [if_pos h1, if_pos (by omega)]
      have e : x - k = (x - Nat.succ k) + 1 := by omega
      rw [e, List.getElem?_cons_succ]
    · rw [if_neg h1, tF_set hb]
      simp only
      by_cases e : x = k
      · subst e
        rw [if_pos rfl, if_pos (by omega)]
        simp
      · rw [if_neg e, if_neg (by omega)]
theorem entry_eq {args : List Value} {n : Nat} {m : Mem} (h : Nat.ble args.length 1000000 = true) : (⟨args.length + (n - args.length), xFill args 0 .nil, [], m⟩ : St).a = aEntry args n := by
  have hl := Nat.le_of_ble_eq_true h
  unfold aEntry St.a
  simp only
  congr 1
  funext x
  rw [xFill_get args (by omega)]
  by_cases hx : x < args.length
  · rw [if_pos (by omega), if_pos hx]; rfl
  · rw [if_neg (by omega), if_neg hx]; rfl

theorem top_body (hP : P = PR.prog) {f : FuncId} {fn : Func} {c : Code} (hf : P.funcs[f]? = some fn) (hb : fn.body = some c) : codeGet (.top f) = c := by
  have _ := TT.tt
  subst hP
  show bodyOf PR.prog f = c
  simp [bodyOf, hf, hb]
theorem xCallF_sound (hX : Sound P N X) (hP : P = PR.prog) (hc : ∀ f fn c, P.funcs[f]? = some fn → fn.body = some c → Callable P f) {f : FuncId} {args : List Value} {m m' : Mem} {r : ARes} (h : xCallF X P f args m = some (r, m')) :
    Callable P f ∧ SCalls P f args m.H fun r' H' => r' = r ∧ H' = m'.H := by
  unfold xCallF at h
  obtain ⟨fn, hfn, h⟩ := bind_some_iff h
  obtain ⟨c, hb, h⟩ := bind_some_iff h
  obtain ⟨hl, h⟩ := cond_none h
  obtain ⟨q, hq, h⟩ := bind_some_iff h
  obtain ⟨e, s1⟩ := q
  refine ⟨hc f fn c hfn hb, SCalls_of_AWp hfn hb ?_⟩
  have hcode := hX.code hq
  rw [entry_eq hl, top_body hP hfn hb] at hcode
  refine AWp.mono hcode ?_
  rintro x a H ⟨rfl, rfl, rfl⟩
  cases x with
  | normal => exact xLeave_sound hX _ rfl rfl h
  | ret => exact xLeave_sound hX _ rfl rfl h
  | panic v => exact xLeave_sound hX _ rfl rfl h
  | exit id => cases h
  | goto l => cases h
theorem xDCallF_sound (hX : Sound P N X) (hP : P = PR.prog) (hc : ∀ f fn c, P.funcs[f]? = some fn → fn.body = some c → Callable P f) {f : FuncId} {args : List Value} {u u' : AMode} {m m' : Mem} {v : Value} (h : xDCallF X P f args u m = some (v, u', m')) :
    Callable P f ∧ SDCalls P f args u m.H fun v' w H' => v' = v ∧ w = u' ∧ H' = m'.H := by
  unfold xDCallF at h
  obtain ⟨fn, hfn, h⟩ := bind_some_iff h
  obtain ⟨c, hb, h⟩ := bind_some_iff h
  obtain ⟨hl, h⟩ := cond_none h
  obtain ⟨q, hq, h⟩ := bind_some_iff h
  obtain ⟨e, u1, s1⟩ := q
  refine ⟨hc f fn c hfn hb, SDCalls_of_AWpS hfn hb ?_⟩
  have hcode := hX.codeS hq
  rw [entry_eq hl, top_body hP hfn hb] at hcode
  refine AWpS.mono hcode ?_
  rintro x w a H ⟨rfl, rfl, rfl, rfl⟩
  simp only at h
  split at h
  · rename_i hd
    obtain ⟨v1, hv, h⟩ := map_some_iff h
    cases h
    exact ⟨hd, _, hv, rfl, rfl, rfl⟩
  · rename_i hd
    obtain ⟨v1, hv, h⟩ := map_some_iff h
    cases h
    exact ⟨hd, _, hv, rfl, rfl, rfl⟩
  · cases h

theorem xSetPs_eq (n : Nat) (l : List (Tmp × Value)) : ∀ {t : Tr (Option Value)}, ((l.map (·.1)).all fun d => Nat.ble d 1000000000) = true → setPs ⟨n, tF t⟩ l = ⟨n, tF (xSetPs n t l)⟩ := by
  have _ := TT.tt
  induction l with
  | nil => intro t _; rfl
  | cons x l ih =>
    intro t h
    obtain ⟨d, v⟩ := x
    simp only [List.map_cons, List.all_cons, Bool.and_eq_true] at h
    simp only [setPs, xSetPs]
    rw [← ih h.2, tF_set h.1, ble_cond]
theorem xEndRound_sound {l : Nat} {jump : Option Code} {m m' : Mem} {r : ARes} (hl : Nat.ble l 1000000000 = true) (h : xEndRound l jump m = some (r, m')) : endRound l jump m.H fun r' H' => r' = r ∧ H' = m'.H := by
  unfold xEndRound at h
  split at h
  · rename_i L hL
    cases h
    have hH : m.H l = some (.loop L.a) := Mem.get_H hL
    refine ⟨L.a, by simp [loopAt, hH], rfl, ?_⟩
    rw [Mem.put_H hl]
    rfl
  · cases h
theorem xRoundF_sound (hX : Sound P N X) {l : Nat} {args : List Value} {m m' : Mem} {r : ARes} (h : xRoundF X l args m = some (r, m')) : SRound P l args m.H fun r' H' => r' = r ∧ H' = m'.H := by
  unfold xRoundF at h
  obtain ⟨hl, h⟩ := cond_none h
  split at h
  · rename_i L hL
    obtain ⟨hc, h⟩ := cond_none h
    simp only [Bool.and_eq_true] at hc
    have hlen := Nat.eq_of_beq_eq_true hc.1
    have hH : m.H l = some (.loop L.a) := Mem.get_H hL
    obtain ⟨q, hq, h⟩ := bind_some_iff h
    obtain ⟨e, s1⟩ := q
    refine SRound_of_AWp (L := L.a) hH hlen ?_
    have hps : ((L.params.toList.zip args).map (·.1)) = L.params.toList := List.map_fst_zip (by simp [hlen])
    have hset := xSetPs_eq L.n (L.params.toList.zip args) (t := L.t) (by rw [hps]; exact hc.2)
    have hcode := hX.code hq
    have e1 : (⟨L.n, xSetPs L.n L.t (L.params.toList.zip args), [], m⟩ : St).a = ⟨L.a.tmps.n, (setPs L.a.tmps (L.a.params.toList.zip args)).f, []⟩ := by
      show (⟨L.n, tF (xSetPs L.n L.t (L.params.toList.zip args)), []⟩ : AAct) = ⟨L.n, (setPs ⟨L.n, tF L.t⟩ (L.params.toList.zip args)).f, []⟩
      rw [hset]
    rw [e1] at hcode
    refine AWp.mono hcode ?_
    rintro x a H ⟨rfl, rfl, rfl⟩
    cases x with
    | normal =>
      simp only at h
      split at h
      · rename_i L2 hL2
        split at h
        · rename_i hst
          obtain ⟨q2, hq2, h⟩ := bind_some_iff h
          obtain ⟨e2, s2⟩ := q2
          have hH2 : s1.H l = some (.loop L2.a) := Mem.get_H hL2
          refine ⟨L2.a, by simp [loopAt, hH2], hst, ?_⟩
          have hbody := hX.code hq2
          have e3 : ({ s1 with m := s1.m.put l (.loop { L2 with state := .busy }) } : St).H = upd s1.H l (.loop { L2.a with state := .busy }) := by
            rw [St.mem_H, Mem.put_H hl]; rfl
          rw [e3] at hbody
          refine AWp.mono hbody ?_
          rintro x2 a2 H2 ⟨rfl, rfl, rfl⟩
          cases x2 with
          | normal => exact xEndRound_sound hl h
          | ret => exact xEndRound_sound hl h
          | exit id => exact xEndRound_sound hl h
          | goto t => cases h
          | panic v => cases h
        · cases h
      · cases h
    | _ => cases h
  · cases h

theorem xRangeEnd_sound {l : Nat} {q : ARes × Mem} {e : AExit} (hl : Nat.ble l 1000000000 = true) (h : xRangeEnd l s q = some (e, s')) : ∀ r' H', (r' = q.1 ∧ H' = q.2.H) → ARangeEnd l (Ends e s') s.a r' H' := by
  rintro r' H' ⟨rfl, rfl⟩
  unfold xRangeEnd at h
  obtain ⟨r, m⟩ := q
  cases r with
  | pan v => cases h; exact ⟨rfl, rfl, rfl⟩
  | ret v =>
    simp only at h
    split at h
    · rename_i L hL
      have hH : m.H l = some (.loop L.a) := Mem.get_H hL
      have hdel : (m.put l .dead).H = del m.H l := by rw [Mem.put_H hl]; rfl
      have hbusy : ∀ {o : Option (AExit × St)}, (match L.state with | .busy => none | _ => o) = some (e, s') → L.state ≠ .busy ∧ o = some (e, s') := by
        intro o ho
        cases hst : L.state <;> rw [hst] at ho <;> first | exact ⟨by simp, ho⟩ | cases ho
      obtain ⟨hb, h⟩ := hbusy h
      refine ⟨L.a, by simp [loopAt, hH], hb, ?_⟩
      show match L.pending with
        | none => Ends e s' .normal s.a (del m.H l)
        | some .ret => Ends e s' .ret s.a (del m.H l)
        | some (.exit id) => Ends e s' (.exit id) s.a (del m.H l)
        | _ => False
      split at h
      · rename_i hp; rw [hp]; cases h; exact ⟨rfl, rfl, by rw [St.mem_H, hdel]⟩
      · rename_i hp; rw [hp]; cases h; exact ⟨rfl, rfl, by rw [St.mem_H, hdel]⟩
      · rename_i id hp; rw [hp]; cases h; exact ⟨rfl, rfl, by rw [St.mem_H, hdel]⟩
      · cases h
    · cases h
theorem ACallF_mono {fv : Value} {vs : List Value} {H : AHeap} {R R' : ARes → AHeap → Prop} (hr : ∀ r H', R r H' → R' r H') (h : ACallF P fv vs H R) : ACallF P fv vs H R' := by
  have _ := PR.prog
  unfold ACallF at h
  split at h
  · exact ⟨h.1, h.2.mono hr⟩
  · split at h
    · rename_i e
      simp only [ACallF, e]
      obtain ⟨u, h1, h2, h3⟩ := h
      exact ⟨u, h1, h2, h3.mono hr⟩
    · exact h.elim
  · exact h.elim
theorem cond_none' {α : Type} {b : Bool} {x : Option α} {y : α} (h : cond b none x = some y) : b = false ∧ x = some y := by
  have _ := TT.tt
  have _ := PR.prog
  cases b with
  | false => exact ⟨rfl, h⟩
  | true => cases h
theorem free_le {m : Mem} (h : m.free = true) : Nat.ble m.nx 1000000000 = true := by
  have _ := TT.tt
  have _ := PR.prog
  unfold Mem.free at h
  cases hg : m.h.get m.nx with
  | some x => rw [hg] at h; cases h
  | none => rw [hg] at h; exact h
theorem xRange_sound (htt : TT.tt = true) (hX : Sound P N X) {g : Operand} {ps : Array Tmp} {p : Loc} {e : AExit} (h : xRange X P ro g ps p s = some (e, s')) : AWp P ro (.rangeFunc g ps (codeGet (.l p)) (codeGet (.r p))) (Ends e s') s.a s.H := by
  unfold xRange at h
  obtain ⟨gv, hgv, h⟩ := bind_some_iff h
  obtain ⟨hy, h⟩ := cond_none' h
  refine AWp_rangeFunc ⟨gv, hgv, ?_⟩
  cases ro with
  | none =>
    simp only at h
    obtain ⟨hf1, h⟩ := cond_none h
    obtain ⟨hf2, h⟩ := cond_none h
    obtain ⟨q, hq, h⟩ := bind_some_iff h
    obtain ⟨r, m2⟩ := q
    obtain ⟨e1, e2⟩ := Mem.new_H (b := .defs) hf1
    obtain ⟨e3, e4⟩ := Mem.new_H (b := .loop ⟨.ready, none, s.n, s.t, ps, p⟩) hf2
    have hcall := xFnVal_soundF hX hy hq
    rw [e3] at hcall
    rw [e1] at hcall e4
    refine .inl ⟨htt, s.m.nx, e2, .inl ⟨htt, (s.m.new .defs).nx, e4, ?_⟩⟩
    exact ACallF_mono (xRangeEnd_sound (s := { s with ds := ⟨.collected s.m.nx, #[]⟩ :: s.ds }) (free_le hf2) h) hcall
  | some l0 =>
    simp only at h
    split at h
    · rename_i L0 hL0
      obtain ⟨hf1, h⟩ := cond_none h
      obtain ⟨q, hq, h⟩ := bind_some_iff h
      obtain ⟨r, m2⟩ := q
      obtain ⟨e1, e2⟩ := Mem.new_H (b := .loop ⟨.ready, none, s.n, s.t, ps, p⟩) hf1
      have hcall := xFnVal_soundF hX hy hq
      rw [e1] at hcall
      exact ⟨L0.a, Mem.get_H hL0, .inl ⟨htt, s.m.nx, e2, ACallF_mono (xRangeEnd_sound (free_le hf1) h) hcall⟩⟩
    · cases h

theorem array_eta {α : Type} (a : Array α) : a = ⟨a.toList⟩ := have _ := TT.tt; have _ := PR.prog; rfl
end
end Go.Ab

