/- ABSTRACT MEMORY, 20d: regions that draw their order, where names are free: every order. -/
import Derived.Test.YtoelpblmhmhglaaDoorOB
namespace Go.Ab
open Go Go.RowKit
variable [TT]
section
variable {P : Program} {B0 : Prot} {m : NMap} {w : World} {ro : Option Nat} {ops : Array Oper} {Q : AExit → AAct → AHeap → Prop} {ai : AAct} {ds : List Deferred} {D T : List Nat} {V : Nat → Value} {H : AHeap} {a : AAct}
theorem simT (htt : TT.tt = true) (hw : wfT ops ai.n = true) {F : Fence} {n : Nat} {m0 : NMap} {H0 : AHeap} {w0 : World} (fuelσ : Nat) : ∀ {fuel : Nat} {listed : Array Bool} {D T : List Nat} {V : Nat → Value} {H : AHeap} {ds : List Deferred} {m : NMap} {w : World} {a' : Act} (t : Nat),
    (∀ j, listed.getD j false = true ↔ j ∈ T) → listed.size = ops.size → unlisted ops T ≤ fuelσ → InvT P ops ai D T V H → Blank ops D T V m H0 → Ext m0 H0 m H → Keep B0 w0 w → FRel m ro F → Rel P B0 m H w → ARel m { asg ops T V ai with defers := ds } a' →
    BGo P ro ops Q (sans ops ai) fuel D { asg ops D V ai with defers := ds } H → wpOpsIn F n P ops (LiftQ P B0 m0 H0 w0 (Up Q)) (Region.linearise.go .any ops fuelσ t listed []) a' w := by
 have hready : ∀ {listed : Array Bool} {T : List Nat}, (∀ j, listed.getD j false = true ↔ j ∈ T) → listed.size = ops.size → ∀ i, i ∈ Region.ready .any ops listed ↔ i < ops.size ∧ i ∉ T ∧ ∀ j ∈ depsOf ops i, j ∈ T := by
  intro listed T hl hs i
  simp only [Region.ready, List.mem_filter, List.mem_range, Bool.and_eq_true, Bool.not_eq_true']
  constructor
  · rintro ⟨h1, h2, h3⟩
    obtain ⟨o, ho⟩ := get_of_lt h1
    refine ⟨h1, fun hc => ?_, fun j hj => ?_⟩
    · have := (hl i).2 hc
      have hlt : i < listed.size := by rw [hs]; exact h1
      simp [Array.getD, hlt] at this h2
      rw [this] at h2
      cases h2
    · simp only [depsOf, ho, List.mem_map, List.mem_filter] at hj
      obtain ⟨e, ⟨he, hb⟩, rfl⟩ := hj
      simp only [ho, Option.map_some, Option.getD_some, Array.all_eq_true'] at h3
      have := h3 e (by simpa using he)
      rw [hb] at this
      exact (hl e.on).1 (by simpa using this)
  · rintro ⟨h1, h2, h3⟩
    obtain ⟨o, ho⟩ := get_of_lt h1
    refine ⟨h1, ?_, ?_⟩
    · have hlt : i < listed.size := by rw [hs]; exact h1
      have hn : ¬ listed.getD i false = true := fun hc => h2 ((hl i).1 hc)
      simp [Array.getD, hlt] at hn ⊢
      exact hn
    · simp only [ho, Option.map_some, Option.getD_some, Array.all_eq_true']
      intro e he
      cases hb : Region.binds .any e with
      | false => rfl
      | true =>
       have := (hl e.on).2 (h3 e.on (by simp only [depsOf, ho, List.mem_map, List.mem_filter]; exact ⟨e, ⟨by simpa using he, hb⟩, rfl⟩))
       simpa using this
 /- nothing is left -/
 have hend : ∀ {fuel : Nat} {D T : List Nat} {V : Nat → Value} {H : AHeap} {ds : List Deferred} {m : NMap} {w : World} {a' : Act}, (∀ i, i < ops.size → i ∉ T → ¬ ∀ j ∈ depsOf ops i, j ∈ T) → InvT P ops ai D T V H → Ext m0 H0 m H → Keep B0 w0 w → Rel P B0 m H w →
     ARel m { asg ops T V ai with defers := ds } a' → BGo P ro ops Q (sans ops ai) fuel D { asg ops D V ai with defers := ds } H → LiftQ P B0 m0 H0 w0 (Up Q) .normal a' w := by
  intro fuel D T V H ds m w a' hno hI hE hB hr ha hg
  have hDT : ∀ i ∈ D, i ∈ T := fun i hi => Classical.byContradiction fun hc => by
   obtain ⟨k, hk, hkT, hd⟩ := hI.ord.first ⟨i, hi, hc⟩
   exact hno k (hI.dcl k hk).1 hkT hd
  have hnil : readyL ops D = [] := List.eq_nil_iff_forall_not_mem.2 fun i hi => by
   obtain ⟨h1, h2, h3⟩ := ready_mem.1 hi
   exact hno i h1 (fun hc => h2 (hI.sub i hc)) fun j hj => hDT j (h3 j hj)
  cases fuel with
  | zero => exact hg.elim
  | succ fuel =>
   simp only [BGo, hnil, List.find?_nil] at hg
   have hq := hg.1 trivial
   have e : asg ops D V ai = asg ops T V ai := by
    unfold asg
    congr 1
    funext t
    cases hf : D.find? (fun z => dstOf ops z == some t) with
    | none =>
     cases hg' : T.find? (fun z => dstOf ops z == some t) with
     | none => rfl
     | some z =>
      have := List.find?_eq_none.1 hf z (hI.sub z (List.mem_of_find?_eq_some hg'))
      have h2 := List.find?_some hg'
      exact absurd h2 this
    | some z =>
     have hz := List.mem_of_find?_eq_some hf
     have hd := List.find?_some hf
     cases hg' : T.find? (fun z => dstOf ops z == some t) with
     | none => exact absurd hd (List.find?_eq_none.1 hg' z (hDT z hz))
     | some z' =>
      have hz' := List.mem_of_find?_eq_some hg'
      have hd' := List.find?_some hg'
      have := wfT_dst hw (hI.dcl z hz).1 (hI.dcl z' (hI.sub z' hz')).1 (d := t) (by simpa using hd) (by simpa using hd')
      subst this
      rfl
   rw [e] at hq
   exact ⟨.normal, _, _, _, up_self hq, hE, hr, ha, hB, rfl⟩
 induction fuelσ with
 | zero =>
  intro fuel listed D T V H ds m w a' t hl hs hun hI hBl hE hB hf hr ha hg
  simp only [Region.linearise.go, List.reverse_nil, wpOpsIn]
  refine hend (fun i hi hiT _ => ?_) hI hE hB hr ha hg
  have := unlisted_cons hi hiT
  omega
 | succ fuelσ ih =>
  intro fuel listed D T V H ds m w a' t hl hs hun hI hBl hE hB hf hr ha hg
  simp only [Region.linearise.go]
  change wpOpsIn F n P ops _ (match (Region.ready .any ops listed)[t % (Region.ready .any ops listed).length]? with
   | some i => Region.linearise.go .any ops fuelσ (t / (Region.ready .any ops listed).length) (listed.setIfInBounds i true) [i]
   | none => [].reverse) a' w
  cases hi : (Region.ready .any ops listed)[t % (Region.ready .any ops listed).length]? with
  | none =>
   have hnil : Region.ready .any ops listed = [] := by
    cases hr : Region.ready .any ops listed with
    | nil => rfl
    | cons x xs =>
     rw [hr] at hi
     have hlt : t % (x :: xs).length < (x :: xs).length := Nat.mod_lt _ (by simp)
     simp at hi
     simp at hlt
     omega
   simp only [List.reverse_nil, wpOpsIn]
   refine hend (fun i hi hiT hd => ?_) hI hE hB hr ha hg
   have := (hready hl hs i).2 ⟨hi, hiT, hd⟩
   rw [hnil] at this
   cases this
  | some i =>
   simp only []
   rw [linearise_go_acc, List.reverse_singleton, List.singleton_append]
   obtain ⟨h1, h2, h3⟩ := (hready hl hs i).1 (List.mem_of_getElem? hi)
   obtain ⟨o, ho⟩ := get_of_lt h1
   have hl' : ∀ j, (listed.setIfInBounds i true).getD j false = true ↔ j ∈ i :: T := by
    intro j
    have hlt : i < listed.size := by rw [hs]; exact h1
    simp only [Array.getD_eq_getD_getElem?, List.mem_cons]
    by_cases e : j = i
    · subst e; simp [hlt]
    · rw [Array.getElem?_setIfInBounds_ne (Ne.symm e), ← Array.getD_eq_getD_getElem?, hl j]
      simp [e]
   have hs' : (listed.setIfInBounds i true).size = ops.size := by simpa using hs
   have hun' : unlisted ops (i :: T) ≤ fuelσ := by have := unlisted_cons h1 h2; omega
   obtain ⟨fuel', D', V', H', hI', hBl', hE', hr', hV', hn, hnm, hg'⟩ := goT_norm htt hw fuel hI hBl hE hr hg
   have haT : asg ops T V ai = asg ops T V' ai := (asg_V hV').symm
   rw [haT] at ha
   have hlook : ∀ {X : List Nat} {W : Nat → Value}, (∀ z ∈ X, z < ops.size) → (∀ z ∈ X, ∀ j ∈ depsOf ops z, j ∈ X) → (∀ j ∈ depsOf ops i, j ∈ X) → i ∉ X → ∀ s ∈ looks ops i, (asg ops X W ai).f s = (asg ops (depsOf ops i) W ai).f s :=
    fun hX hXc hXd hiX s hs => lookT hw h1 hX hXd (.inr ⟨hiX, hXc⟩) hs
   have hTl : ∀ z ∈ T, z < ops.size := fun z hz => (hI'.dcl z (hI'.sub z hz)).1
   have hlT := hlook (X := T) (W := V') hTl hI'.tcl h3 h2
   simp only [wpOpsIn, ho]
   by_cases hiD : i ∈ D'
   · -- the plan has done it
     obtain ⟨o', ho', hx⟩ := hI'.lag i hiD h2
     rw [ho] at ho'
     cases ho'
     have hI2 := hI'.step hiD h3
     have hVV : vset V' i (V' i) = V' := by funext j; simp only [vset]; split <;> simp_all
     have hBl2 : Blank ops D' (i :: T) V' m H0 := fun k hk hkT => hBl' k hk fun hc => hkT (List.mem_cons_of_mem _ hc)
     have off : aWanted ops (asg ops (depsOf ops i) V' ai) o = some false → V' i = undef → Region.wanted o (yielded ops a'.tmps) = false ∧ wpOpsIn F n P ops (LiftQ P B0 m0 H0 w0 (Up Q)) (Region.linearise.go .any ops fuelσ (t / (Region.ready .any ops listed).length) (listed.setIfInBounds i true) []) (a'.put o.dst undef) w := by
      intro hw1 hu
      have hwT : aWanted ops ({ asg ops T V' ai with defers := ds } : AAct) o = some false := by rw [← hw1]; exact wanted_congr ho hlT
      refine ⟨aWanted_sound ha hwT, ?_⟩
      have hput := put_sound (dst := o.dst) ha (v := undef) (v' := undef) (.tuple .nil .nil)
      rw [← hu, put_asg ho h2, hVV] at hput
      rw [hu] at hput
      exact ih _ hl' hs' hun' hI2 hBl2 hE' hB hf hr' hput hg'
     rcases hx with ⟨hfl, ⟨hw1, hp⟩ | ⟨hw1, hu⟩⟩ | ⟨hmk, ⟨hw1, b, mk, z, hal, hVz, hHz⟩ | ⟨hw1, hu⟩⟩
     · -- it computes
       have hwT : aWanted ops ({ asg ops T V' ai with defers := ds } : AAct) o = some true := by rw [← hw1]; exact wanted_congr ho hlT
       have hpT : aPure P (({ asg ops T V' ai with defers := ds } : AAct).eval P) H' o.op = some (V' i) := by rw [← hp]; exact aPure_congr (eval_congr ho hlT)
       rw [aWanted_sound ha hwT]
       simp only [if_true]
       refine ⟨fun f _ => hf.fn f, ?_⟩
       obtain ⟨v', q1, q2⟩ := aPure_sound hr' ha hpT
       rw [semAt_exec (by rintro c hc; rw [hc] at hpT; simp [aPure] at hpT), q1]
       have hput := put_sound (dst := o.dst) ha q2
       rw [put_asg ho h2, hVV] at hput
       exact ih _ hl' hs' hun' hI2 hBl2 hE' hB hf hr' hput hg'
     · obtain ⟨e1, e2⟩ := off hw1 hu
       rw [e1]
       simp only [Bool.false_eq_true, if_false]
       exact ⟨fun f _ => hf.fn f, e2⟩
     · -- it makes the block that memory is said to have
       have hmkA : mkAt ops i = true := by simp [mkAt, ho, hmk]
       have hnz : nameOf (V' i) = some z := by rw [hVz]; exact nameOf_mk hal z
       obtain ⟨hmz, hH0z⟩ := hBl' i hiD h2 hmkA z hnz
       have hwT : aWanted ops ({ asg ops T V' ai with defers := ds } : AAct) o = some true := by rw [← hw1]; exact wanted_congr ho hlT
       have halT : aAlloc P (({ asg ops T V' ai with defers := ds } : AAct).eval P) o.op = some (b, mk) := by rw [← hal]; exact aAlloc_congr (eval_congr ho hlT)
       rw [aWanted_sound ha hwT]
       simp only [if_true]
       refine ⟨fun f _ => hf.fn f, ?_⟩
       have hH2 : upd (fun j => if j = z then none else H' j) z b = H' := by
        funext j
        simp only [upd]
        split
        · rename_i e; rw [e, hHz]
        · rfl
       obtain ⟨v', ob, fz, q1, q2, q3⟩ := aAlloc_sound (hr'.without hmz) ha halT (i := z) hmz (by simp)
       rw [hH2] at q2
       rw [semAt_exec (by rintro c hc; rw [hc] at halT; simp [aAlloc] at halT), q1]
       have hput := put_sound (dst := o.dst) (ha.mono (nset_le hmz)) q3
       rw [← hVz, put_asg ho h2, hVV] at hput
       refine ih _ hl' hs' hun' hI2 (fun k hk hkT mk' z' hz' => ?_) ⟨NMap.le_trans hE'.le (nset_le hmz), fun ht j hj => ?_⟩ (hB.trans ((Keep.refl B0 w).alloc hr'.base _)) (hf.mono (nset_le hmz)) q2 hput hg'
       · have hkT' : k ∉ T := fun hc => hkT (List.mem_cons_of_mem _ hc)
         have hki : k ≠ i := by rintro rfl; exact hkT List.mem_cons_self
         have hne : z' ≠ z := by
          rintro rfl
          exact hI'.dist k hk hkT' i hiD h2 hki mk' hmkA z' hz' hnz
         obtain ⟨g1, g2⟩ := hBl' k hk hkT' mk' z' hz'
         exact ⟨by simp [nset, hne, g1], g2⟩
       · have hne : j ≠ z := by rintro rfl; exact hj hH0z
         obtain ⟨g1, g2⟩ := hE'.same ht j hj
         exact ⟨by simp [nset, hne, g1], g2⟩
     · obtain ⟨e1, e2⟩ := off hw1 hu
       rw [e1]
       simp only [Bool.false_eq_true, if_false]
       exact ⟨fun f _ => hf.fn f, e2⟩
   · -- the plan does it now
     have hiR : i ∈ readyL ops D' := ready_mem.2 ⟨h1, hiD, fun j hj => hI'.sub j (h3 j hj)⟩
     have hlD := hlook (X := D') (W := V') (fun z hz => (hI'.dcl z hz).1) (fun z hz => (hI'.dcl z hz).2) (fun j hj => hI'.sub j (h3 j hj)) hiD
     have hlDT : ∀ s ∈ looks ops i, ({ asg ops D' V' ai with defers := ds } : AAct).f s = ({ asg ops T V' ai with defers := ds } : AAct).f s := fun s hs => (hlD s hs).trans (hlT s hs).symm
     simp only [BGo, hn, hnm] at hg'
     have hgi := hg'.2 i hiR
     rw [ho] at hgi
     obtain ⟨b, hb, ht, hfa⟩ := hgi
     have hbT : aWanted ops ({ asg ops T V' ai with defers := ds } : AAct) o = some b := by rw [← hb]; exact (wanted_congr ho hlDT).symm
     rw [aWanted_sound ha hbT]
     have blank : ∀ {v : Value} {H1 : AHeap} {m1 : NMap}, Ext m H' m1 H1 → Blank ops (i :: D') (i :: T) (vset V' i v) m1 H0 := by
      intro v H1 m1 hE1 k hk hkT mk' z' hz'
      have hki : k ≠ i := by rintro rfl; exact hkT List.mem_cons_self
      have hkD : k ∈ D' := by simpa [hki] using hk
      have hkT' : k ∉ T := fun hc => hkT (List.mem_cons_of_mem _ hc)
      have hz2 : nameOf (V' k) = some z' := by simpa [vset, hki] using hz'
      obtain ⟨g1, g2⟩ := hBl' k hkD hkT' mk' z' hz2
      obtain ⟨o', ho', hx⟩ := hI'.lag k hkD hkT'
      exact ⟨by rw [(hE1.same htt z' (hx.inH ho' mk' hz2)).1]; exact g1, g2⟩
     cases b with
     | true =>
      simp only [if_true]
      have hop : AOp P ro { asg ops T V' ai with defers := ds } H' o.dst o.op (fun a1 H1 => ∃ v ds2, a1 = { asg ops (i :: T) (vset V' i v) ai with defers := ds2 } ∧ AgainT P ops i { asg ops (i :: D') (vset V' i v) ai with defers := ds2 } H1 D' ∧
          BGo P ro ops Q (sans ops ai) fuel' (i :: D') { asg ops (i :: D') (vset V' i v) ai with defers := ds2 } H1) (fun v H1 => Up Q (.panic v) { asg ops T V' ai with defers := ds } H1) := by
       refine AOp_congr (eval_congr ho hlDT) rfl (fun v ds2 H2 hk => ?_) (fun v H2 hx => up_sans hTl hx) (ht rfl)
       have e1 := put_asg (V := V') (v := v) (ai := ai) (ds := ds2) ho hiD
       have e2 := put_asg (V := V') (v := v) (ai := ai) (ds := ds2) ho h2
       simp only at e1 e2 hk ⊢
       rw [e1] at hk
       exact ⟨v, ds2, e2, hk.1, hk.2⟩
      refine AOp_sound hf hr' ha ?_ ?_ hop
      · rintro a1 w1 ⟨a2, H1, m1, ⟨v, ds2, rfl, hk1, hk2⟩, hE1, hr1, ha1, hB1⟩
        exact ih _ hl' hs' hun' (hI'.both hw hiD h1 h3 (.inr hk1)) (blank hE1) (hE'.trans hE1) (hB.trans hB1) (hf.mono hE1.le) hr1 ha1 hk2
      · intro v v' H1 m1 w1 hx hE1 hr1 hB1 hv
        exact ⟨.panic v, _, H1, m1, hx, hE'.trans hE1, hr1, ha.mono hE1.le, hB.trans hB1, v', rfl, hv⟩
     | false =>
      simp only [Bool.false_eq_true, if_false]
      refine ⟨fun f _ => hf.fn f, ?_⟩
      have hk := hfa rfl
      rw [put_asg ho hiD] at hk
      have hput := put_sound (dst := o.dst) ha (v := undef) (v' := undef) (.tuple .nil .nil)
      rw [put_asg ho h2] at hput
      exact ih _ hl' hs' hun' (hI'.both (ds := ds) hw hiD h1 h3 (.inl rfl)) (blank (Ext.refl m H')) hE' hB hf hr' hput hk
theorem AWp_drawT {id : Nat} (k : Nat) (htt : TT.tt = true) (hmix : P.follows .mixedOrders = true) (hw : wfT ops a.n = true) (h : BGo P ro ops Q (sans ops a) k [] a H) : AWp P ro (.region id ops true) Q a H := by
 intro B0 m w a' F hr ha hf n
 refine wpIn_mono (wpIn_region_draw (Q := LiftQ P B0 m H w (Up Q)) fun t => ?_) fun _ _ _ hl => LiftQ_up hl
 have hs : Region.schedule (P.follows .mixedOrders) ops t = Region.linearise.go .any ops ops.size t (Array.replicate ops.size false) [] := by
  simp only [Region.schedule, hmix, Bool.true_or, if_true]
  rfl
 rw [hs]
 have hI : InvT P ops a [] [] (fun _ => undef) H := ⟨fun _ h => h, fun _ h => (by cases h), fun _ h => (by cases h), fun _ h => (by cases h), trivial, fun _ h => (by cases h)⟩
 have hr' : Rel P B0 m H { w with drawn := w.drawn + 1 } := hr.of_heap rfl
 have hB : Keep B0 w { w with drawn := w.drawn + 1 } := Keep.drew (Keep.refl _ _)
 exact simT htt hw ops.size (fuel := k) (listed := Array.replicate ops.size false) (T := []) (ds := a.defers) t (fun j => by rw [Array.getD_eq_getD_getElem?, Array.getElem?_replicate]; split <;> simp) (by simp) (Nat.le_trans (List.length_filter_le _ _) (by simp)) hI (fun _ h => (by cases h)) (Ext.refl _ _) hB hf hr' ha h
end
end Go.Ab
