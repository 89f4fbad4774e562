/- ABSTRACT MEMORY, 10: append, copy, clear. -/
import Derived.Test.YtoelpblmhmhglaaDoorOA
import Derived.Maps.RangeRun
import Derived.RangeFuncRecord
import Derived.LoopNIn
import Derived.RecoverIn
import Derived.Orders
namespace Go.Ab
open Go Go.RowKit
section
variable [TT] {P : Program} {B0 : Prot} {m : NMap} {H : AHeap} {w w' : World} {a : AAct} {a' : Act}
theorem below_setRow' {B : Prot} {g : Nat} {w0 w : World} (hb : Keep B w0 w) (hBg : ¬ B g) (cs : Array Value) : Keep B w0 (w.setRow g cs) := have _ := TT.tt;
 hb.trans ⟨rfl, rfl, rfl, by simp, fun k hk => setRow_other w g k cs (fun e => hBg (e ▸ hk))⟩
def AppPost (P : Program) (B0 : Prot) (m : NMap) (H : AHeap) (w : World) (v' : Value) (w' : World) : AppRes → Prop
 | .same v => VRel m v v' ∧ w' = w
 | .inpl v i b => VRel m v v' ∧ Rel P B0 m (upd H i b) w'
 | .grow H' n b => ∀ j, m j = none → H' j = none → ∃ f, Rel P B0 (nset m j f) (upd H' j b) w' ∧ VRel (nset m j f) (.slice (some ⟨j, 0, none⟩) n n) v'
theorem info_of (P : Program) {e : TypeId} {s by_ : Nat} {z : Value} (hs : tSize P e = some s) (hb : tBytes P e = some by_) (hz : tZero P e = some z) :
    ∃ inf, P.info? e = some inf ∧ inf.size = s ∧ inf.bytes = by_ ∧ inf.zero = some z := by
 have _ := TT.tt
 unfold tSize at hs; unfold tBytes at hb; unfold tZero at hz
 cases hi : P.info? e with
 | none => rw [hi] at hs; cases hs
 | some inf =>
  rw [hi] at hs hb hz
  exact ⟨inf, rfl, by simpa using hs, by simpa using hb, by simpa using hz⟩
theorem Rel.del (h : Rel P B0 m H w) {i : Nat} (hi : H i ≠ none) : Rel P B0 m (Ab.del H i) w :=
 h.sub fun j => by
  by_cases e : j = i
  · subst e; exact .inr (.inl ⟨by simp, hi⟩)
  · exact .inl (del_other _ _ _ e)
theorem grownCap_ge' (w : World) (need old : Nat) (e : TypeId) : need ≤ grownCap w need old e := by
 have _ := TT.tt
 simp only [grownCap, Question.cut]; omega
theorem append_none {t ty e : TypeId} {inf : TypeInfo} {ad : Option Addr} {n c k : Nat} {x' : Value} (ht : P.underlying t = some (.slice e)) (hi : P.info? e = some inf) (hn : n ≤ c)
    (hx : x' = .slice none 0 0 ∨ ∃ b, x' = .slice (some b) 0 k) : (Builtin.append_ #[t, t] ty #[.slice ad n c, x']).run P w = .ok (.slice ad n c) w := by
 have _ := TT.tt
 rcases hx with rfl | ⟨b, rfl⟩ <;> cases ad <;> simp [Builtin.append_, run_underlying ht, sizeOf, typeInfo, hi, Builtin.lenOf, hn, Builtin.firstCells, storeCells, loadCells, loadCellsFrom]
theorem aAppend_sound {t ty : TypeId} {d d' x x' : Value} {r : AppRes} (hr : Rel P B0 m H w) (hd : VRel m d d') (hx : VRel m x x') (h : aAppend P H t d x = some r) :
    ∃ v' w', (Builtin.append_ #[t, t] ty #[d', x']).run P w = .ok v' w' ∧ Keep B0 w w' ∧ AppPost P B0 m H w v' w' r := by
 unfold aAppend at h
 obtain ⟨e, he, h1⟩ := option_bind_some h
 clear h
 obtain ⟨s, hs, h2⟩ := option_bind_some h1
 clear h1
 obtain ⟨by_, hby, h3⟩ := option_bind_some h2
 clear h2
 obtain ⟨z, hz, h4⟩ := option_bind_some h3
 clear h3
 obtain ⟨kx, hkx, h⟩ := option_bind_some h4
 clear h4
 obtain ⟨k, xs⟩ := kx
 split at h
 · rename_i hc
   obtain ⟨hs0, hzs, hcell, hone⟩ := hc
   simp only at h hone
   have ht := tSlice_u he
   obtain ⟨inf, hinf, hisz, hiby, hizero⟩ := info_of P hs hby hz
   obtain ⟨ax, cx, xs', rfl, hax, hxs, hxl, hxc⟩ := sliceCells_sound hr hx hkx
   have hxl' := hxs.length
   have none0 : k = 0 → ((Value.slice ax k cx) = .slice none 0 0 ∨ ∃ b, (Value.slice ax k cx) = .slice (some b) 0 cx) := by
    intro h0
    subst h0
    cases ax with
    | none =>
     have hc0 : cx = 0 := by
      cases hx with
      | atom h1 _ => cases cx with
       | zero => rfl
       | succ n => simp [atomic] at h1
     subst hc0
     exact .inl rfl
    | some b => exact .inr ⟨b, rfl⟩
   split at h
   · -- onto nil
     have hdn := hd.eq_of_atomic rfl
     subst hdn
     split at h
     · rename_i hk0
       cases h
       exact ⟨_, w, append_none ht hinf (Nat.le_refl _) (none0 hk0), Keep.refl _ _, hd, rfl⟩
     · rename_i hk0
       split at h
       · rename_i hb
         cases h
         obtain ⟨b, rfl⟩ : ∃ b, ax = some b := by
          cases ax with
          | none => exact absurd (hax rfl) hk0
          | some b => exact ⟨b, rfl⟩
         have hrun := run_append_nil (P := P) w t ty e inf z ht hinf hizero b k cx xs' (by rw [hxl, hisz]) (hxc b rfl) (by omega) (by omega) (by rw [hiby]; omega)
         refine ⟨_, _, hrun, ((Keep.refl B0 w).drew.alloc (show ∀ k, B0 k → k < w.drew.heap.size from hr.base) _), fun j hmj hHj => ⟨⟨w.heap.size, 0, grownCap w k 0 e - k⟩, ?_, ?_⟩⟩
         · have hr1 : Rel P B0 m H w.drew := hr.of_heap rfl
           refine hr1.alloc hmj hHj _ _ _ rfl ⟨_, e, (0, 0), Go.heap_alloc_new w.drew _, fun j v hj => ?_, fun _ => ⟨rfl, rfl, hr.newb, rfl, ?_⟩, fun e => (by cases e), fun e => (by cases e)⟩
           · obtain ⟨v', h1, h2⟩ := hxs.get hj
             refine ⟨v', ?_, h2⟩
             have : j < xs'.length := (List.getElem?_eq_some_iff.1 h1).1
             rw [Nat.zero_add, Array.getElem?_append_left (by simpa using this)]
             simpa using h1
           · simp only [Array.size_append, List.size_toArray, size_zeroCells, hzs, hcell]
             omega
         · have hle := grownCap_ge' w k 0 e
           have := VsRel.slice (m := nset m j ⟨w.heap.size, 0, grownCap w k 0 e - k⟩) (i := j) (o := 0) (n := k) (c := k) (f := ⟨w.heap.size, 0, grownCap w k 0 e - k⟩) (a := ⟨w.heap.size, 0, none⟩)
            (by simp [nset]) (Nat.le_refl _) (fun _ => rfl) .nil
           have e2 : k + (grownCap w k 0 e - k) = grownCap w k 0 e := by omega
           rw [e2] at this
           exact this
       · cases h
   · rename_i i n c
     obtain ⟨f, ad, hm, hn, hfa, rfl⟩ := hd.slice_inv
     split at h
     · rename_i hk0
       cases h
       exact ⟨_, w, append_none ht hinf (by omega) (none0 hk0), Keep.refl _ _, hd, rfl⟩
     · rename_i hk0
       obtain ⟨b, rfl⟩ : ∃ b, ax = some b := by
        cases ax with
        | none => exact absurd (hax rfl) hk0
        | some b => exact ⟨b, rfl⟩
       split at h
       · rename_i cs e' hHi
         split at h
         · rename_i hee
           subst hee
           obtain ⟨cc, e2, fr, hcc, hcs, hown, _, _⟩ := hr.blocks i _ f hHi hm
           obtain ⟨hoff, hfr, hB, he2, hcsz⟩ := hown (by simp)
           subst hfr; subst he2
           rw [hcell] at hcsz
           split at h
           · -- in place
             rename_i hfit
             cases hst : storeB (.cells cs e2 .row) (n * s) xs with
             | none => rw [hst] at h; cases h
             | some bb =>
              rw [hst] at h
              cases h
              have had := hfa (by omega)
              subst had
              rw [show (⟨f.blk, f.off + 0, none⟩ : Addr) = ⟨f.blk, 0, none⟩ by rw [hoff]]
              obtain ⟨row, h1, h2, _⟩ := storeCells_sound hr hHi hm hxs hst
              have hsb := hst
              unfold storeB at hsb
              simp only at hsb
              split at hsb
              · rename_i hb3
                obtain ⟨_, hlen3, _⟩ := hb3
                have hrun := run_append_room (P := P) w t ty e2 inf ht hinf f.blk n (c + f.extra) cc hcc b k cx xs' (by rw [hxl, hisz]) (hxc b rfl) (ones_rel hxs hone) (by omega) (by rw [hisz, hxl', hcsz]; omega)
                have hst2 := run_storeCells_at P f.blk (n * inf.size) e2 xs' 0 cc w hcc (by rw [hisz, hxl', hcsz]; omega) (ones_rel hxs hone)
                rw [hoff, Nat.zero_add, ← hisz] at h1
                rw [h1] at hst2
                injection hst2 with _ hw
                simp only [Nat.add_zero] at hrun hw
                rw [← hw] at hrun
                refine ⟨_, _, hrun, below_setRow' (Keep.refl B0 w) hB _, ?_, h2⟩
                have := VsRel.slice (m := m) (i := i) (o := 0) (n := n + k) (c := c) (f := f) (a := ⟨f.blk, 0, none⟩) hm hfit (fun _ => by rw [hoff]) .nil
                exact this
              · cases hsb
           · rename_i hnfit
             split at h
             · rename_i hb
               obtain ⟨hb1, hb2, hb3⟩ := hb
               cases h
               have hmul : n * s ≤ c * s := Nat.mul_le_mul_right _ hn
               have holds : VsRel m (cs.take (n * s)) (cc.toList.take (n * s)) := by
                refine .of_get (by simp; omega) fun j v hj => ?_
                have hjs : j < n * s := by
                 have := (List.getElem?_eq_some_iff.1 hj).1
                 simp at this; omega
                rw [List.getElem?_take_of_lt hjs] at hj
                obtain ⟨v', h1, h2⟩ := hcs j v hj
                exact ⟨v', by rw [List.getElem?_take_of_lt hjs]; simpa [hoff] using h1, h2⟩
               by_cases hfit : n + k ≤ c + f.extra
               · -- there is room: in place, under a new name
                 have had := hfa (by omega)
                 subst had
                 rw [show (⟨f.blk, f.off + 0, none⟩ : Addr) = ⟨f.blk, 0, none⟩ by rw [hoff]]
                 have hmul2 : (n + k) * s ≤ (c + f.extra) * s := Nat.mul_le_mul_right _ hfit
                 rw [Nat.add_mul, Nat.add_mul] at hmul2
                 have hrun := run_append_room (P := P) w t ty e2 inf ht hinf f.blk n (c + f.extra) cc hcc b k cx xs' (by rw [hxl, hisz]) (hxc b rfl) (ones_rel hxs hone) hfit (by rw [hisz, hxl, hcsz, ← hb1]; omega)
                 refine ⟨_, _, hrun, below_setRow' (Keep.refl B0 w) hB _, fun j hmj hHj => ⟨⟨f.blk, 0, c + f.extra - (n + k)⟩, ?_, ?_⟩⟩
                 · refine (hr.del (by rw [hHi]; simp)).add hmj hHj _ _ (by simp) (fun k hk _ => setRow_other w f.blk k _ hk) (fun i2 c2 g2 hd2 h1 h2 => ?_) ⟨_, e2, (0, 0), setRow_heap w f.blk cc _ e2 _ hcc, fun j v hj => ?_, fun _ => ⟨rfl, rfl, hB, rfl, ?_⟩, fun e => (by cases e), fun e => (by cases e)⟩
                   · have hne : i2 ≠ i := by rintro rfl; simp at h1; exact hd2 h1.symm
                     rw [del_other _ _ _ hne] at h1
                     cases ho : c2.own with
                     | true => exact hr.inj i2 i c2 _ g2 f hne h1 hHi ho rfl h2 hm
                     | false =>
                      have h3 := (hr.blocks i2 c2 g2 h1 h2).ro_lt ho hd2
                      show g2.blk ≠ f.blk
                      exact fun e => hB (e ▸ h3)
                   · rw [hisz, Nat.zero_add]
                     simp only [List.getElem?_toArray]
                     have hap := holds.append hxs
                     obtain ⟨v', h1, h2⟩ := hap.get hj
                     refine ⟨v', ?_, h2⟩
                     rw [List.getElem?_append_left (by have := (List.getElem?_eq_some_iff.1 h1).1; simpa using this)]
                     exact h1
                   · simp only [List.size_toArray, List.length_append, List.length_take, List.length_drop, Array.length_toList, hisz, hxl, hcsz, ← hb1, hcell]
                     rw [hxl', ] at hxl
                     have e5 : (c + f.extra - (n + k)) * s = c * s + f.extra * s - (n * s + k * s) := by rw [Nat.sub_mul, Nat.add_mul, Nat.add_mul]
                     rw [e5]
                     omega
                 · have := VsRel.slice (m := nset m j ⟨f.blk, 0, c + f.extra - (n + k)⟩) (i := j) (o := 0) (n := n + k) (c := n + k) (f := ⟨f.blk, 0, c + f.extra - (n + k)⟩) (a := ⟨f.blk, 0, none⟩)
                    (by simp [nset]) (Nat.le_refl _) (fun _ => rfl) .nil
                   have e2 : n + k + (c + f.extra - (n + k)) = c + f.extra := by omega
                   rw [e2] at this
                   exact this
               · -- a new row
                 have holdc : ∀ (j : Nat) v, (cc.toList.take (n * s))[j]? = some v → w.cell? (ad.add j) = some v := by
                  intro j v hj
                  have hjs : j < n * s := by
                   have := (List.getElem?_eq_some_iff.1 hj).1
                   simp at this; omega
                  have hpos : 0 < n := by
                   rcases Nat.eq_zero_or_pos n with h0 | h0
                   · rw [h0] at hjs; simp at hjs
                   · exact h0
                  rw [hfa (by omega), addr_add, hoff]
                  rw [List.getElem?_take_of_lt hjs] at hj
                  simp only [World.cell?, hcc]
                  simpa using hj
                 have hol : (cc.toList.take (n * s)).length = n * inf.size := by
                  rw [hisz]; simp; omega
                 have hrun := run_append_grow (P := P) w t ty e2 inf z ht hinf hizero ad n (c + f.extra) (cc.toList.take (n * s)) hol holdc b k cx xs' (by rw [hxl, hisz]) (hxc b rfl) (by omega) (by omega) (by rw [hiby]; exact growslice_fits (by omega) hb2)
                 refine ⟨_, _, hrun, ((Keep.refl B0 w).drew.alloc (show ∀ k, B0 k → k < w.drew.heap.size from hr.base) _), fun j hmj hHj => ⟨⟨w.heap.size, 0, grownCap w (n + k) (c + f.extra) e2 - (n + k)⟩, ?_, ?_⟩⟩
                 · have hr1 : Rel P B0 m (Ab.del H i) w.drew := (hr.del (by rw [hHi]; simp)).of_heap rfl
                   refine hr1.alloc hmj hHj _ _ _ rfl ⟨_, e2, (0, 0), Go.heap_alloc_new w.drew _, fun j v hj => ?_, fun _ => ⟨rfl, rfl, hr.newb, rfl, ?_⟩, fun e => (by cases e), fun e => (by cases e)⟩
                   · have hap := holds.append hxs
                     obtain ⟨v', h1, h2⟩ := hap.get hj
                     refine ⟨v', ?_, h2⟩
                     have hlt : j < (cc.toList.take (n * s) ++ xs').length := (List.getElem?_eq_some_iff.1 h1).1
                     rw [Nat.zero_add, Array.getElem?_append_left (by simpa using hlt)]
                     rw [← h1]
                     simp
                   · have hl1 : (cs.take (n * s)).length = n * s := by simp; omega
                     have hl2 : (cc.toList.take (n * s)).length = n * s := by rw [hol, hisz]
                     simp only [Array.size_append, List.size_toArray, size_zeroCells, hzs, hcell, List.length_append, hl1, hl2, hxl']
                 · have hle := grownCap_ge' w (n + k) (c + f.extra) e2
                   have := VsRel.slice (m := nset m j ⟨w.heap.size, 0, grownCap w (n + k) (c + f.extra) e2 - (n + k)⟩) (i := j) (o := 0) (n := n + k) (c := n + k) (f := ⟨w.heap.size, 0, grownCap w (n + k) (c + f.extra) e2 - (n + k)⟩) (a := ⟨w.heap.size, 0, none⟩)
                    (by simp [nset]) (Nat.le_refl _) (fun _ => rfl) .nil
                   have e3 : n + k + (grownCap w (n + k) (c + f.extra) e2 - (n + k)) = grownCap w (n + k) (c + f.extra) e2 := by omega
                   rw [e3] at this
                   exact this
             · cases h
         · cases h
       · cases h
   · cases h
 · cases h
end
end Go.Ab
namespace Go.Ab
open Go Go.RowKit
variable [TT]
inductive ARes where
 | ret (v : Value)
 | pan (v : Value)
def ResRel (m : NMap) : ARes → Ending → Prop
 | .ret v, e => ∃ v', e = .returned v' ∧ VRel m v v'
 | .pan v, e => ∃ v', e = .panicked [{ v := v', recovered := false }] ∧ VRel m v v'
def LiftR (P : Program) (B0 : Prot) (m : NMap) (H : AHeap) (w : World) (R : ARes → AHeap → Prop) : Ending → World → Prop := fun e w' =>
 ∃ r H' m', R r H' ∧ Ext m H m' H' ∧ Rel P B0 m' H' w' ∧ Keep B0 w w' ∧ ResRel m' r e
def SCalls (P : Program) (f : FuncId) (args : List Value) (H : AHeap) (R : ARes → AHeap → Prop) : Prop :=
 ∀ (B0 : Prot) (m : NMap) (w : World) (args' : List Value), Rel P B0 m H w → VsRel m args args' → ∀ n, CallsIn Fence.wide n P f ⟨args'⟩ w (LiftR P B0 m H w R)
def SRound (P : Program) (l : Nat) (args : List Value) (H : AHeap) (R : ARes → AHeap → Prop) : Prop :=
 ∀ (B0 : Prot) (m : NMap) (w : World) (args' : List Value) (fl : BInfo), Rel P B0 m H w → m l = some fl → VsRel m args args' → ∃ L : Loop, w.heap[fl.blk]? = some (.loop L) ∧ args'.length = L.params.size ∧
  ∀ n, RoundIn Fence.wide n P fl.blk L.fn ((L.params.zip ⟨args'⟩).foldl (fun tmps (t, a) => tmps.setIfInBounds t a) L.tmps) L.assign L.body w (LiftR P B0 m H w R)
theorem SCalls.mono {P : Program} {f : FuncId} {args : List Value} {H : AHeap} {R R' : ARes → AHeap → Prop} (h : SCalls P f args H R) (hr : ∀ r H', R r H' → R' r H') : SCalls P f args H R' :=
 fun B0 m w args' h1 h2 n => (h B0 m w args' h1 h2 n).mono fun _ _ ⟨r, H', m', a, b⟩ => ⟨r, H', m', hr _ _ a, b⟩
theorem SRound.mono {P : Program} {l : Nat} {args : List Value} {H : AHeap} {R R' : ARes → AHeap → Prop} (h : SRound P l args H R) (hr : ∀ r H', R r H' → R' r H') : SRound P l args H R' :=
 fun B0 m w args' fl h1 h2 h3 => let ⟨L, a, b, c⟩ := h B0 m w args' fl h1 h2 h3; ⟨L, a, b, fun n => (c n).mono fun _ _ ⟨r, H', m', a, b⟩ => ⟨r, H', m', hr _ _ a, b⟩⟩
def Callable (P : Program) (f : FuncId) : Prop := ∀ (args : Array Value) (w : World), (callFunc f args).run P w = .ok (.enter f args) w
def aFollow (P : Program) : List FieldStep → TypeId → Value → Option (TypeId × Value)
 | [], t, v => some (t, v)
 | s :: rest, _, v =>
  if s.deref then none else
  match fOff P s.struct s.index, v with
  | some (off, ft), .agg ⟨cs⟩ => (partV P ft cs off).bind fun u => aFollow P rest ft u
  | _, _ => none
def tPtr (P : Program) (t : TypeId) : Option (Option TypeId) := (P.underlying t).map fun | .pointer e => some e | _ => none
def aRecv (P : Program) (t : TypeId) (v : Value) (ptr : Bool) : Option Value :=
 match tPtr P t, ptr with
 | some (some _), true => some v
 | some none, false => some v
 | _, _ => none
def aMethod (P : Program) (t : TypeId) (v : Value) (name : String) : Option (FuncId × Value) :=
 (P.info? t).bind fun i => (i.methods.find? (·.name == name)).bind fun mth => (aFollow P mth.path.toList t v).bind fun tv =>
  match mth.func with
  | some (f, ptr) => (aRecv P tv.1 tv.2 ptr).map fun r => (f, r)
  | none => none
def ACall (P : Program) (fv : Value) (args : List Value) (H : AHeap) (R : ARes → AHeap → Prop) : Prop :=
 match fv with
 | .func (.func f) ⟨first⟩ ⟨cap⟩ => Callable P f ∧ SCalls P f (first ++ args ++ cap) H R
 | .func (.yield l) ⟨first⟩ _ => SRound P l (first ++ args) H R
 | .func (.via t path f ptr) ⟨first⟩ _ =>
  match first ++ args with
  | x :: rest => ∃ u, ((aFollow P path.toList t x).bind fun tv => aRecv P tv.1 tv.2 ptr) = some u ∧ Callable P f ∧ SCalls P f (u :: rest) H R
  | [] => False
 | _ => False
def AInvoke (P : Program) (recv : Value) (name : String) (args : List Value) (H : AHeap) (R : ARes → AHeap → Prop) : Prop :=
 match recv with
 | .iface t v => ∃ f u, aMethod P t v name = some (f, u) ∧ Callable P f ∧ SCalls P f (u :: args) H R
 | _ => False
section
variable {P : Program} {B0 : Prot} {m : NMap} {H : AHeap} {w w' : World} {a : AAct} {a' : Act}
theorem tPtr_u {t : TypeId} {r : Option TypeId} (h : tPtr P t = some r) : ∃ d, P.underlying t = some d ∧ r = (match d with | .pointer e => some e | _ => none) := by
 have _ := TT.tt
 unfold tPtr at h
 cases hu : P.underlying t with
 | none => rw [hu] at h; cases h
 | some d => rw [hu] at h; simp at h; exact ⟨d, rfl, h.symm⟩
theorem aFollow_sound {path : List FieldStep} {t t2 : TypeId} {v v' u : Value} (hv : VRel m v v') (h : aFollow P path t v = some (t2, u)) :
    ∃ u', (follow path t (.val v')).run P w = .ok (t2, .val u') w ∧ VRel m u u' := by
 induction path generalizing t v v' with
 | nil => cases h; exact ⟨v', rfl, hv⟩
 | cons s rest ih =>
  simp only [aFollow] at h
  split at h
  · cases h
  · rename_i hd
    split at h
    · rename_i off ft cs hf
      obtain ⟨u1, hp, hfol⟩ := option_bind_some h
      obtain ⟨cs', rfl, hcs⟩ := hv.agg_inv
      obtain ⟨fs, fd, sz, hu, hfd, ho, hft, hsz, hz⟩ := fOff_u hf
      subst ho; subst hft
      obtain ⟨u1', h1, h2⟩ := partV_sound (w := w) hcs hp
      obtain ⟨u', h3, h4⟩ := ih h2 hfol
      exact ⟨u', by simp [follow, run_underlying hu, hfd, hd, h1, h3], h4⟩
    · cases h
theorem aRecv_sound {t : TypeId} {v v' u : Value} {ptr : Bool} {wr : Option String} (hv : VRel m v v') (h : aRecv P t v ptr = some u) :
    ∃ u', (receiverAt t (.val v') ptr wr).run P w = .ok u' w ∧ VRel m u u' := by
 unfold aRecv at h
 split at h
 · rename_i e hp
   cases h
   obtain ⟨d, hd, hr⟩ := tPtr_u hp
   cases d <;> simp at hr
   exact ⟨v', by simp [receiverAt, run_underlying hd, Place.get], hv⟩
 · rename_i hp
   cases h
   obtain ⟨d, hd, hr⟩ := tPtr_u hp
   cases d <;> simp at hr <;> exact ⟨v', by simp [receiverAt, run_underlying hd, Place.get], hv⟩
 · cases h
theorem aMethod_sound {t : TypeId} {v v' u : Value} {name : String} {f : FuncId} (k : Nat) (hv : VRel m v v') (h : aMethod P t v name = some (f, u)) :
    ∃ u', (method (k + 1) t v' name).run P w = .ok (f, u') w ∧ VRel m u u' := by
 unfold aMethod at h
 obtain ⟨i, hi, h⟩ := option_bind_some h
 obtain ⟨mth, hm, h⟩ := option_bind_some h
 obtain ⟨tv, htv, h⟩ := option_bind_some h
 split at h
 · rename_i f' ptr hf
   cases hr : aRecv P tv.1 tv.2 ptr with
   | none => rw [hr] at h; cases h
   | some r =>
    rw [hr] at h
    cases h
    obtain ⟨u1, h1, h2⟩ := aFollow_sound (w := w) (t2 := tv.1) (u := tv.2) hv htv
    obtain ⟨u', h3, h4⟩ := aRecv_sound (w := w) (wr := if mth.path.isEmpty then some ((name.splitOn ".").getLastD name) else none) h2 hr
    exact ⟨u', by simp only [method, Sem.run_bind, typeInfo, run_program, Result.andThen_ok, hi, Sem.run_pure, hm, h1, hf, h3], h4⟩
 · cases h
end
def aCopy (P : Program) (H : AHeap) (t st : TypeId) (d x : Value) : Option (Nat × Option (Nat × ABlk)) :=
 if st = t then
  (tSlice P t).bind fun e => (tSize P e).bind fun s => (sliceCells H s x).bind fun kx =>
   match d with
   | .slice none 0 0 => some (0, none)
   | .slice (some ⟨i, o, none⟩) n _ =>
    if kx.1 = 0 ∨ n = 0 then some (0, none)
    else (H i).bind fun b => (storeB b o (kx.2.take (min kx.1 n * s))).map fun b' => (min kx.1 n, some (i, b'))
   | _ => none
 else none
def aClear (P : Program) (H : AHeap) (t : TypeId) (d : Value) : Option (Option (Nat × ABlk)) :=
 match d with
 | .slice none 0 0 => if (tSlice P t).isSome then some none else none
 | .slice (some ⟨i, o, none⟩) n _ =>
  if n = 0 then (if (tSlice P t).isSome then some none else none)
  else (tSlice P t).bind fun e => (tZero P e).bind fun z => (H i).bind fun b => if z.cells.toList.all atomic ∧ 0 < z.cells.size then (storeB b o (zCells z.cells.toList (n * z.cells.size))).map fun b' => some (i, b') else none
 | _ => none
def updO (H : AHeap) : Option (Nat × ABlk) → AHeap
 | none => H
 | some (i, b) => upd H i b
section
variable {P : Program} {B0 : Prot} {m : NMap} {H : AHeap} {w w' : World} {a : AAct} {a' : Act}
theorem aCopy_sound {t st ty : TypeId} {d d' x x' : Value} {k : Nat} {u : Option (Nat × ABlk)} (hr : Rel P B0 m H w) (hd : VRel m d d') (hx : VRel m x x') (h : aCopy P H t st d x = some (k, u)) :
    ∃ w', (Builtin.copy_ #[t, st] ty #[d', x']).run P w = .ok (.int .i64 k) w' ∧ Keep B0 w w' ∧ Rel P B0 m (updO H u) w' := by
 unfold aCopy at h
 split at h
 · rename_i hst
   subst hst
   obtain ⟨e, he, h1⟩ := option_bind_some h
   clear h
   obtain ⟨s, hs, h2⟩ := option_bind_some h1
   clear h1
   obtain ⟨kx, hkx, h⟩ := option_bind_some h2
   clear h2
   obtain ⟨kk, xs⟩ := kx
   simp only at h
   have ht := tSlice_u he
   obtain ⟨ax, cx, xs', rfl, hax, hxs, hxl, hxc⟩ := sliceCells_sound hr hx hkx
   have nothing : ∀ ad n c, (kk = 0 ∨ n = 0) → (Builtin.copy_ #[st, st] ty #[.slice ad n c, .slice ax kk cx]).run P w = .ok (.int .i64 0) w := by
    intro ad n c h0
    have hm : Nat.min kk n = 0 := by rcases h0 with h0 | h0 <;> simp [h0]
    cases ad <;> cases ax <;> simp [Builtin.copy_, run_underlying ht, Builtin.lenOf, hm, Builtin.firstCells, run_sizeOf_t w hs, loadCells, loadCellsFrom, storeCells, goInt]
   split at h
   · have hdn := hd.eq_of_atomic rfl
     subst hdn
     cases h
     exact ⟨w, nothing none 0 0 (.inr rfl), Keep.refl _ _, hr⟩
   · rename_i i o n c
     obtain ⟨f, ad, hm, hn, hfa, rfl⟩ := hd.slice_inv
     split at h
     · rename_i h0
       cases h
       exact ⟨w, nothing _ _ _ h0, Keep.refl _ _, hr⟩
     · rename_i h0
       obtain ⟨b, hb, h3⟩ := option_bind_some h
       cases hsb : storeB b o (xs.take (min kk n * s)) with
       | none => rw [hsb] at h3; cases h3
       | some b' =>
        rw [hsb] at h3
        cases h3
        obtain ⟨row, h4, h5, hB⟩ := storeCells_sound hr hb hm (hxs.take (min kk n * s)) hsb
        have had := hfa (by omega)
        subst had
        obtain ⟨bx, rfl⟩ : ∃ bx, ax = some bx := by
         cases ax with
         | none => exact absurd (hax rfl) (by omega)
         | some bx => exact ⟨bx, rfl⟩
        have hln : (xs'.take (min kk n * s)).length = min kk n * s := by
         rw [List.length_take, hxl]
         have : min kk n * s ≤ kk * s := Nat.mul_le_mul_right _ (by omega)
         omega
        have hload := run_loadCells_list (P := P) w bx (xs'.take (min kk n * s)) (fun j v hj => hxc bx rfl j v (by
         have := (List.getElem?_eq_some_iff.1 hj).1
         rw [List.getElem?_take_of_lt (by simp at this; omega)] at hj
         exact hj))
        rw [hln] at hload
        refine ⟨_, ?_, below_setRow' (Keep.refl B0 w) hB row, h5⟩
        simp only [Builtin.copy_, List.getElem?_toArray, List.getElem?_cons_zero, List.getElem?_cons_succ, Sem.run_bind, run_underlying ht, Result.andThen_ok, Builtin.lenOf, Sem.run_pure, Builtin.firstCells, run_sizeOf_t w hs]
        rw [show Nat.min kk n = min kk n from rfl, hload]
        simp only [Result.andThen_ok, h4, goInt]
   · cases h
 · cases h
theorem aClear_sound {t ty : TypeId} {d d' : Value} {u : Option (Nat × ABlk)} (hr : Rel P B0 m H w) (hd : VRel m d d') (h : aClear P H t d = some u) :
    ∃ w', (Builtin.clear_ #[t] ty #[d']).run P w = .ok (.tuple #[]) w' ∧ Keep B0 w w' ∧ Rel P B0 m (updO H u) w' := by
 unfold aClear at h
 split at h
 · have hdn := hd.eq_of_atomic rfl
   subst hdn
   split at h
   · rename_i hs
     cases h
     obtain ⟨e, he⟩ := Option.isSome_iff_exists.1 hs
     exact ⟨w, by simp [Builtin.clear_, run_underlying (tSlice_u he)], Keep.refl _ _, hr⟩
   · cases h
 · rename_i i o n c
   obtain ⟨f, ad, hm, hn, hfa, rfl⟩ := hd.slice_inv
   split at h
   · rename_i h0
     subst h0
     split at h
     · rename_i hs
       cases h
       obtain ⟨e, he⟩ := Option.isSome_iff_exists.1 hs
       exact ⟨w, by simp [Builtin.clear_, run_underlying (tSlice_u he)], Keep.refl _ _, hr⟩
     · cases h
   · rename_i h0
     obtain ⟨e, he, h1⟩ := option_bind_some h
     clear h
     obtain ⟨z, hz, h2⟩ := option_bind_some h1
     clear h1
     obtain ⟨b, hb, h⟩ := option_bind_some h2
     clear h2
     split at h
     · rename_i hzz
       obtain ⟨hz1, hz2⟩ := hzz
       cases hsb : storeB b o (zCells z.cells.toList (n * z.cells.size)) with
       | none => rw [hsb] at h; cases h
       | some b' =>
        rw [hsb] at h
        cases h
        obtain ⟨row, h4, h5, hB⟩ := storeCells_sound hr hb hm (zCells_rel (m := m) (n := n * z.cells.size) fun v hv => List.all_eq_true.1 hz1 v hv) hsb
        have had := hfa (by omega)
        subst had
        refine ⟨_, ?_, below_setRow' (Keep.refl B0 w) hB row, h5⟩
        obtain ⟨n', rfl⟩ : ∃ n', n = n' + 1 := ⟨n - 1, by omega⟩
        have hzc : (Builtin.zeroCells z.cells (n' + 1)).toList = zCells z.cells.toList ((n' + 1) * z.cells.size) := by
         unfold Builtin.zeroCells
         exact zCells_eq (.inr hz2)
        simp only [Builtin.clear_, List.getElem?_toArray, List.getElem?_cons_zero, Sem.run_bind, run_underlying (tSlice_u he), Result.andThen_ok, run_zeroValue_t w hz, hzc, h4, Sem.run_pure]
     · cases h
 · cases h
end
end Go.Ab
namespace Go.Ab
open Go Go.RowKit Go.ChangeMaps
def leftI (n : Nat) (seen : List Nat) : List Nat := (List.range n).filter fun j => !(seen.contains j)
def aRange (P : Program) (H : AHeap) (t : TypeId) (u : Value) : Option ABlk :=
 (tMap P t).bind fun _ => match u with
  | .map (some i) => match H i with
   | some (.map es) => some (.iter i es.length [] es.length)
   | _ => none
  | _ => none
def ANext (H : AHeap) (u : Value) (K : Value → AHeap → Prop) : Prop :=
 match u with
 | .pointer (some ⟨r, 0, none⟩) => match H r with
  | some (.iter i s seen c) => match H i with
   | some (.map es) => (es.length ≤ s ∧ s ≤ c) ∧ (leftI es.length seen = [] → K (.tuple #[.bool false]) H) ∧
       ∀ j ∈ leftI es.length seen, ∀ e, es[j]? = some e → K (.tuple #[.bool true, e.1, e.2]) (upd H r (.iter i s (seen ++ [j]) es.length))
   | _ => False
  | _ => False
 | _ => False
def aStep (H : AHeap) (u : Value) : Option Value :=
 match u with
 | .pointer (some ⟨r, 0, none⟩) => match H r with
  | some (.iter i _ seen c) => match H i with
   | some (.map es) => if es.length = c then seen.getLast?.bind fun j => es[j]?.map fun e => .tuple #[e.1, e.2] else none
   | _ => none
  | _ => none
 | _ => none
theorem ANext.mono {H : AHeap} {u : Value} {K K' : Value → AHeap → Prop} (hk : ∀ v H', K v H' → K' v H') (h : ANext H u K) : ANext H u K' := by
 unfold ANext at h ⊢
 split at h
 · split at h
   · split at h
     · exact ⟨h.1, fun e => hk _ _ (h.2.1 e), fun j hj e he => hk _ _ (h.2.2 j hj e he)⟩
     · exact h.elim
   · exact h.elim
 · exact h.elim
section
variable [TT] {P : Program} {B0 : Prot} {m : NMap} {H : AHeap} {w : World}
theorem esRel_get2 {es : List (Value × Value)} {es' : List MapEntry} (h : EsRel m es es') : es'.length = es.length ∧ ∀ (i : Nat) e', es'[i]? = some e' → ∃ e, es[i]? = some e ∧ VRel m e.1 e'.key ∧ VRel m e.2 e'.val := by
 have _ := TT.tt
 induction h with
 | nil => exact ⟨rfl, fun i e' hi => by simp at hi⟩
 | cons h1 h2 _ ih =>
  refine ⟨by simp [ih.1], fun i e' hi => ?_⟩
  cases i with
  | zero => simp at hi; subst hi; exact ⟨_, rfl, h1, h2⟩
  | succ i => simpa using ih.2 i e' (by simpa using hi)
theorem aRange_sound {t : TypeId} {u u' : Value} {b : ABlk} (hr : Rel P B0 m H w) (hu : VRel m u u') (h : aRange P H t u = some b) {j : Nat} (hm : m j = none) (hH : H j = none) :
    ∃ v' ob f, (Instr.range t u').run P w = .ok v' (w.alloc ob) ∧ Rel P B0 (nset m j f) (upd H j b) (w.alloc ob) ∧ VRel (nset m j f) (.pointer (some ⟨j, 0, none⟩)) v' := by
 unfold aRange at h
 obtain ⟨ke, ht, h2⟩ := option_bind_some h
 clear h
 have htu := tMap_u (k := ke.1) (e := ke.2) ht
 split at h2
 · rename_i i
   split at h2
   · rename_i es hi
     cases h2
     obtain ⟨f, hf, rfl⟩ := hu.map_inv
     obtain ⟨_, es', clock, hh, hes, hcl, _⟩ := hr.blocks i _ f hi hf
     have hlen := (esRel_get2 hes).1
     have hc : clock = es.length := by rw [hcl, ← hlen]; simp
     subst hc
     have hni : (nset m j ⟨w.heap.size, 0, 0⟩) j = some ⟨w.heap.size, 0, 0⟩ := by simp [nset]
     have hij : i ≠ j := fun e => by rw [e, hm] at hf; cases hf
     refine ⟨_, .mapIter (some f.blk) es.length #[] es.length, ⟨w.heap.size, 0, 0⟩, run_range_map w t ke.1 ke.2 f.blk es' es.length htu hh, ?_, ?_⟩
     · have hfin := hr.alloc hm hH (.mapIter (some f.blk) es.length #[] es.length) (.iter i es.length [] es.length) ⟨w.heap.size, 0, 0⟩ rfl ⟨hr.newb, rfl, f, hf, Go.heap_alloc_new w _⟩
       exact hfin
     · have := VsRel.ptr (m := nset m j ⟨w.heap.size, 0, 0⟩) (o := 0) hni .nil
       exact this
   · cases h2
 · cases h2
theorem aNext_sound {u u' : Value} {K : Value → AHeap → Prop} (hr : Rel P B0 m H w) (hu : VRel m u u') (h : ANext H u K) (ty : TypeId) :
    ∃ v v' H' w', (Instr.next u' false ty).run P w = .ok v' w' ∧ K v H' ∧ VRel m v v' ∧ Keep B0 w w' ∧ Rel P B0 m H' w' ∧ Ext m H m H' := by
 unfold ANext at h
 split at h
 · rename_i r
   split at h
   · rename_i i s seen c hH
     split at h
     · rename_i es hi
       obtain ⟨⟨h1, h2⟩, h3, h4⟩ := h
       obtain ⟨f, hf, rfl⟩ := hu.ptr_inv
       obtain ⟨hB, ho, g, hg, hh⟩ := hr.blocks r _ f hH hf
       obtain ⟨_, es', clock, hb, hes, hcl, hborn⟩ := hr.blocks i _ g hi hg
       obtain ⟨hlen, hget⟩ := esRel_get2 hes
       have hc : clock = es.length := by rw [hcl, ← hlen]; simp
       subst hc
       have hold : ∀ x ∈ es'.toList, x.born < s := fun x hx => by
        obtain ⟨k, hk⟩ := List.getElem?_of_mem hx
        have hk2 : es'[k]? = some x := by simpa using hk
        rw [hborn k x hk2]
        have := (Array.getElem?_eq_some_iff.1 hk2).1
        omega
       have hmem : ∀ x, x ∈ (leftOf es' ⟨seen⟩).toList ↔ x ∈ es' ∧ seen.contains x.born = false := fun x => by
        simp [leftOf]
       have hoff : f.off + 0 = 0 := by omega
       rw [hoff]
       rcases run_next_at (P := P) w ty f.blk g.blk s c ⟨seen⟩ es' es.length hh hb hold h2 with ⟨hz, hrun⟩ | ⟨x, hx, w1, hw1, hrun⟩
       · refine ⟨_, _, H, w, hrun, h3 ?_, .tuple (.atom rfl .nil) .nil, Keep.refl _ _, hr, Ext.refl _ _⟩
         unfold leftI
         rw [List.filter_eq_nil_iff]
         intro k hk hs
         have hk := List.mem_range.1 hk
         have hk2 : k < es'.size := by rw [← hcl]; exact hk
         have : es'[k] ∈ (leftOf es' ⟨seen⟩).toList := (hmem _).2 ⟨Array.getElem_mem hk2, by rw [hborn k es'[k] (by simp [hk2])]; simpa using hs⟩
         have hz0 : leftOf es' ⟨seen⟩ = #[] := Array.eq_empty_of_size_eq_zero hz
         rw [hz0] at this
         cases this
       · obtain ⟨hx1, hx2⟩ := (hmem x).1 hx
         obtain ⟨k, hk⟩ := List.getElem?_of_mem (Array.mem_toList_iff.2 hx1)
         have hk2 : es'[k]? = some x := by simpa using hk
         have hbk := hborn k x hk2
         have hkl : k < es.length := by rw [hcl]; exact (Array.getElem?_eq_some_iff.1 hk2).1
         obtain ⟨e, he, hke, hve⟩ := hget k x hk
         have hin : k ∈ leftI es.length seen := by
          unfold leftI
          rw [List.mem_filter]
          refine ⟨List.mem_range.2 hkl, ?_⟩
          rw [hbk] at hx2
          have hx3 : seen.contains k = false := hx2
          simp only [hx3, Bool.not_false]
         have hr1 : Rel P B0 m H w1 := by
          rcases hw1 with rfl | rfl
          · exact hr
          · exact hr.of_heap rfl
         have hh1 : w1.heap[f.blk]? = some (.mapIter (some g.blk) s ⟨seen⟩ c) := by rcases hw1 with rfl | rfl <;> exact hh
         have hB1 : Keep B0 w w1 := by
          rcases hw1 with rfl | rfl
          · exact Keep.refl _ _
          · exact ⟨rfl, rfl, rfl, Nat.le_refl _, fun _ _ => rfl⟩
         refine ⟨_, _, _, _, hrun, h4 k hin e he, .tuple (.atom rfl (.cons hke (.cons hve .nil))) .nil, ?_, ?_, Ext.upd _ _ _ _⟩
         · refine hB1.trans ⟨rfl, rfl, rfl, by simp [setBlock], fun j hj => ?_⟩
           have hne : f.blk ≠ j := fun e => hB (e ▸ hj)
           simp [setBlock, hne]
         · refine hr1.put hH hf rfl (by simp [setBlock]) (fun j hj _ => by simp [setBlock, Ne.symm hj]) ⟨hB, ho, g, hg, ?_⟩
           have := (Array.getElem?_eq_some_iff.1 hh1).1
           simp [setBlock, this, hbk]
     · exact h.elim
   · exact h.elim
 · exact h.elim
theorem aStep_sound {u u' v : Value} (hr : Rel P B0 m H w) (hu : VRel m u u') (h : aStep H u = some v) : ∃ v', (Instr.entry u').run P w = .ok v' w ∧ VRel m v v' := by
 unfold aStep at h
 split at h
 · rename_i r
   split at h
   · rename_i i s seen c hH
     split at h
     · rename_i es hi
       split at h
       · rename_i hlc
         obtain ⟨k, hk, h⟩ := option_bind_some h
         cases he : es[k]? with
         | none => rw [he] at h; cases h
         | some e =>
          rw [he] at h
          cases h
          obtain ⟨f, hf, rfl⟩ := hu.ptr_inv
          obtain ⟨hB, ho, g, hg, hh⟩ := hr.blocks r _ f hH hf
          obtain ⟨_, es', clock, hb, hes, hcl, hborn⟩ := hr.blocks i _ g hi hg
          obtain ⟨hlen, hget⟩ := esRel_get2 hes
          have hc : clock = es.length := by rw [hcl, ← hlen]; simp
          subst hc
          subst hlc
          have hkl : k < es.length := (List.getElem?_eq_some_iff.1 he).1
          have hk2 : k < es'.size := by rw [← hcl]; exact hkl
          have hx : es'[k]? = some es'[k] := by simp [hk2]
          obtain ⟨e2, he2, hke, hve⟩ := hget k es'[k] (by simp [hk2])
          rw [he] at he2
          cases he2
          have hseen : seen = seen.dropLast ++ [k] := by
           have hne : seen ≠ [] := by rintro rfl; cases hk
           rw [List.getLast?_eq_some_getLast hne] at hk
           rw [← Option.some.inj hk]
           exact (List.dropLast_concat_getLast hne).symm
          have hoff : f.off + 0 = 0 := by omega
          rw [hoff]
          have hb2 := hborn k _ hx
          refine ⟨_, run_entry_at (P := P) w f.blk g.blk s ⟨seen.dropLast⟩ es' es.length es'[k] ?_ hb (by simp) ?_, .tuple (.cons hke (.cons hve .nil)) .nil⟩
          · rw [hh, hb2, hseen]
            simp
          · refine List.pairwise_iff_getElem.2 fun a b ha hb hab heq => ?_
            have ha : a < es'.size := by simpa using ha
            have hb : b < es'.size := by simpa using hb
            have e1 := hborn a es'[a] (by simp [ha])
            have e2 := hborn b es'[b] (by simp [hb])
            simp only [List.getElem_map, Array.getElem_toList] at heq
            omega
       · cases h
     · cases h
   · cases h
 · cases h
end
end Go.Ab
namespace Go.Ab
open Go Go.RowKit
variable [TT]
inductive AExit where
 | normal
 | exit (id : Nat)
 | goto (l : Nat)
 | ret
 | panic (v : Value)
def ExRel (m : NMap) : AExit → Exit → Prop
 | .normal, e => e = .normal
 | .exit id, e => e = .exit id
 | .goto l, e => e = .goto l
 | .ret, e => e = .ret
 | .panic v, e => ∃ v', e = .panic [{ v := v', recovered := false }] ∧ VRel m v v'
def LiftQ (P : Program) (B0 : Prot) (m : NMap) (H : AHeap) (w : World) (Q : AExit → AAct → AHeap → Prop) : Exit → Act → World → Prop := fun e a' w' =>
 ∃ x a H' m', Q x a H' ∧ Ext m H m' H' ∧ Rel P B0 m' H' w' ∧ ARel m' a a' ∧ Keep B0 w w' ∧ ExRel m' x e
def FRel (m : NMap) : Option Nat → Fence → Prop
 | none, F => F = Fence.wide
 | some l, F => ∃ f, m l = some f ∧ F = Fence.wide.inRound f.blk
theorem FRel.mono {m m' : NMap} (h : m.le m') {ro : Option Nat} {F : Fence} (hf : FRel m ro F) : FRel m' ro F := by
 have _ := TT.tt
 cases ro with
 | none => exact hf
 | some l => obtain ⟨f, h1, h2⟩ := hf; exact ⟨f, h _ _ h1, h2⟩
def bindO {α : Type} (o : Option α) (k : α → Prop) : Prop := ∃ x, o = some x ∧ k x
@[simp] theorem bindO_some {α : Type} (x : α) (k : α → Prop) : bindO (some x) k = k x := by have _ := TT.tt; simp [bindO]
@[simp] theorem bindO_none {α : Type} (k : α → Prop) : bindO none k = False := by have _ := TT.tt; simp [bindO]
def onRes (K : Value → AHeap → Prop) (X : Value → AHeap → Prop) : ARes → AHeap → Prop
 | .ret v, H => K v H
 | .pan v, H => X v H
def AEff (P : Program) (ro : Option Nat) (a : AAct) (H : AHeap) (dst : Option Tmp) (K : AAct → AHeap → Prop) (X : Value → AHeap → Prop) : Op → Prop
 | .store t x y => bindO (a.eval P x) fun u => bindO (a.eval P y) fun v =>
     match u with
     | .pointer (some ⟨i, o, none⟩) => tSize P t = some v.cells.size ∧ bindO ((H i).bind fun b => storeB b o v.cells.toList) fun b => K (a.put dst undef) (upd H i b)
     | _ => False
 | .call c =>
  match c.callee with
  | .value f => bindO (a.eval P f) fun fv => bindO (evs (a.eval P) c.args.toList) fun vs => ACall P fv vs H (onRes (fun v H' => K (a.put dst v) H') X)
  | .invoke r name => bindO (a.eval P r) fun rv => bindO (evs (a.eval P) c.args.toList) fun vs => AInvoke P rv name vs H (onRes (fun v H' => K (a.put dst v) H') X)
  | .builtin .append =>
   match c.args.toList, c.argTypes.toList with
   | [x, y], [t, t'] => t' = t ∧ bindO (a.eval P x) fun u => bindO (a.eval P y) fun v => bindO (aAppend P H t u v) fun r =>
       match r with
       | .same v => K (a.put dst v) H
       | .inpl v i b => K (a.put dst v) (upd H i b)
       | .grow H' n b => pick H' fun j => K (a.put dst (.slice (some ⟨j, 0, none⟩) n n)) (upd H' j b)
   | _, _ => False
  | .builtin .copy =>
   match c.args.toList, c.argTypes.toList with
   | [x, y], [t, t'] => bindO (a.eval P x) fun u => bindO (a.eval P y) fun v => bindO (aCopy P H t t' u v) fun r => K (a.put dst (.int .i64 r.1)) (updO H r.2)
   | _, _ => False
  | .builtin .clear =>
   match c.args.toList, c.argTypes.toList with
   | [x], [t] => bindO (a.eval P x) fun u => bindO (aClear P H t u) fun r => K (a.put dst (.tuple #[])) (updO H r)
   | _, _ => False
  | .builtin .panic =>
   match c.args.toList with
   | [x] => bindO (a.eval P x) fun u => match u with | .iface t v => X (.iface t v) H | _ => False
   | _ => False
  | _ => False
 | .panic x => bindO (a.eval P x) fun u => match u with | .iface t v => X (.iface t v) H | _ => False
 | .mapUpdate t x k y | .insert t x k y => bindO (a.eval P x) fun u => bindO (a.eval P k) fun kv => bindO (a.eval P y) fun v => bindO (mapSet P H t u kv v) fun r => K (a.put dst undef) (upd H r.1 r.2)
 | .range t x => bindO (a.eval P x) fun u => bindO (aRange P H t u) fun b => pick H fun j => K (a.put dst (.pointer (some ⟨j, 0, none⟩))) (upd H j b)
 | .next x false => bindO (a.eval P x) fun u => ANext H u fun v H' => K (a.put dst v) H'
 | .entry x => bindO (a.eval P x) fun u => bindO (aStep H u) fun v => K (a.put dst v) H
 | .defer c =>
  ro = none ∧
  match c.callee with
  | .value f => bindO (a.eval P f) fun fv => bindO (evs (a.eval P) c.args.toList) fun vs =>
      match fv with
      | .func fn ⟨first⟩ cap => K ({ a with defers := ⟨.fn fn cap, ⟨first ++ vs⟩⟩ :: a.defers }.put dst undef) H
      | _ => False
  | _ => False
 | _ => False
def AOp (P : Program) (ro : Option Nat) (a : AAct) (H : AHeap) (dst : Option Tmp) (op : Op) (K : AAct → AHeap → Prop) (X : Value → AHeap → Prop) : Prop :=
 match aPure P (a.eval P) H op with
 | some v => K (a.put dst v) H
 | none =>
  match aAlloc P (a.eval P) op with
  | some (b, mk) => pick H fun i => K (a.put dst (mk i)) (upd H i b)
  | none => AEff P ro a H dst K X op
section
variable {P : Program} {B0 : Prot} {m : NMap} {H : AHeap} {w w' : World} {a : AAct} {a' : Act}
theorem LiftQ.trans {m1 : NMap} {H1 : AHeap} {w1 w2 : World} {Q : AExit → AAct → AHeap → Prop} {e : Exit} {a' : Act} (hm : Ext m H m1 H1) (hb : Keep B0 w w1) (h : LiftQ P B0 m1 H1 w1 Q e a' w2) : LiftQ P B0 m H w Q e a' w2 := by
 obtain ⟨x, a, H', m', hq, hmm, hr, ha, hB, hx⟩ := h
 exact ⟨x, a, H', m', hq, hm.trans hmm, hr, ha, hb.trans hB, hx⟩
def LiftK (P : Program) (B0 : Prot) (m : NMap) (H : AHeap) (w : World) (K : AAct → AHeap → Prop) : Act → World → Prop := fun a' w' =>
 ∃ a H' m', K a H' ∧ Ext m H m' H' ∧ Rel P B0 m' H' w' ∧ ARel m' a a' ∧ Keep B0 w w'
theorem semAt_exec {ro : Option Nat} {o : Oper} {ρ : Operand → Value} (h : ∀ c, o.op ≠ .defer c) : Oper.semAt ro ρ o = execOp ρ o := have _ := TT.tt; Oper.semAt_eq ro ρ o h
theorem FRel.calls {ro : Option Nat} {F : Fence} (hf : FRel m ro F) {n : Nat} {f : FuncId} {args : Array Value} {R : Ending → World → Prop} (h : CallsIn Fence.wide n P f args w R) : CallsIn F n P f args w R := by
 have _ := TT.tt
 cases ro with
 | none => cases hf; exact h
 | some l => obtain ⟨f, _, rfl⟩ := hf; exact h
theorem FRel.round {ro : Option Nat} {F : Fence} (hf : FRel m ro F) {n l : Nat} {f : FuncId} {tmps : Array Value} {c d : Code} {R : Ending → World → Prop} (h : RoundIn Fence.wide n P l f tmps c d w R) : RoundIn F n P l f tmps c d w R := by
 have _ := TT.tt
 cases ro with
 | none => cases hf; exact h
 | some l => obtain ⟨f, _, rfl⟩ := hf; exact h
theorem FRel.fn {ro : Option Nat} {F : Fence} (hf : FRel m ro F) (g : FuncId) : F.fn g := by
 have _ := TT.tt
 cases ro with
 | none => cases hf; trivial
 | some l => obtain ⟨f, _, rfl⟩ := hf; trivial
theorem FRel.depth {ro : Option Nat} {F : Fence} (hf : FRel m ro F) : F.depth = none := by
 have _ := TT.tt
 cases ro with
 | none => cases hf; rfl
 | some l => obtain ⟨f, _, rfl⟩ := hf; rfl
theorem call_upon (ha : ARel m a a') {o : Oper} {K : AAct → AHeap → Prop} {X : Value → AHeap → Prop} {Q : Exit → Act → World → Prop} {next : Act → World → Prop}
    (hnext : ∀ a1 w1, LiftK P B0 m H w K a1 w1 → next a1 w1) (hX : ∀ v v' H' m' w1, X v H' → Ext m H m' H' → Rel P B0 m' H' w1 → Keep B0 w w1 → VRel m' v v' → Q (.panic [{ v := v', recovered := false }]) a' w1)
    {e : Ending} {w1 : World} (h : LiftR P B0 m H w (onRes (fun v H' => K (a.put o.dst v) H') X) e w1) :
    (∃ v, e = .returned v ∧ next (a'.put o.dst v) w1) ∨ ∃ chain, e = .panicked chain ∧ Q (.panic chain) a' w1 := by
 obtain ⟨r, H', m', hq, hm, hr, hB, hx⟩ := h
 cases r with
 | ret v =>
  obtain ⟨v', rfl, hv⟩ := hx
  exact .inl ⟨v', rfl, hnext _ _ ⟨_, H', m', hq, hm, hr, put_sound (ha.mono hm.le) hv, hB⟩⟩
 | pan v =>
  obtain ⟨v', rfl, hv⟩ := hx
  exact .inr ⟨_, rfl, hX v v' H' m' w1 hq hm hr hB hv⟩
theorem grow_none {t : TypeId} {d x : Value} {H' : AHeap} {n : Nat} {b : ABlk} (h : aAppend P H t d x = some (.grow H' n b)) {j : Nat} : H' j = none ↔ H j = none := by
 have _ := TT.tt
 unfold aAppend at h
 obtain ⟨e, he, h1⟩ := option_bind_some h
 clear h
 obtain ⟨s, hs, h2⟩ := option_bind_some h1
 clear h1
 obtain ⟨by_, hby, h3⟩ := option_bind_some h2
 clear h2
 obtain ⟨z, hz, h4⟩ := option_bind_some h3
 clear h3
 obtain ⟨kx, hkx, h⟩ := option_bind_some h4
 clear h4
 split at h
 · split at h
   · split at h
     · cases h
     · split at h
       · cases h; exact Iff.rfl
       · cases h
   · split at h
     · cases h
     · split at h
       · split at h
         · split at h
           · rename_i i n' c _ _ _ _ _ _
             cases hsb : storeB (.cells _ e .row) (_ * s) kx.2 with
             | none => rw [hsb] at h; cases h
             | some b' => rw [hsb] at h; cases h
           · split at h
             · cases h
               simp only [del]
               split
               · rename_i hHi _ _ _ e; subst e; simp [hHi]
               · exact Iff.rfl
             · cases h
         · cases h
       · cases h
   · cases h
 · cases h
theorem Ext.del {m : NMap} (H : AHeap) (i : Nat) : Ext m H m (Ab.del H i) := ⟨m.le_refl, fun _ j hj => ⟨rfl, by simp only [Ab.del]; split <;> simp_all⟩⟩
theorem Ext.updO (m : NMap) (H : AHeap) (o : Option (Nat × ABlk)) : Ext m H m (Ab.updO H o) := by
 cases o with
 | none => exact Ext.refl _ _
 | some x => exact Ext.upd _ _ _ _
theorem grow_ext {t : TypeId} {d x : Value} {H' : AHeap} {n : Nat} {b : ABlk} (h : aAppend P H t d x = some (.grow H' n b)) : Ext m H m H' :=
 ⟨m.le_refl, fun _ _ hi => ⟨rfl, fun e => hi ((grow_none h).1 e)⟩⟩
theorem resolve_value {f : Operand} {c : Call} {ty : TypeId} {fn : Fn} {u cp : Array Value} (hc : c.callee = .value f) (hv : a'.eval f = .func fn u cp) :
    (resolve a'.eval c ty).run P w = .ok { target := .fn fn cp, args := u ++ c.args.map a'.eval } w := by
 have _ := TT.tt
 simp [resolve, hc, Deferred.ofValue, hv]
theorem AOp_sound {ro : Option Nat} {F : Fence} (hf : FRel m ro F) (hr : Rel P B0 m H w) (ha : ARel m a a') {n : Nat} {o : Oper} {K : AAct → AHeap → Prop} {X : Value → AHeap → Prop} {Q : Exit → Act → World → Prop} {next : Act → World → Prop}
    (hnext : ∀ a1 w1, LiftK P B0 m H w K a1 w1 → next a1 w1) (hX : ∀ v v' H' m' w1, X v H' → Ext m H m' H' → Rel P B0 m' H' w1 → Keep B0 w w1 → VRel m' v v' → Q (.panic [{ v := v', recovered := false }]) a' w1)
    (h : AOp P ro a H o.dst o.op K X) : o.wpIn F n P a' w next Q := by
 refine ⟨fun f _ => hf.fn f, ?_⟩
 have ndepth : F.depth.isSome = true → 1 ≤ n := fun h => by rw [hf.depth] at h; cases h
 unfold AOp at h
 split at h
 · -- it computes
   rename_i v hv
   obtain ⟨v', h1, h2⟩ := aPure_sound hr ha hv
   rw [semAt_exec (by rintro c hc; rw [hc] at hv; simp [aPure] at hv), h1]
   exact hnext _ _ ⟨_, H, m, h, Ext.refl _ _, hr, put_sound ha h2, Keep.refl _ _⟩
 · rename_i hpn
   clear hpn
   split at h
   · -- it makes a block
     rename_i b mk hal
     obtain ⟨i, hmi, hHi, hK⟩ := hr.pick h
     obtain ⟨v', ob, f, h1, h2, h3⟩ := aAlloc_sound hr ha hal hmi hHi
     rw [semAt_exec (by rintro c hc; rw [hc] at hal; simp [aAlloc] at hal), h1]
     exact hnext _ _ ⟨_, _, _, hK, Ext.new hmi hHi, h2, put_sound (ha.mono (nset_le hmi)) h3, (Keep.refl B0 w).alloc hr.base _⟩
   · rename_i han
     clear han
     obtain ⟨dst, op, ty, pos, aft, gd⟩ := o
     simp only at h
     have next1 : ∀ (v v' : Value) (H' : AHeap) (w1 : World), K (a.put dst v) H' → VRel m v v' → Ext m H m H' → Rel P B0 m H' w1 → Keep B0 w w1 → next (a'.put dst v') w1 :=
      fun v v' H' w1 hk hv he hrr hB => hnext _ _ ⟨_, H', m, hk, he, hrr, put_sound ha hv, hB⟩
     cases op with
     | store t x y =>
      obtain ⟨u, hu, h⟩ := h
      obtain ⟨v, hv, h⟩ := h
      split at h
      · rename_i i o
        obtain ⟨hsz, b, hb, hk⟩ := h
        obtain ⟨b0, hb0, hsb⟩ := option_bind_some hb
        obtain ⟨f, hm, hx'⟩ := (eval_sound hr ha hu).ptr_inv
        have hv' := eval_sound hr ha hv
        obtain ⟨row, h1, h2, hB⟩ := storeCells_sound hr hb0 hm hv'.cells hsb
        have hcl := hv'.cells.length
        simp only [Array.length_toList] at hcl
        have hst : (storeVar t ⟨f.blk, f.off + o, none⟩ (a'.eval y)).run P w = .ok () (w.setRow f.blk row) := by
         simp only [storeVar, Sem.run_bind, run_sizeOf_t w hsz, Result.andThen_ok, hcl]
         simp [h1]
        have hrun : (execOp a'.eval ⟨dst, .store t x y, ty, pos, aft, gd⟩).run P w = .ok .skip (w.setRow f.blk row) := by
         simp only [execOp, Instr.storeAt, Instr.sureAddr, hx', Sem.run_bind, Sem.run_pure, Result.andThen_ok, hst]
        rw [semAt_exec (by rintro c hc; cases hc), hrun]
        exact next1 _ _ _ _ hk (.tuple .nil .nil) (Ext.upd _ _ _ _) h2 (below_setRow' (Keep.refl B0 w) hB row)
      · exact h.elim
     | mapUpdate t x k y =>
      obtain ⟨u, hu, kv, hkv, v, hv, r, hms, hk⟩ := h
      obtain ⟨w1, h1, hB, h2⟩ := mapSet_sound hr (eval_sound hr ha hu) (eval_sound hr ha hkv) (eval_sound hr ha hv) (i := r.1) (b := r.2) hms
      have hrun : (execOp a'.eval ⟨dst, .mapUpdate t x k y, ty, pos, aft, gd⟩).run P w = .ok .skip w1 := by simp only [execOp, Sem.run_bind, h1, Result.andThen_ok, Sem.run_pure]
      rw [semAt_exec (by rintro c hc; cases hc), hrun]
      exact next1 _ _ _ _ hk (.tuple .nil .nil) (Ext.upd _ _ _ _) h2 hB
     | insert t x k y =>
      obtain ⟨u, hu, kv, hkv, v, hv, r, hms, hk⟩ := h
      obtain ⟨w1, h1, hB, h2⟩ := mapSet_sound hr (eval_sound hr ha hu) (eval_sound hr ha hkv) (eval_sound hr ha hv) (i := r.1) (b := r.2) hms
      have hrun : (execOp a'.eval ⟨dst, .insert t x k y, ty, pos, aft, gd⟩).run P w = .ok .skip w1 := by simp only [execOp, Sem.run_bind, h1, Result.andThen_ok, Sem.run_pure]
      rw [semAt_exec (by rintro c hc; cases hc), hrun]
      exact next1 _ _ _ _ hk (.tuple .nil .nil) (Ext.upd _ _ _ _) h2 hB
     | range t x =>
      obtain ⟨u, hu, b, hb, hp⟩ := h
      obtain ⟨i, hmi, hHi, hK⟩ := hr.pick hp
      obtain ⟨v', ob, f, h1, h2, h3⟩ := aRange_sound hr (eval_sound hr ha hu) hb hmi hHi
      have hrun : (execOp a'.eval ⟨dst, .range t x, ty, pos, aft, gd⟩).run P w = .ok (.value v') (w.alloc ob) := by simp only [execOp, Sem.run_bind, h1, Result.andThen_ok, Sem.run_pure]
      rw [semAt_exec (by rintro c hc; cases hc), hrun]
      exact hnext _ _ ⟨_, _, _, hK, Ext.new hmi hHi, h2, put_sound (ha.mono (nset_le hmi)) h3, (Keep.refl B0 w).alloc hr.base _⟩
     | next x st =>
      cases st with
      | true => exact h.elim
      | false =>
       obtain ⟨u, hu, h⟩ := h
       obtain ⟨v, v', H', w1, h1, h2, h3, h4, h5, h6⟩ := aNext_sound hr (eval_sound hr ha hu) h ty
       have hrun : (execOp a'.eval ⟨dst, .next x false, ty, pos, aft, gd⟩).run P w = .ok (.value v') w1 := by simp only [execOp, Sem.run_bind, h1, Result.andThen_ok, Sem.run_pure]
       rw [semAt_exec (by rintro c hc; cases hc), hrun]
       exact next1 _ _ _ _ h2 h3 h6 h5 h4
     | entry x =>
      obtain ⟨u, hu, v, hv, hk⟩ := h
      obtain ⟨v', h1, h2⟩ := aStep_sound hr (eval_sound hr ha hu) hv
      have hrun : (execOp a'.eval ⟨dst, .entry x, ty, pos, aft, gd⟩).run P w = .ok (.value v') w := by simp only [execOp, Sem.run_bind, h1, Result.andThen_ok, Sem.run_pure]
      rw [semAt_exec (by rintro c hc; cases hc), hrun]
      exact next1 _ _ _ _ hk h2 (Ext.refl _ _) hr (Keep.refl _ _)
     | panic x =>
      obtain ⟨u, hu, h⟩ := h
      split at h
      · rename_i t v
        obtain ⟨u', hx', hv⟩ := (eval_sound hr ha hu).iface_inv
        have hrun : (execOp a'.eval ⟨dst, .panic x, ty, pos, aft, gd⟩).run P w = .halt (.panic (.iface t u')) w := by
         simp [execOp, hx', Instr.panic]
        rw [semAt_exec (by rintro c hc; cases hc), hrun]
        exact hX _ _ H m w h (Ext.refl _ _) hr (Keep.refl _ _) (.iface hv .nil)
      · exact h.elim
     | defer c =>
      obtain ⟨hro, h⟩ := h
      subst hro
      cases hf
      obtain ⟨callee, args, argTypes⟩ := c
      cases callee with
      | value f =>
       obtain ⟨fv, hfv, h⟩ := h
       obtain ⟨vs, hvs, h⟩ := h
       split at h
       · rename_i fn first cap
         obtain ⟨fn', u', c', e, hfn, hu, hc⟩ := VRel.func_inv (u := first) (c := cap.toList) (eval_sound hr ha hfv)
         have hres := resolve_value (P := P) (w := w) (a' := a') (c := ⟨.value f, args, argTypes⟩) (ty := ty) rfl e
         have hrun : (execOp a'.eval ⟨dst, .defer ⟨.value f, args, argTypes⟩, ty, pos, aft, gd⟩).run P w = .ok (.defer { target := .fn fn' ⟨c'⟩, args := ⟨u'⟩ ++ args.map a'.eval }) w := by
          simp only [execOp, Sem.run_bind, hres, Result.andThen_ok, Sem.run_pure]
         show Oper.uponIn _ _ _ _ _ _ _ ((Oper.semAt none _ _).run P w)
         rw [Oper.semAt_none, hrun]
         have hvs' := evs_sound hr ha hvs
         have e1 : ((⟨u'⟩ : Array Value) ++ args.map a'.eval) = ⟨u' ++ args.toList.map a'.eval⟩ := by apply Array.ext'; simp
         rw [e1]
         have key : ARel m { a with defers := ⟨.fn fn cap, ⟨first ++ vs⟩⟩ :: a.defers } { a' with defers := { target := .fn fn' ⟨c'⟩, args := ⟨u' ++ args.toList.map a'.eval⟩ } :: a'.defers } := ⟨ha.1, .fn hfn hc (hu.append hvs') ha.2⟩
         exact hnext _ _ ⟨_, H, m, h, Ext.refl _ _, hr, put_sound key (.tuple .nil .nil), Keep.refl _ _⟩
       · exact h.elim
      | _ => exact h.elim
     | call c =>
      rw [semAt_exec (by rintro c hc; cases hc)]
      obtain ⟨callee, args, argTypes⟩ := c
      cases callee with
      | value f =>
       obtain ⟨fv, hfv, h⟩ := h
       obtain ⟨vs, hvs, h⟩ := h
       have hvs' := evs_sound hr ha hvs
       have hfv' := eval_sound hr ha hfv
       unfold ACall at h
       split at h
       · rename_i g first cap
         obtain ⟨hcall, h⟩ := h
         obtain ⟨fn', u', c', e, hfn, hu, hc⟩ := hfv'.func_inv
         cases hfn
         have hres := resolve_value (P := P) (w := w) (a' := a') (c := ⟨.value f, args, argTypes⟩) (ty := ty) rfl e
         have e1 : (((⟨u'⟩ : Array Value) ++ args.map a'.eval) ++ ⟨c'⟩) = ⟨u' ++ args.toList.map a'.eval ++ c'⟩ := by apply Array.ext'; simp
         have hrun : (execOp a'.eval ⟨dst, .call ⟨.value f, args, argTypes⟩, ty, pos, aft, gd⟩).run P w = .ok (.enter g ⟨u' ++ args.toList.map a'.eval ++ c'⟩) w := by
          simp only [execOp, Sem.run_bind, hres, Result.andThen_ok, invoke, e1]
          exact hcall _ _
         rw [hrun]
         refine ⟨ndepth, hf.calls ((h B0 m w _ hr ((hu.append hvs').append hc) (n - 1)).mono fun e w1 hl => ?_)⟩
         rcases call_upon (o := ⟨dst, .call ⟨.value f, args, argTypes⟩, ty, pos, aft, gd⟩) ha hnext hX hl with ⟨v, rfl, h⟩ | ⟨ch, rfl, h⟩ <;> exact h
       · rename_i l first cap
         obtain ⟨fn', u', c', e, hfn, hu, hc⟩ := VRel.func_inv (u := first) (c := cap.toList) hfv'
         cases hfn with
         | @yield _ fl hl =>
          have hres := resolve_value (P := P) (w := w) (a' := a') (c := ⟨.value f, args, argTypes⟩) (ty := ty) rfl e
          have e1 : ((⟨u'⟩ : Array Value) ++ args.map a'.eval) = ⟨u' ++ args.toList.map a'.eval⟩ := by apply Array.ext'; simp
          obtain ⟨L, hL, hsz, hround⟩ := h B0 m w _ fl hr hl (hu.append hvs')
          have hy := run_yield (P := P) (args := ⟨u' ++ args.toList.map a'.eval⟩) hL (by simpa using hsz)
          have hrun : (execOp a'.eval ⟨dst, .call ⟨.value f, args, argTypes⟩, ty, pos, aft, gd⟩).run P w = .ok (.round fl.blk L.fn ((L.params.zip ⟨u' ++ args.toList.map a'.eval⟩).foldl (fun tmps (t, a) => tmps.setIfInBounds t a) L.tmps) L.assign L.body) w := by
           simp only [execOp, Sem.run_bind, hres, Result.andThen_ok, invoke, e1, hy]
          rw [hrun]
          refine ⟨ndepth, hf.round ((hround (n - 1)).mono fun e w1 hl => ?_)⟩
          rcases call_upon (o := ⟨dst, .call ⟨.value f, args, argTypes⟩, ty, pos, aft, gd⟩) ha hnext hX hl with ⟨v, rfl, h⟩ | ⟨ch, rfl, h⟩ <;> exact h
       · rename_i t path g ptr first cap
         obtain ⟨fn', u', c', e, hfn, hu, hc⟩ := VRel.func_inv (u := first) (c := cap.toList) hfv'
         cases hfn
         have hres := resolve_value (P := P) (w := w) (a' := a') (c := ⟨.value f, args, argTypes⟩) (ty := ty) rfl e
         split at h
         · rename_i x rest hxr
           obtain ⟨u2, hu2, hcall, h⟩ := h
           obtain ⟨tv, htv, hrv⟩ := option_bind_some hu2
           have hall := hu.append hvs'
           rw [hxr] at hall
           obtain ⟨x', rest', exr, hx', hrest⟩ := hall.uncons
           obtain ⟨q1, h1, h2⟩ := aFollow_sound (P := P) (w := w) (t2 := tv.1) (u := tv.2) hx' htv
           obtain ⟨q2, h3, h4⟩ := aRecv_sound (P := P) (w := w) (wr := none) h2 hrv
           have e1 : ((⟨u'⟩ : Array Value) ++ args.map a'.eval) = ⟨x' :: rest'⟩ := by apply Array.ext'; simpa using exr
           have hvia : (receiverVia t x' path ptr).run P w = .ok q2 w := by
            simp only [receiverVia, Sem.run_bind, h1, Result.andThen_ok, h3]
           have e2 : (#[q2] ++ (⟨x' :: rest'⟩ : Array Value).extract 1 (⟨x' :: rest'⟩ : Array Value).size) = ⟨q2 :: rest'⟩ := by apply Array.ext'; simp
           have hrun : (execOp a'.eval ⟨dst, .call ⟨.value f, args, argTypes⟩, ty, pos, aft, gd⟩).run P w = .ok (.enter g ⟨q2 :: rest'⟩) w := by
            simp only [execOp, Sem.run_bind, hres, Result.andThen_ok, e1, invoke]
            simp only [List.getElem?_toArray, List.getElem?_cons_zero, Sem.run_bind, hvia, Result.andThen_ok, e2]
            exact hcall _ _
           rw [hrun]
           refine ⟨ndepth, hf.calls ((h B0 m w _ hr (.cons h4 hrest) (n - 1)).mono fun e w1 hl => ?_)⟩
           rcases call_upon (o := ⟨dst, .call ⟨.value f, args, argTypes⟩, ty, pos, aft, gd⟩) ha hnext hX hl with ⟨v, rfl, h⟩ | ⟨ch, rfl, h⟩ <;> exact h
         · exact h.elim
       · exact h.elim
      | invoke r name =>
       obtain ⟨rv, hrv, h⟩ := h
       obtain ⟨vs, hvs, h⟩ := h
       have hvs' := evs_sound hr ha hvs
       have hrv' := eval_sound hr ha hrv
       unfold AInvoke at h
       split at h
       · rename_i t v
         obtain ⟨g, u, hmth, hcall, h⟩ := h
         obtain ⟨v', ev, hv⟩ := hrv'.iface_inv
         obtain ⟨u', h1, h2⟩ := aMethod_sound (P := P) (w := w) (P.types.size + Made.depth - 1) hv hmth
         have hdep : P.types.size + Made.depth - 1 + 1 = P.types.size + Made.depth := by simp [Made.depth]
         rw [hdep] at h1
         have e0 : (#[a'.eval r] ++ args.map a'.eval) = ⟨a'.eval r :: args.toList.map a'.eval⟩ := by apply Array.ext'; simp
         have e2 : (#[u'] ++ ((⟨a'.eval r :: args.toList.map a'.eval⟩ : Array Value).extract 1 (⟨a'.eval r :: args.toList.map a'.eval⟩ : Array Value).size)) = ⟨u' :: args.toList.map a'.eval⟩ := by
          apply Array.ext'
          simp [List.take_of_length_le]
         have hrun : (execOp a'.eval ⟨dst, .call ⟨.invoke r name, args, argTypes⟩, ty, pos, aft, gd⟩).run P w = .ok (.enter g ⟨u' :: args.toList.map a'.eval⟩) w := by
          simp only [execOp, resolve, Sem.run_bind, Sem.run_pure, Result.andThen_ok, invoke, e0]
          show (callMethod (a'.eval r) name _).run P w = _
          rw [ev]
          simp only [callMethod, Sem.run_bind, run_program, Result.andThen_ok, h1]
          rw [← ev, e2]
          exact hcall _ _
         rw [hrun]
         refine ⟨ndepth, hf.calls ((h B0 m w _ hr (.cons h2 hvs') (n - 1)).mono fun e w1 hl => ?_)⟩
         rcases call_upon (o := ⟨dst, .call ⟨.invoke r name, args, argTypes⟩, ty, pos, aft, gd⟩) ha hnext hX hl with ⟨v, rfl, h⟩ | ⟨ch, rfl, h⟩ <;> exact h
       · exact h.elim
      | builtin bi =>
       obtain ⟨args⟩ := args
       obtain ⟨argTypes⟩ := argTypes
       cases bi with
       | append =>
        simp only [AEff] at h
        split at h
        · rename_i x y t t'
          obtain ⟨ht, u, hu, v, hv, r, hap, h⟩ := h
          subst ht
          obtain ⟨v', w1, hrun0, hB, hpost⟩ := aAppend_sound (ty := ty) hr (eval_sound hr ha hu) (eval_sound hr ha hv) hap
          have hrun : (execOp a'.eval ⟨dst, .call ⟨.builtin .append, ⟨[x, y]⟩, ⟨[t', t']⟩⟩, ty, pos, aft, gd⟩).run P w = .ok (.value v') w1 := by
           have e1 : (⟨[x, y]⟩ : Array Operand).map a'.eval = #[a'.eval x, a'.eval y] := by simp
           simp only [execOp, resolve, Sem.run_bind, Sem.run_pure, Result.andThen_ok, invoke, builtin, e1]
           rw [show (⟨[t', t']⟩ : Array TypeId) = #[t', t'] from rfl, hrun0]
           rfl
          rw [hrun]
          cases r with
          | same v =>
           obtain ⟨p1, rfl⟩ := hpost
           exact next1 _ _ _ _ h p1 (Ext.refl _ _) hr hB
          | inpl v i b =>
           obtain ⟨p1, p2⟩ := hpost
           exact next1 _ _ _ _ h p1 (Ext.upd _ _ _ _) p2 hB
          | grow H' k b =>
           have hp : pick H fun j => K (a.put dst (.slice (some ⟨j, 0, none⟩) k k)) (upd H' j b) := by
            rcases h with ⟨ht, j, hj, hk⟩ | h
            · exact .inl ⟨ht, j, (grow_none hap).1 hj, hk⟩
            · exact .inr fun j hj => h j ((grow_none hap).2 hj)
           obtain ⟨j, hmj, hHj, hK⟩ := hr.pick hp
           have hHj' := (grow_none hap).2 hHj
           obtain ⟨f, p1, p2⟩ := hpost j hmj hHj'
           exact hnext _ _ ⟨_, _, _, hK, (grow_ext hap).trans (Ext.new hmj hHj'), p1, put_sound (ha.mono (nset_le hmj)) p2, hB⟩
        · exact h.elim
       | copy =>
        simp only [AEff] at h
        split at h
        · rename_i x y t t'
          obtain ⟨u, hu, v, hv, r, hap, h⟩ := h
          obtain ⟨k, ou⟩ := r
          obtain ⟨w1, hrun0, hB, hpost⟩ := aCopy_sound (ty := ty) hr (eval_sound hr ha hu) (eval_sound hr ha hv) hap
          have hrun : (execOp a'.eval ⟨dst, .call ⟨.builtin .copy, ⟨[x, y]⟩, ⟨[t, t']⟩⟩, ty, pos, aft, gd⟩).run P w = .ok (.value (.int .i64 k)) w1 := by
           have e1 : (⟨[x, y]⟩ : Array Operand).map a'.eval = #[a'.eval x, a'.eval y] := by simp
           simp only [execOp, resolve, Sem.run_bind, Sem.run_pure, Result.andThen_ok, invoke, builtin, e1]
           rw [show (⟨[t, t']⟩ : Array TypeId) = #[t, t'] from rfl, hrun0]
           rfl
          rw [hrun]
          exact next1 _ _ _ _ h (.of_atomic rfl) (Ext.updO _ _ _) hpost hB
        · exact h.elim
       | clear =>
        simp only [AEff] at h
        split at h
        · rename_i x t
          obtain ⟨u, hu, r, hap, h⟩ := h
          obtain ⟨w1, hrun0, hB, hpost⟩ := aClear_sound (ty := ty) hr (eval_sound hr ha hu) hap
          have hrun : (execOp a'.eval ⟨dst, .call ⟨.builtin .clear, ⟨[x]⟩, ⟨[t]⟩⟩, ty, pos, aft, gd⟩).run P w = .ok (.value (.tuple #[])) w1 := by
           have e1 : (⟨[x]⟩ : Array Operand).map a'.eval = #[a'.eval x] := by simp
           simp only [execOp, resolve, Sem.run_bind, Sem.run_pure, Result.andThen_ok, invoke, builtin, e1]
           rw [show (⟨[t]⟩ : Array TypeId) = #[t] from rfl, hrun0]
           rfl
          rw [hrun]
          exact next1 _ _ _ _ h (.tuple .nil .nil) (Ext.updO _ _ _) hpost hB
        · exact h.elim
       | panic =>
        simp only [AEff] at h
        split at h
        · rename_i x
          obtain ⟨u, hu, h⟩ := h
          split at h
          · rename_i t v
            obtain ⟨u', hx', hv⟩ := (eval_sound hr ha hu).iface_inv
            have hrun : (execOp a'.eval ⟨dst, .call ⟨.builtin .panic, ⟨[x]⟩, ⟨argTypes⟩⟩, ty, pos, aft, gd⟩).run P w = .halt (.panic (.iface t u')) w := by
             simp [execOp, resolve, invoke, builtin, hx', Instr.panic]
            rw [hrun]
            exact hX _ _ H m w h (Ext.refl _ _) hr (Keep.refl _ _) (.iface hv .nil)
          · exact h.elim
        · exact h.elim
       | _ => exact h.elim
     | _ => exact h.elim
end
end Go.Ab
namespace Go.Ab
open Go Go.RowKit
variable [TT]
def aWanted (ops : Array Oper) (a : AAct) (o : Oper) : Option Bool :=
 match o.guard with
 | none => some true
 | some (j, want) =>
  match (ops[j]?).bind (·.dst) with
  | some d => match a.f d with
   | some (.bool b) => some (b == want)
   | some (.tuple _) => some false
   | _ => none
  | none => none
def AOps (P : Program) (ro : Option Nat) (ops : Array Oper) (Q : AExit → AAct → AHeap → Prop) : List Nat → AAct → AHeap → Prop
 | [], a, H => Q .normal a H
 | i :: rest, a, H =>
  match ops[i]? with
  | none => AOps P ro ops Q rest a H
  | some o => bindO (aWanted ops a o) fun b =>
      (b = true → AOp P ro a H o.dst o.op (AOps P ro ops Q rest) (fun v H' => Q (.panic v) a H')) ∧ (b = false → AOps P ro ops Q rest (a.put o.dst undef) H)
def AWp (P : Program) (ro : Option Nat) (c : Code) (Q : AExit → AAct → AHeap → Prop) (a : AAct) (H : AHeap) : Prop :=
 ∀ (B0 : Prot) (m : NMap) (w : World) (a' : Act) (F : Fence), Rel P B0 m H w → ARel m a a' → FRel m ro F → ∀ n, c.wpIn F n P (LiftQ P B0 m H w Q) a' w
section
variable {P : Program} {B0 : Prot} {m : NMap} {H : AHeap} {w w' : World} {a : AAct} {a' : Act} {ro : Option Nat} {Q Q' : AExit → AAct → AHeap → Prop}
theorem LiftQ.mono {e : Exit} {a1 : Act} {w1 : World} (hq : ∀ e a H, Q e a H → Q' e a H) (h : LiftQ P B0 m H w Q e a1 w1) : LiftQ P B0 m H w Q' e a1 w1 := by
 obtain ⟨x, a, H', m', q, r⟩ := h
 exact ⟨x, a, H', m', hq _ _ _ q, r⟩
theorem AWp.mono {c : Code} (h : AWp P ro c Q a H) (hq : ∀ e a H, Q e a H → Q' e a H) : AWp P ro c Q' a H :=
 fun B0 m w a' F h1 h2 h3 n => wpIn_mono (h B0 m w a' F h1 h2 h3 n) fun _ _ _ hl => LiftQ.mono hq hl
theorem aWanted_sound (ha : ARel m a a') {ops : Array Oper} {o : Oper} {b : Bool} (h : aWanted ops a o = some b) : Region.wanted o (yielded ops a'.tmps) = b := by
 unfold aWanted at h
 unfold Region.wanted
 split at h
 · rename_i hg
   cases h
   rw [hg]
 · rename_i j want hg
   rw [hg]
   simp only
   split at h
   · rename_i d hd
     split at h
     · rename_i x hx
       cases h
       have hv := ha.1.2 d _ hx
       have hb := hv.bool_inv
       have hsz : d < a'.tmps.size := by
        rcases Nat.lt_or_ge d a'.tmps.size with h1 | h1
        · exact h1
        · simp [Array.getD, Nat.not_lt.2 h1, undef] at hb
       have hg2 : a'.tmps[d]? = some (.bool x) := by
        rw [Array.getElem?_eq_getElem hsz]
        simpa [Array.getD, hsz] using hb
       simp only [yielded, hd, Option.bind_some, hg2]
       cases x <;> cases want <;> rfl
     · rename_i x hx
       cases h
       have hv := ha.1.2 d _ hx
       obtain ⟨cs', e, _⟩ := VRel.tuple_inv (cs := x.toList) hv
       have hg2 : a'.tmps[d]? = none ∨ a'.tmps[d]? = some (.tuple ⟨cs'⟩) := by
        rcases Nat.lt_or_ge d a'.tmps.size with h1 | h1
        · refine .inr ?_
          rw [Array.getElem?_eq_getElem h1]
          simpa [Array.getD, h1] using e
        · exact .inl (Array.getElem?_eq_none h1)
       rcases hg2 with hg2 | hg2 <;> simp only [yielded, hd, Option.bind_some, hg2] <;> cases want <;> rfl
     · cases h
   · cases h
theorem AOps_sound {F : Fence} {ops : Array Oper} {n : Nat} {m0 : NMap} {H0 : AHeap} {w0 : World} (l : List Nat) : ∀ {m : NMap} {w : World} {a : AAct} {a' : Act} {H : AHeap}, Ext m0 H0 m H → Keep B0 w0 w → FRel m ro F → Rel P B0 m H w → ARel m a a' →
    AOps P ro ops Q l a H → wpOpsIn F n P ops (LiftQ P B0 m0 H0 w0 Q) l a' w := by
 induction l with
 | nil => exact fun hm0 hB0 hf hr ha h => ⟨.normal, _, _, _, h, hm0, hr, ha, hB0, rfl⟩
 | cons i rest ih =>
  intro m w a a' H hm0 hB0 hf hr ha h
  simp only [AOps] at h
  simp only [wpOpsIn]
  cases ho : ops[i]? with
  | none =>
   rw [ho] at h
   exact ih hm0 hB0 hf hr ha h
  | some o =>
   rw [ho] at h
   simp only at h ⊢
   obtain ⟨b, hb, h1, h2⟩ := h
   rw [aWanted_sound ha hb]
   cases b with
   | true =>
    simp only [if_true]
    refine AOp_sound hf hr ha ?_ ?_ (h1 rfl)
    · rintro a1 w1 ⟨a2, H', m', hk, hm, hr', ha', hB⟩
      exact ih (hm0.trans hm) (hB0.trans hB) (hf.mono hm.le) hr' ha' hk
    · intro v v' H' m' w1 hx hm hr' hB hv
      exact ⟨.panic v, a, H', m', hx, hm0.trans hm, hr', ha.mono hm.le, hB0.trans hB, v', rfl, hv⟩
   | false =>
    simp only [Bool.false_eq_true, if_false]
    exact ⟨fun f _ => hf.fn f, ih hm0 hB0 hf hr (put_sound ha (.tuple .nil .nil)) (h2 rfl)⟩
theorem AWp_region {id : Nat} {ops : Array Oper} (h : AOps P ro ops Q (List.range ops.size) a H) : AWp P ro (.region id ops false) Q a H :=
 fun _ m _ _ _ hr ha hf _ => wpIn_region (AOps_sound _ (Ext.refl m _) (Keep.refl _ _) hf hr ha h)
theorem AWp_skip (h : Q .normal a H) : AWp P ro .skip Q a H :=
 fun _ m _ _ _ hr ha _ _ => wpIn_skip ⟨.normal, _, _, m, h, Ext.refl _ _, hr, ha, Keep.refl _ _, rfl⟩
theorem AWp_label {l : Nat} (h : Q .normal a H) : AWp P ro (.label l) Q a H :=
 fun _ m _ _ _ hr ha _ _ => wpIn_label ⟨.normal, _, _, m, h, Ext.refl _ _, hr, ha, Keep.refl _ _, rfl⟩
theorem AWp_exit {id : Nat} (h : Q (.exit id) a H) : AWp P ro (.exit id) Q a H :=
 fun _ m _ _ _ hr ha _ _ => wpIn_exit ⟨.exit id, _, _, m, h, Ext.refl _ _, hr, ha, Keep.refl _ _, rfl⟩
theorem AWp_ret (h : Q .ret a H) : AWp P ro .ret Q a H :=
 fun _ m _ _ _ hr ha _ _ => wpIn_ret ⟨.ret, _, _, m, h, Ext.refl _ _, hr, ha, Keep.refl _ _, rfl⟩
def AThen (K : AAct → AHeap → Prop) (Q : AExit → AAct → AHeap → Prop) : AExit → AAct → AHeap → Prop
 | .normal, a, H => K a H
 | e, a, H => Q e a H
theorem AWp_seq {x y : Code} (h : AWp P ro x (AThen (AWp P ro y Q) Q) a H) : AWp P ro (.seq x y) Q a H := by
 intro B0 m w a' F hr ha hf n
 refine wpIn_seq (wpIn_mono (h B0 m w a' F hr ha hf n) ?_)
 rintro e a1 w1 ⟨x, a2, H', m', hq, hm, hr', ha', hB, hx⟩
 cases x with
 | normal =>
  cases hx
  exact wpIn_mono (hq B0 m' w1 a1 F hr' ha' (hf.mono hm.le) n) fun _ _ _ hl => LiftQ.trans hm hB hl
 | exit id => cases hx; exact ⟨.exit id, a2, H', m', hq, hm, hr', ha', hB, rfl⟩
 | goto l => cases hx; exact ⟨.goto l, a2, H', m', hq, hm, hr', ha', hB, rfl⟩
 | ret => cases hx; exact ⟨.ret, a2, H', m', hq, hm, hr', ha', hB, rfl⟩
 | panic v =>
  obtain ⟨v', rfl, hv⟩ := hx
  exact ⟨.panic v, a2, H', m', hq, hm, hr', ha', hB, v', rfl, hv⟩
theorem AWp_cond {c : Operand} {x y : Code} {b : Bool} (hc : a.eval P c = some (.bool b)) (ht : b = true → AWp P ro x Q a H) (hf : b = false → AWp P ro y Q a H) : AWp P ro (.cond c x y) Q a H := by
 intro B0 m w a' F hr ha hF n
 have hb := (eval_sound hr ha hc).bool_inv
 cases b with
 | true => exact wpIn_cond_true hb (ht rfl B0 m w a' F hr ha hF n)
 | false => exact wpIn_cond_false hb (hf rfl B0 m w a' F hr ha hF n)
def AInBlock (id : Nat) (Q : AExit → AAct → AHeap → Prop) : AExit → AAct → AHeap → Prop
 | .exit id', a, H => if id' = id then Q .normal a H else Q (.exit id') a H
 | e, a, H => Q e a H
theorem AWp_block {id : Nat} {c : Code} (h : AWp P ro c (AInBlock id Q) a H) : AWp P ro (.block id c) Q a H := by
 intro B0 m w a' F hr ha hf n
 refine wpIn_block (wpIn_mono (h B0 m w a' F hr ha hf n) ?_)
 rintro e a1 w1 ⟨x, a2, H', m', hq, hm, hr', ha', hB, hx⟩
 cases x with
 | normal => cases hx; exact ⟨.normal, a2, H', m', hq, hm, hr', ha', hB, rfl⟩
 | exit id' =>
  cases hx
  simp only [AInBlock] at hq
  simp only [Exit.inBlock]
  split
  · rename_i e; rw [if_pos e] at hq; exact ⟨.normal, a2, H', m', hq, hm, hr', ha', hB, rfl⟩
  · rename_i e; rw [if_neg e] at hq; exact ⟨.exit id', a2, H', m', hq, hm, hr', ha', hB, rfl⟩
 | goto l => cases hx; exact ⟨.goto l, a2, H', m', hq, hm, hr', ha', hB, rfl⟩
 | ret => cases hx; exact ⟨.ret, a2, H', m', hq, hm, hr', ha', hB, rfl⟩
 | panic v =>
  obtain ⟨v', rfl, hv⟩ := hx
  exact ⟨.panic v, a2, H', m', hq, hm, hr', ha', hB, v', rfl, hv⟩
theorem roundsIn_mono {F : Fence} {n : Nat} {c : Code} {Q1 : Exit → Act → World → Prop} {k k' : Nat} (hk : k ≤ k') : ∀ {a : Act} {w : World}, Code.roundsIn F n P c Q1 k a w → Code.roundsIn F n P c Q1 k' a w := by
 have _ := TT.tt
 induction k generalizing k' with
 | zero => intro a w h; exact h.elim
 | succ k ih =>
  intro a w h
  match k', hk with
  | k' + 1, hk =>
   rw [roundsIn_succ] at h ⊢
   refine wpIn_mono h fun e a1 w1 he => ?_
   cases e <;> first | exact ih (by omega) he | exact he
theorem stepR_scope {b : Frame} {a : Act} {k : List Item} {cs : List Frame} {w : World} {c : Code} : step P (lone (b.atR a (.code (.scope c) :: k)) cs w) = .next (lone (b.atR a (.code c :: .inScope c :: k)) cs w) := have _ := TT.tt;
 step_lone_go (by simp [stepG, stepG.exec, Frame.atR])
theorem stepR_inScope {b : Frame} {a : Act} {k : List Item} {cs : List Frame} {w : World} {c : Code} : step P (lone (b.atR a (.inScope c :: k)) cs w) = .next (lone (b.atR a k) cs w) := have _ := TT.tt;
 step_lone_go (by simp [stepG, stepG.exec, Frame.atR])
theorem wpIn_scope {F : Fence} {n : Nat} {c : Code} {a : Act} {w : World} {Q1 : Exit → Act → World → Prop} (h : c.wpIn F n P (fun e a w => (∀ l, e ≠ .goto l) ∧ Q1 e a w) a w) : (Code.scope c).wpIn F n P Q1 a w := by
 intro b k cs hro hb hr
 have h0 : (lone (b.atR a (.code (.scope c) :: k)) cs w).fenced P F := fenced_calm hb hr rfl
 obtain ⟨e, a₁, w₁, ⟨hng, hq⟩, harr⟩ := h b (.inScope c :: k) cs hro hb hr
 cases e with
 | normal => exact ⟨.normal, a₁, w₁, hq, .head h0 stepR_scope (StepsIn.trans harr (.one (fenced_calm hb hr rfl) stepR_inScope))⟩
 | exit id =>
  have hx : exitTo id (.inScope c :: k) = exitTo id k := by simp [exitTo]
  exact ⟨.exit id, a₁, w₁, hq, fun k' hk => .head h0 stepR_scope (harr.1 k' (by rw [hx]; exact hk)),
   fun hr' hk => let ⟨k₁, h1, h2⟩ := harr.2 hr' (by rw [hx]; exact hk); ⟨k₁, h1, .head h0 stepR_scope h2⟩⟩
 | goto l => exact absurd rfl (hng l)
 | ret => exact ⟨_, a₁, w₁, hq, .of_steps (.one h0 stepR_scope) harr⟩
 | panic ch => exact ⟨_, a₁, w₁, hq, .of_steps (.one h0 stepR_scope) harr⟩
 | outgrown => exact ⟨_, a₁, w₁, hq, .of_steps (.one h0 stepR_scope) harr⟩
theorem AWp_scope {c : Code} (h : AWp P ro c (fun e a H => (∀ l, e ≠ .goto l) ∧ Q e a H) a H) : AWp P ro (.scope c) Q a H := by
 intro B0 m w a' F hr ha hf n
 refine wpIn_scope (wpIn_mono (h B0 m w a' F hr ha hf n) ?_)
 rintro e a1 w1 ⟨x, a2, H', m', ⟨hng, hq⟩, hm, hr', ha', hB, hx⟩
 refine ⟨?_, x, a2, H', m', hq, hm, hr', ha', hB, hx⟩
 rintro l rfl
 cases x with
 | goto l' => exact hng l' rfl
 | panic v => obtain ⟨_, h, _⟩ := hx; cases h
 | _ => cases hx
end
end Go.Ab
namespace Go.Ab
open Go Go.RowKit
variable [TT]
def aResult (P : Program) (a : AAct) (H : AHeap) : ResultVar → Option Value
 | .tmp t => a.f t
 | .cell x t => match a.f x with
  | some (.pointer (some ⟨i, o, none⟩)) => loadV P t H i o
  | _ => none
def aResList (P : Program) (a : AAct) (H : AHeap) : List ResultVar → Option (List Value)
 | [] => some []
 | r :: rs => (aResult P a H r).bind fun v => (aResList P a H rs).map (v :: ·)
def oneOf : List Value → Value
 | [v] => v
 | vs => .tuple ⟨vs⟩
def aResults (P : Program) (fn : Func) (a : AAct) (H : AHeap) : Option Value := (aResList P a H fn.results.toList).map oneOf
inductive AMode where
 | ret
 | pan (v : Value)
 | caught
def MRel (m : NMap) : AMode → FrameMode → Prop
 | .ret, u => u = .returning
 | .pan v, u => ∃ v', u = .panicking [{ v := v', recovered := false }] ∧ VRel m v v'
 | .caught, u => ∃ v', u = .panicking [{ v := v', recovered := true }]
def aSettle : AMode → AMode
 | .caught => .ret
 | u => u
def SDCalls (P : Program) (f : FuncId) (args : List Value) (u : AMode) (H : AHeap) (R : Value → AMode → AHeap → Prop) : Prop :=
 ∀ (B0 : Prot) (m : NMap) (w : World) (args' : List Value) (u' : FrameMode), Rel P B0 m H w → VsRel m args args' → MRel m u u' → ∀ n,
  CallsDIn Fence.wide n P f ⟨args'⟩ u' w fun e u2' w' => ∃ v v' u2 H' m', R v u2 H' ∧ Ext m H m' H' ∧ Rel P B0 m' H' w' ∧ Keep B0 w w' ∧ e = .returned v' ∧ VRel m' v v' ∧ MRel m' u2 u2'
def ALeave (P : Program) (fn : Func) (R : ARes → AHeap → Prop) : List Deferred → AMode → AAct → AHeap → Prop
 | [], .ret, a, H => bindO (aResults P fn a H) fun v => R (.ret v) H
 | [], .pan v, _, H => R (.pan v) H
 | [], .caught, _, _ => False
 | ⟨.collected r, _⟩ :: ds, u, a, H => (H r = some .defs) ∧ ALeave P fn R ds u a (del H r)
 | ⟨.fn (.func f) cap, args⟩ :: ds, u, a, H => Callable P f ∧ SDCalls P f (args.toList ++ cap.toList) u H (fun _ u' H' => ALeave P fn R ds (aSettle u') a H')
 | _, _, _, _ => False
def ABody (P : Program) (fn : Func) (R : ARes → AHeap → Prop) : AExit → AAct → AHeap → Prop
 | .normal, a, H | .ret, a, H => ALeave P fn R a.defers .ret a H
 | .panic v, a, H => ALeave P fn R a.defers (.pan v) a H
 | _, _, _ => False
def aEntry (args : List Value) (n : Nat) : AAct := { n := args.length + (n - args.length), f := fun t => if t < args.length then args[t]? else some undef, defers := [] }
section
variable {P : Program} {B0 : Prot} {m : NMap} {H : AHeap} {w w' : World} {a : AAct} {a' : Act} {R : ARes → AHeap → Prop}
def resF (tmps : Array Value) : ResultVar → Sem Value
 | .tmp t => pure (tmps.getD t undef)
 | .cell x t => do loadVar t (← asAddr (tmps.getD x undef))
theorem results_eq (fn : Func) (tmps : Array Value) : results fn tmps = (do let vs ← fn.results.mapM (resF tmps); pure (if h : vs.size = 1 then vs[0] else .tuple vs)) := by
 have _ := TT.tt
 unfold results
 congr 1
theorem aResult_sound (hr : Rel P B0 m H w) (ha : TRel m ⟨a.n, a.f⟩ a'.tmps) {r : ResultVar} {v : Value} (h : aResult P a H r = some v) :
    ∃ v', (resF a'.tmps r).run P w = .ok v' w ∧ VRel m v v' := by
 cases r with
 | tmp t => exact ⟨_, rfl, ha.2 t v h⟩
 | cell x t =>
  simp only [aResult] at h
  split at h
  · rename_i i o hx
    obtain ⟨f, hm, e⟩ := (ha.2 x _ hx).ptr_inv
    obtain ⟨v', h1, h2⟩ := loadV_sound hr hm h
    exact ⟨v', by simp [resF, e, asAddr, h1], h2⟩
  · cases h
theorem results_sound {fn : Func} (hr : Rel P B0 m H w) (ha : TRel m ⟨a.n, a.f⟩ a'.tmps) {v : Value} (h : aResults P fn a H = some v) :
    ∃ v', (results fn a'.tmps).run P w = .ok v' w ∧ VRel m v v' := by
 unfold aResults at h
 cases hl : aResList P a H fn.results.toList with
 | none => rw [hl] at h; cases h
 | some vs =>
  rw [hl] at h
  cases h
  have key : ∀ (l : List ResultVar) vs, aResList P a H l = some vs → ∃ vs', (l.mapM (resF a'.tmps)).run P w = .ok vs' w ∧ VsRel m vs vs' := by
   intro l
   induction l with
   | nil => intro vs h; cases h; exact ⟨[], rfl, .nil⟩
   | cons r rs ih =>
    intro vs h
    obtain ⟨v, hv, h1⟩ := option_bind_some h
    cases hl : aResList P a H rs with
    | none => rw [hl] at h1; cases h1
    | some vs1 =>
     rw [hl] at h1
     cases h1
     obtain ⟨vs', h2, h3⟩ := ih vs1 hl
     obtain ⟨v', h4, h5⟩ := aResult_sound hr ha hv
     refine ⟨v' :: vs', ?_, .cons h5 h3⟩
     rw [List.mapM_cons]
     simp only [Sem.run_bind, h4, Result.andThen_ok, h2, Sem.run_pure]
  obtain ⟨vs', h1, h2⟩ := key _ _ hl
  have hrun : (results fn a'.tmps).run P w = .ok (oneOf vs') w := by
   rw [results_eq, Array.mapM_eq_mapM_toList]
   simp only [Sem.run_bind, Sem.run_map, h1, Result.andThen_ok]
   match vs' with
   | [] => rfl
   | [x] => rfl
   | x :: y :: l => rfl
  refine ⟨_, hrun, ?_⟩
  match vs, vs', h2 with
  | [], _, h => have := h.nil_left; subst this; exact .tuple .nil .nil
  | [x], _, h =>
   obtain ⟨v', l', rfl, hv, hl⟩ := h.uncons
   have := hl.nil_left; subst this
   exact hv
  | x :: y :: l, _, h =>
   obtain ⟨v1, l1, rfl, hv, hl⟩ := h.uncons
   obtain ⟨v2, l2, rfl, hv2, hl2⟩ := hl.uncons
   exact .tuple (.cons hv (.cons hv2 hl2)) .nil
theorem Rel.shut (h : Rel P B0 m H w) {i : Nat} {b0 : ABlk} {f : BInfo} (hi : H i = some b0) (hm : m i = some f) (h0 : b0.own = true) (hsize : w.heap.size ≤ w'.heap.size)
    (hoth : ∀ k, k ≠ f.blk → k < w.heap.size → w'.heap[k]? = w.heap[k]?) : Rel P B0 m (Ab.del H i) w' where
 blocks j c g hj hg := by
  by_cases e : j = i
  · subst e; simp at hj; subst hj; trivial
  rw [del_other _ _ _ e] at hj
  have hc := h.blocks j c g hj hg
  refine hc.heap fun hd => hoth _ ?_ (hc.lt hd)
  cases ho : c.own with
  | true => exact h.inj j i c b0 g f e hj hi ho h0 hg hm
  | false =>
   have h1 := hc.ro_lt ho hd
   have h2 := (h.blocks i b0 f hi hm).own_ge h0
   exact fun e => h2 (e ▸ h1)
 inj := (h.del (by rw [hi]; simp)).inj
 fin := (h.del (by rw [hi]; simp)).fin
 base := fun k hk => Nat.lt_of_lt_of_le (h.base k hk) hsize
 glob := h.glob
 tot := (h.del (by rw [hi]; simp)).tot
theorem below_putObj {B : Prot} {k : Nat} {w : World} (hB : ¬ B k) (o : Obj) : Keep B w (w.putObj k o) := have _ := TT.tt;
 ⟨rfl, rfl, rfl, by simp, fun j hj => World.putObj_heap_other (fun e => hB (e ▸ hj))⟩
theorem settle_sound {u : AMode} {u' : FrameMode} (h : MRel m u u') : MRel m (aSettle u) (settle u') := by
 have _ := TT.tt
 cases u with
 | ret => cases h; rfl
 | pan v => obtain ⟨v', rfl, hv⟩ := h; exact ⟨v', rfl, hv⟩
 | caught => obtain ⟨v', rfl⟩ := h; rfl
theorem leaves_sound {fn : Func} {n : Nat} {m0 : NMap} {H0 : AHeap} {w0 : World} (ds : List Deferred) : ∀ {ds' : List Deferred} {u : AMode} {u' : FrameMode} {m : NMap} {w : World} {H : AHeap}, Ext m0 H0 m H → Keep B0 w0 w → Rel P B0 m H w → DsRel m ds ds' →
    TRel m ⟨a.n, a.f⟩ a'.tmps → MRel m u u' → ALeave P fn R ds u a H → LeavesInM Fence.wide n P fn a'.tmps (LiftR P B0 m0 H0 w0 R) ds' u' w := by
 induction ds with
 | nil =>
  intro ds' u u' m w H hm0 hB0 hr hd ha hu h
  cases hd
  cases u with
  | ret =>
   cases hu
   obtain ⟨v, hv, hR⟩ := h
   obtain ⟨v', h1, h2⟩ := results_sound hr ha hv
   exact ⟨v', h1, .ret v, H, m, hR, hm0, hr, hB0, v', rfl, h2⟩
  | pan v =>
   obtain ⟨v', rfl, hv⟩ := hu
   exact ⟨.pan v, H, m, h, hm0, hr, hB0, v', rfl, hv⟩
  | caught => exact h.elim
 | cons d ds ih =>
  intro ds' u u' m w H hm0 hB0 hr hd ha hu h
  have hne : u' ≠ .run := by
   cases u with
   | ret => cases hu; simp
   | pan v => obtain ⟨v', rfl, hv⟩ := hu; simp
   | caught => obtain ⟨v', rfl⟩ := hu; simp
  cases hd with
  | @mark r f _ ds2 hm hd =>
   obtain ⟨hH, h⟩ := h
   have hblk := hr.blocks r _ f hH hm
   obtain ⟨hB, hheap⟩ := hblk
   exact ⟨hne, .inl ⟨f.blk, _, rfl, run_takeDeferred hheap, ih (hm0.trans (Ext.del _ _)) (hB0.trans (below_putObj hB _)) (hr.shut hH hm rfl (by simp) fun k hk _ => World.putObj_heap_other hk) hd ha hu h⟩⟩
  | @fn fv fv' cap cap' args args' _ ds2 hfn hc hargs hd =>
   cases hfn with
   | func f =>
    obtain ⟨hcall, h⟩ := h
    refine ⟨hne, .inr ⟨fun h => (by cases h), .func f, ⟨cap'⟩, f, ⟨args' ++ cap'⟩, rfl, ?_, fun _ _ => trivial, ?_⟩⟩
    · have e1 : ((⟨args'⟩ : Array Value) ++ ⟨cap'⟩) = ⟨args' ++ cap'⟩ := by apply Array.ext'; simp
      simp only [invoke, e1]
      exact hcall _ _
    · have hx := h B0 m w _ u' hr (hargs.append hc) hu (n - 1)
      refine ⟨hx.1, fun c cs hmode hroom => ?_⟩
      obtain ⟨e, u2, w2, fr, ⟨v, v', U, H', m', hR, hm, hr', hB, he, hv, hU⟩, hs, hk, hf', hg⟩ := hx.2 c cs hmode hroom
      subst he
      exact ⟨.returned v', u2, w2, fr, ih (hm0.trans hm) (hB0.trans hB) hr' (hd.mono hm.le) (ha.mono hm.le) (settle_sound hU) hR, hs, hk, hf', hg⟩
   | _ => exact h.elim
theorem body_sound {fn : Func} {n : Nat} {e : Exit} {a1 : Act} {w1 : World} (h : LiftQ P B0 m H w (ABody P fn R) e a1 w1) : bodyPostM Fence.wide n P fn (LiftR P B0 m H w R) e a1 w1 := by
 obtain ⟨x, a, H', m', hq, hm, hr, ha, hB, hx⟩ := h
 cases x with
 | normal => cases hx; exact leaves_sound _ hm hB hr ha.2 ha.1 (u := .ret) rfl hq
 | ret => cases hx; exact leaves_sound _ hm hB hr ha.2 ha.1 (u := .ret) rfl hq
 | panic v =>
  obtain ⟨v', rfl, hv⟩ := hx
  exact leaves_sound _ hm hB hr ha.2 ha.1 (u := .pan v) ⟨v', rfl, hv⟩ hq
 | exit id => exact hq.elim
 | goto l => exact hq.elim
theorem entry_sound {args args' : List Value} (h : VsRel m args args') (n : Nat) :
    ARel m (aEntry args n) { tmps := (⟨args'⟩ : Array Value) ++ Array.replicate (n - (⟨args'⟩ : Array Value).size) undef, defers := [] } := by
 have _ := TT.tt
 have hlen := h.length
 refine ⟨⟨by simp [aEntry, hlen], fun t v ht => ?_⟩, .nil⟩
 simp only [aEntry] at ht
 split at ht
 · rename_i hlt
   obtain ⟨v', h1, h2⟩ := h.get ht
   have : (((⟨args'⟩ : Array Value) ++ Array.replicate (n - (⟨args'⟩ : Array Value).size) undef)).getD t undef = v' := by
    have hlt' : t < args'.length := by omega
    rw [List.getElem?_eq_getElem hlt'] at h1
    cases h1
    simp [Array.getD, hlt']
    intro h
    omega
   rw [this]
   exact h2
 · cases ht
   have : (((⟨args'⟩ : Array Value) ++ Array.replicate (n - (⟨args'⟩ : Array Value).size) undef)).getD t undef = undef := by
    rw [Array.getD_eq_getD_getElem?, Array.getElem?_append_right (by simp; omega), Array.getElem?_replicate]
    split <;> rfl
   rw [this]
   exact .tuple .nil .nil
theorem SCalls_of_AWp {f : FuncId} {fn : Func} {c : Code} {args : List Value} (hf : P.funcs[f]? = some fn) (hb : fn.body = some c)
    (h : AWp P none c (ABody P fn R) (aEntry args fn.ntmps) H) : SCalls P f args H R :=
 fun B0 m w args' hr hv n => callsIn_of_wp_marks hf hb trivial (wpIn_mono (h B0 m w _ Fence.wide hr (entry_sound hv _) rfl n) fun _ _ _ hl => body_sound hl)
theorem SCalls.weaken {f : FuncId} {args : List Value} {H2 : AHeap} {R' : ARes → AHeap → Prop} (h : SCalls P f args H2 R) (hH : Sub H2 H) (hr : ∀ r H', R r H' → ∃ H'', Sub H'' H' ∧ R' r H'') : SCalls P f args H R' :=
 fun B0 m w args' h1 h2 n => (h B0 m w args' (h1.sub hH) h2 n).mono fun _ _ ⟨r, H', m', a, b, c, d⟩ => let ⟨H'', s, a'⟩ := hr r H' a; ⟨r, H'', m', a', b.sub hH s, c.sub s, d⟩
end
end Go.Ab
namespace Go.Ab
open Go Go.RowKit
variable [TT]
def loopAt (H : AHeap) (l : Nat) : Option ALoop := (H l).bind fun | .loop L => some L | _ => none
theorem loopAt_some {H : AHeap} {l : Nat} {L : ALoop} (h : loopAt H l = some L) : H l = some (.loop L) := by
 have _ := TT.tt
 unfold loopAt at h
 obtain ⟨b, hb, h⟩ := option_bind_some h
 cases b <;> cases h
 exact hb
def ARangeEnd (l : Nat) (Q : AExit → AAct → AHeap → Prop) (a : AAct) : ARes → AHeap → Prop
 | .ret _, H => bindO (loopAt H l) fun L => L.state ≠ .busy ∧
     match L.pending with
     | none => Q .normal a (del H l)
     | some .ret => Q .ret a (del H l)
     | some (.exit id) => Q (.exit id) a (del H l)
     | _ => False
 | .pan v, H => Q (.panic v) a H
def ACallF (P : Program) (fv : Value) (args : List Value) (H : AHeap) (R : ARes → AHeap → Prop) : Prop :=
 match fv with
 | .func (.func f) ⟨first⟩ ⟨cap⟩ => Callable P f ∧ SCalls P f (first ++ args ++ cap) H R
 | .func (.via t path f ptr) ⟨first⟩ _ =>
  match first ++ args with
  | x :: rest => ∃ u, ((aFollow P path.toList t x).bind fun tv => aRecv P tv.1 tv.2 ptr) = some u ∧ Callable P f ∧ SCalls P f (u :: rest) H R
  | [] => False
 | _ => False
def yieldOf (l : Nat) : Value := .func (.yield l) ⟨[]⟩ ⟨[]⟩
def newLoop (a : AAct) (ps : Array Tmp) (assign body : Code) : ALoop := ⟨.ready, none, ⟨a.n, a.f⟩, ps, assign, body⟩
def ARange (P : Program) (ro : Option Nat) (a : AAct) (H : AHeap) (g : Operand) (ps : Array Tmp) (assign body : Code) (Q : AExit → AAct → AHeap → Prop) : Prop :=
 bindO (a.eval P g) fun gv =>
  match ro with
  | none => pick H fun r => pick (upd H r .defs) fun l =>
      ACallF P gv [yieldOf l] (upd (upd H r .defs) l (.loop (newLoop a ps assign body))) (ARangeEnd l Q { a with defers := ⟨.collected r, #[]⟩ :: a.defers })
  | some l0 => ∃ L0, H l0 = some (.loop L0) ∧ pick H fun l => ACallF P gv [yieldOf l] (upd H l (.loop (newLoop a ps assign body))) (ARangeEnd l Q a)
section
variable {P : Program} {B0 : Prot} {m : NMap} {H : AHeap} {w w' : World} {a : AAct} {a' : Act} {ro : Option Nat} {Q : AExit → AAct → AHeap → Prop} {R : ARes → AHeap → Prop}
theorem rangeCall_sound {F : Fence} {n l blk : Nat} {g : Operand} {gv : Value} {fl : BInfo} {R1 : Ending → World → Prop} (hf : FRel m ro F) (hr : Rel P B0 m H w) (hg : VRel m gv (a'.eval g)) (hl : m l = some fl) (hblk : fl.blk = blk) (h : ACallF P gv [yieldOf l] H R)
    (hR : ∀ e w1, LiftR P B0 m H w R e w1 → R1 e w1) :
    ∃ (d : Deferred) (f : FuncId) (args : Array Value), (resolve a'.eval (rangeCall g blk) 0).run P w = .ok d w ∧ (∀ f', Target.leads P w d.target d.args = some f' → F.fn f') ∧ (invoke d.target d.args).run P w = .ok (.enter f args) w ∧
     (F.depth.isSome = true → 1 ≤ n) ∧ CallsIn F (n - 1) P f args w R1 := by
 subst hblk
 have ndepth : F.depth.isSome = true → 1 ≤ n := fun h => by rw [hf.depth] at h; cases h
 have hy : VRel m (yieldOf l) (.func (.yield fl.blk) ⟨[]⟩ ⟨[]⟩) := VsRel.func (.yield hl) .nil .nil .nil
 unfold ACallF at h
 split at h
 · rename_i f first cap
   obtain ⟨hcall, h⟩ := h
   obtain ⟨fn', u', c', e, hfn, hu, hc⟩ := hg.func_inv
   cases hfn
   have hx := (h B0 m w _ hr ((hu.append (.cons hy .nil)).append hc) (n - 1)).mono hR
   refine ⟨{ target := .fn (.func f) ⟨c'⟩, args := ⟨u'⟩ ++ #[.func (.yield fl.blk) #[] #[]] }, f, ⟨u' ++ [.func (.yield fl.blk) #[] #[]] ++ c'⟩, ?_, fun f' _ => hf.fn f', ?_, ndepth, ?_⟩
   rotate_left
   rotate_left
   · exact hf.calls hx
   · have hres := resolve_value (P := P) (w := w) (a' := a') (c := rangeCall g fl.blk) (ty := 0) rfl e
     rwa [show (rangeCall g fl.blk).args.map a'.eval = #[.func (.yield fl.blk) #[] #[]] by simp [Act.eval]] at hres
   · have e1 : (((⟨u'⟩ : Array Value) ++ #[.func (.yield fl.blk) #[] #[]]) ++ ⟨c'⟩) = ⟨u' ++ [.func (.yield fl.blk) #[] #[]] ++ c'⟩ := by apply Array.ext'; simp
     simp only [invoke, e1]
     exact hcall _ _
 · rename_i t path f ptr first cap
   obtain ⟨fn', u', c', e, hfn, hu, hc⟩ := VRel.func_inv (u := first) (c := cap.toList) hg
   cases hfn
   split at h
   · rename_i x rest hxr
     obtain ⟨u2, hu2, hcall, h⟩ := h
     obtain ⟨tv, htv, hrv⟩ := option_bind_some hu2
     have hall := hu.append (.cons hy .nil)
     rw [hxr] at hall
     obtain ⟨x', rest', exr, hx', hrest⟩ := hall.uncons
     obtain ⟨q1, h1, h2⟩ := aFollow_sound (P := P) (w := w) (t2 := tv.1) (u := tv.2) hx' htv
     obtain ⟨q2, h3, h4⟩ := aRecv_sound (P := P) (w := w) (wr := none) h2 hrv
     have e1 : ((⟨u'⟩ : Array Value) ++ #[.func (.yield fl.blk) #[] #[]]) = ⟨x' :: rest'⟩ := by apply Array.ext'; simpa using exr
     have hvia : (receiverVia t x' path ptr).run P w = .ok q2 w := by
      simp only [receiverVia, Sem.run_bind, h1, Result.andThen_ok, h3]
     have e2 : (#[q2] ++ (⟨x' :: rest'⟩ : Array Value).extract 1 (⟨x' :: rest'⟩ : Array Value).size) = ⟨q2 :: rest'⟩ := by apply Array.ext'; simp
     have hx := (h B0 m w _ hr (.cons h4 hrest) (n - 1)).mono hR
     refine ⟨{ target := .fn (.via t path f ptr) ⟨c'⟩, args := ⟨u'⟩ ++ #[.func (.yield fl.blk) #[] #[]] }, f, ⟨q2 :: rest'⟩, ?_, fun f' _ => hf.fn f', ?_, ndepth, ?_⟩
     rotate_left
     rotate_left
     · exact hf.calls hx
     · have hres := resolve_value (P := P) (w := w) (a' := a') (c := rangeCall g fl.blk) (ty := 0) rfl e
       rwa [show (rangeCall g fl.blk).args.map a'.eval = #[.func (.yield fl.blk) #[] #[]] by simp [Act.eval]] at hres
     · simp only [e1, invoke]
       simp only [List.getElem?_toArray, List.getElem?_cons_zero, Sem.run_bind, hvia, Result.andThen_ok, e2]
       exact hcall _ _
   · exact h.elim
 · exact h.elim
theorem rangeEnd_sound {F : Fence} {n l : Nat} {m0 : NMap} {H0 : AHeap} {w0 : World} {fl : BInfo} (hm0 : Ext m0 H0 m H) (hB0 : Keep B0 w0 w) (ha : ARel m a a') (hl : m l = some fl) {e : Ending} {w1 : World}
    (h : LiftR P B0 m H w (ARangeEnd l Q a) e w1) : rangePost F n P fl.blk (LiftQ P B0 m0 H0 w0 Q) a' e w1 := by
 obtain ⟨r, H', m', hq, hm, hr, hB, hx⟩ := h
 cases r with
 | pan v =>
  obtain ⟨v', rfl, hv⟩ := hx
  exact ⟨.panic v, a, H', m', hq, hm0.trans hm, hr, ha.mono hm.le, hB0.trans hB, v', rfl, hv⟩
 | ret v =>
  obtain ⟨v', rfl, hv⟩ := hx
  obtain ⟨L, hL, hst, hq⟩ := hq
  have hL := loopAt_some hL
  have hblk := hr.blocks l _ fl hL (hm.le _ _ hl)
  obtain ⟨hBl, L', hheap, hs', hp', _⟩ := hblk
  have hend := run_endLoop (P := P) hheap (by rw [hs']; exact hst)
  have hrel := hr.shut (w' := w1.putObj fl.blk (.loop { L' with state := .exhausted })) hL (hm.le _ _ hl) rfl (by simp) fun k hk _ => World.putObj_heap_other hk
  have hBB := (hB0.trans hB).trans (below_putObj hBl (.loop { L' with state := .exhausted }))
  generalize w1.putObj fl.blk (.loop { L' with state := .exhausted }) = w4 at hend hrel hBB
  refine ⟨_, _, hend, ?_⟩
  rw [hp']
  split at hq
  · rename_i hp
    simp only [hp]
    exact ⟨.normal, a, _, m', hq, (hm0.trans hm).trans (Ext.del _ _), hrel, ha.mono hm.le, hBB, rfl⟩
  · rename_i hp
    simp only [hp]
    exact wpIn_ret ⟨.ret, a, _, m', hq, (hm0.trans hm).trans (Ext.del _ _), hrel, ha.mono hm.le, hBB, rfl⟩
  · rename_i id hp
    simp only [hp]
    exact wpIn_exit ⟨.exit id, a, _, m', hq, (hm0.trans hm).trans (Ext.del _ _), hrel, ha.mono hm.le, hBB, rfl⟩
  · exact hq.elim
theorem nset_same {m : NMap} {i : Nat} {f : BInfo} : nset m i f i = some f := by have _ := TT.tt; simp [nset]
theorem AWp_rangeFunc {g : Operand} {ps : Array Tmp} {assign body : Code} (h : ARange P ro a H g ps assign body Q) : AWp P ro (.rangeFunc g ps assign body) Q a H := by
 intro B0 m w a' F hr ha hf n
 refine wpIn_rangeFunc fun fn _ => ?_
 obtain ⟨gv, hgv, h⟩ := h
 have hg := eval_sound hr ha hgv
 cases ro with
 | none =>
  cases hf
  have hent := run_enterLoop_outer (P := P) (w := w) fn a'.tmps ps assign body
  obtain ⟨r, hmr, hHr, h⟩ := hr.pick h
  have hr1 := hr.alloc hmr hHr (.deferred (some [])) .defs ⟨w.heap.size, 0, 0⟩ rfl ⟨hr.newb, World.alloc_heap_new _ _⟩
  obtain ⟨l, hml, hHl, h⟩ := hr1.pick h
  have hlr : l ≠ r := by rintro rfl; simp at hHl
  have hHl0 : H l = none := by rwa [upd_other _ _ _ _ hlr] at hHl
  have hle1 : m.le (nset m r ⟨w.heap.size, 0, 0⟩) := nset_le hmr
  have hsz : (w.alloc (.deferred (some []))).heap.size = w.heap.size + 1 := World.size_alloc _ _
  have hr2 := hr1.alloc hml hHl (.loop { state := .ready, pending := none, fn, tmps := a'.tmps, params := ps, assign, body, defers := w.heap.size }) (.loop (newLoop a ps assign body)) ⟨(w.alloc (.deferred (some []))).heap.size, 0, 0⟩ rfl
   ⟨hr1.newb, _, World.alloc_heap_new _ _, rfl, rfl, ha.1.mono hle1, rfl, rfl, rfl⟩
  have hle2 : (nset m r ⟨w.heap.size, 0, 0⟩).le _ := nset_le (f := ⟨(w.alloc (.deferred (some []))).heap.size, 0, 0⟩) hml
  have hle := NMap.le_trans hle1 hle2
  have hBw : Keep B0 w ((w.alloc (.deferred (some []))).alloc (.loop { state := .ready, pending := none, fn, tmps := a'.tmps, params := ps, assign, body, defers := w.heap.size })) := ((Keep.refl B0 w).alloc hr.base _).alloc hr1.base _
  have ha2 : ARel (nset (nset m r ⟨w.heap.size, 0, 0⟩) l ⟨(w.alloc (.deferred (some []))).heap.size, 0, 0⟩) { a with defers := ⟨.collected r, #[]⟩ :: a.defers } { a' with defers := [{ target := .collected w.heap.size, args := #[] }] ++ a'.defers } :=
   ⟨ha.1.mono hle, .mark (hle2 _ _ nset_same) (ha.2.mono hle)⟩
  obtain ⟨d, f, args, h1, h2, h3, h4, h5⟩ := rangeCall_sound (n := n) (F := Fence.wide) (ro := none) rfl hr2 (hg.mono hle) nset_same hsz h
   (fun e w1 hl => rangeEnd_sound (F := Fence.wide) (n := n) (m0 := m) (H0 := H) (w0 := w) ((Ext.new hmr hHr).trans (Ext.new hml hHl)) hBw ha2 nset_same hl)
  rw [show (⟨(w.alloc (.deferred (some []))).heap.size, 0, 0⟩ : BInfo).blk = w.heap.size + 1 from hsz] at h5
  exact ⟨_, _, _, d, _, f, args, _, hent, h1, h2, h3, h4, h5⟩
 | some l0 =>
  obtain ⟨L0, hL0, h⟩ := h
  obtain ⟨f0, hm0, rfl⟩ := id hf
  have hblk := hr.blocks l0 _ f0 hL0 hm0
  obtain ⟨_, L', hheap, _⟩ := hblk
  have hent : (Instr.enterLoop fn a'.tmps ps assign body (some f0.blk)).run P w = .ok (w.heap.size, []) (w.alloc (.loop { state := .ready, pending := none, fn, tmps := a'.tmps, params := ps, assign, body, defers := L'.defers })) := by
   unfold Instr.enterLoop
   simp only [Sem.run_bind, run_getLoop hheap, run_newObj_alloc, Result.andThen, Sem.run_pure]
  obtain ⟨l, hml, hHl, h⟩ := hr.pick h
  have hr2 := hr.alloc hml hHl (.loop { state := .ready, pending := none, fn, tmps := a'.tmps, params := ps, assign, body, defers := L'.defers }) (.loop (newLoop a ps assign body)) ⟨w.heap.size, 0, 0⟩ rfl
   ⟨hr.newb, _, World.alloc_heap_new _ _, rfl, rfl, ha.1, rfl, rfl, rfl⟩
  have hle : m.le _ := nset_le (f := ⟨w.heap.size, 0, 0⟩) hml
  have hBw : Keep B0 w (w.alloc (.loop { state := .ready, pending := none, fn, tmps := a'.tmps, params := ps, assign, body, defers := L'.defers })) := (Keep.refl B0 w).alloc hr.base _
  have ha2 : ARel (nset m l ⟨w.heap.size, 0, 0⟩) a { a' with defers := [] ++ a'.defers } := ha.mono hle
  obtain ⟨d, f, args, h1, h2, h3, h4, h5⟩ := rangeCall_sound (n := n) (hf.mono hle) hr2 (hg.mono hle) nset_same rfl h
   (fun e w1 hl => rangeEnd_sound (F := Fence.wide.inRound f0.blk) (n := n) (m0 := m) (H0 := H) (w0 := w) (Ext.new hml hHl) hBw ha2 nset_same hl)
  exact ⟨_, _, _, d, _, f, args, _, hent, h1, h2, h3, h4, h5⟩
def setPs (τ : ATmps) : List (Tmp × Value) → ATmps
 | [] => τ
 | (t, v) :: l => setPs ⟨τ.n, fun s => if s = t then (if t < τ.n then some v else some undef) else τ.f s⟩ l
def endRound (l : Nat) (jump : Option Code) (H : AHeap) (R : ARes → AHeap → Prop) : Prop :=
 bindO (loopAt H l) fun L => R (.ret (.bool jump.isNone)) (upd H l (.loop { L with state := if jump.isNone then .ready else .done, pending := jump }))
def ARoundEnd (l : Nat) (R : ARes → AHeap → Prop) : AExit → AAct → AHeap → Prop
 | .normal, _, H => endRound l none H R
 | .ret, _, H => endRound l (some .ret) H R
 | .exit id, _, H => endRound l (some (.exit id)) H R
 | _, _, _ => False
def ARoundMid (P : Program) (l : Nat) (body : Code) (R : ARes → AHeap → Prop) : AExit → AAct → AHeap → Prop
 | .normal, a, H => bindO (loopAt H l) fun L => L.state = .ready ∧ AWp P (some l) body (ARoundEnd l R) a (upd H l (.loop { L with state := .busy }))
 | _, _, _ => False
theorem setPs_sound {l l' : List (Tmp × Value)} : ∀ {τ : ATmps} {tmps : Array Value}, TRel m τ tmps → l.map Prod.fst = l'.map Prod.fst → VsRel m (l.map Prod.snd) (l'.map Prod.snd) → TRel m (setPs τ l) (l'.foldl (fun tmps (t, a) => tmps.setIfInBounds t a) tmps) := by
 have _ := TT.tt
 induction l generalizing l' with
 | nil =>
  intro τ tmps h h1 h2
  cases l' with
  | nil => exact h
  | cons x l' => cases h1
 | cons x l ih =>
  intro τ tmps h h1 h2
  cases l' with
  | nil => cases h1
  | cons x' l' =>
   obtain ⟨t, v⟩ := x
   obtain ⟨t', v'⟩ := x'
   simp only [List.map_cons, List.cons.injEq] at h1 h2
   obtain ⟨rfl, h1⟩ := h1
   obtain ⟨v2, l2, e, hv, hl⟩ := VsRel.uncons h2
   cases e
   simp only [setPs, List.foldl_cons]
   refine ih ⟨by simpa using h.1, fun s u hs => ?_⟩ h1 hl
   simp only at hs
   have hsz := h.1
   split at hs
   · rename_i e
     subst e
     split at hs
     · rename_i hlt
       cases hs
       have hlt' : s < tmps.size := by rw [hsz]; exact hlt
       simpa [Array.getD, hlt'] using hv
     · rename_i hlt
       cases hs
       have hlt' : ¬ s < tmps.size := by rw [hsz]; exact hlt
       simp only [Array.getD, Array.size_setIfInBounds, hlt', dif_neg, not_false_eq_true]
       exact .tuple .nil .nil
   · rename_i e
     have := h.2 s u hs
     rw [Array.getD_eq_getD_getElem?] at this ⊢
     rwa [Array.getElem?_setIfInBounds_ne (Ne.symm e)]
theorem loop_put (hr : Rel P B0 m H w) {l : Nat} {fl : BInfo} {L : ALoop} {L' : Loop} (hH : H l = some (.loop L)) (hm : m l = some fl) (hheap : w.heap[fl.blk]? = some (.loop L')) (st : LoopState) (jump : Option Code) :
    Rel P B0 m (upd H l (.loop { L with state := st, pending := jump })) (w.putObj fl.blk (.loop { L' with state := st, pending := jump })) := by
 obtain ⟨hB, L2, hheap2, h1, h2, h3, h4, h5, h6⟩ := hr.blocks l _ fl hH hm
 rw [hheap] at hheap2
 cases hheap2
 refine hr.put hH hm rfl (by simp) (fun k hk _ => World.putObj_heap_other hk) ⟨hB, _, World.putObj_heap_same (Array.getElem?_eq_some_iff.1 hheap).1, rfl, rfl, h3, h4, h5, h6⟩
theorem endRound_sound {m0 : NMap} {H0 : AHeap} {w0 : World} {l : Nat} {fl : BInfo} (hm0 : Ext m0 H0 m H) (hB0 : Keep B0 w0 w) (hr : Rel P B0 m H w) (hm : m l = some fl) (jump : Option Code) (h : endRound l jump H R) :
    ∃ v w', (Instr.endRound fl.blk jump).run P w = .ok v w' ∧ LiftR P B0 m0 H0 w0 R (.returned v) w' := by
 obtain ⟨L, hL, hR⟩ := h
 have hL := loopAt_some hL
 obtain ⟨hB, L', hheap, _⟩ := hr.blocks l _ fl hL hm
 exact ⟨_, _, run_endRound jump hheap, _, _, m, hR, hm0.trans (Ext.upd _ _ _ _), loop_put hr hL hm hheap _ _, hB0.trans (below_putObj hB _), _, rfl, .of_atomic rfl⟩
theorem SRound_of_AWp {l : Nat} {args : List Value} {L : ALoop} (hL : H l = some (.loop L)) (hlen : args.length = L.params.size)
    (h : AWp P (some l) L.assign (ARoundMid P l L.body R) ⟨L.tmps.n, (setPs L.tmps (L.params.toList.zip args)).f, []⟩ H) : SRound P l args H R := by
 intro B0 m w args' fl hr hl hv
 obtain ⟨hB, L', hheap, hs, hp, ht, hps, has, hbd⟩ := hr.blocks l _ fl hL hl
 refine ⟨L', hheap, by rw [hv.length, hps]; exact hlen, fun n => roundIn_of_wpIn trivial ?_⟩
 have hn : (setPs L.tmps (L.params.toList.zip args)).n = L.tmps.n := by
  generalize L.params.toList.zip args = z
  generalize L.tmps = τ
  induction z generalizing τ with
  | nil => rfl
  | cons x z ih => obtain ⟨t, v⟩ := x; simp only [setPs]; rw [ih]
 have hlen' : args'.length = L.params.size := by rw [hv.length]; exact hlen
 have htm : ARel m ⟨L.tmps.n, (setPs L.tmps (L.params.toList.zip args)).f, []⟩ { tmps := (L'.params.zip ⟨args'⟩).foldl (fun tmps (t, a) => tmps.setIfInBounds t a) L'.tmps, defers := [] } := by
  refine ⟨?_, .nil⟩
  rw [hps]
  have e1 : (L.params.zip (⟨args'⟩ : Array Value)).foldl (fun tmps (t, a) => tmps.setIfInBounds t a) L'.tmps = (L.params.toList.zip args').foldl (fun tmps (t, a) => tmps.setIfInBounds t a) L'.tmps := by
   rw [← Array.foldl_toList, Array.toList_zip]
  rw [e1]
  have hz1 : (L.params.toList.zip args).map Prod.fst = L.params.toList := List.map_fst_zip (by simp [hlen])
  have hz2 : (L.params.toList.zip args').map Prod.fst = L.params.toList := List.map_fst_zip (by simp [hlen'])
  have hz3 : (L.params.toList.zip args).map Prod.snd = args := List.map_snd_zip (by simp [hlen])
  have hz4 : (L.params.toList.zip args').map Prod.snd = args' := List.map_snd_zip (by simp [hlen'])
  have := setPs_sound (m := m) (l := L.params.toList.zip args) (l' := L.params.toList.zip args') ht (by rw [hz1, hz2]) (by rw [hz3, hz4]; exact hv)
  rw [← hn]
  exact this
 rw [has, hbd]
 refine wpIn_mono (h B0 m w _ (Fence.wide.inRound fl.blk) hr htm ⟨fl, hl, rfl⟩ n) ?_
 rintro e a1 w1 ⟨x, a2, H2, m2, hq, hm2, hr2, ha2, hB2, hx⟩
 cases x with
 | normal =>
  cases hx
  obtain ⟨L2, hL2, hst, hbody⟩ := hq
  have hL2 := loopAt_some hL2
  have hl2 := hm2.le _ _ hl
  obtain ⟨hB3, L3, hheap3, hs3, hp3, _⟩ := hr2.blocks l _ fl hL2 hl2
  refine ⟨_, run_beginRound hheap3 (hs3.trans hst), ?_⟩
  have hr3 := loop_put hr2 hL2 hl2 hheap3 .busy L3.pending
  have hr3' : Rel P B0 m2 (upd H2 l (.loop { L2 with state := .busy })) (w1.putObj fl.blk (.loop { L3 with state := .busy })) := by
   rw [hp3] at hr3
   have : L3 = { L3 with pending := L2.pending } := by rw [← hp3]
   rw [this]
   exact hr3
  have hBB := hB2.trans (below_putObj hB3 (.loop { L3 with state := .busy }))
  refine wpIn_mono (hbody B0 m2 _ a1 (Fence.wide.inRound fl.blk) hr3' ha2 ⟨fl, hl2, rfl⟩ n) ?_
  rintro e4 a4 w4 ⟨x4, a4', H4, m4, hq4, hm4, hr4, ha4, hB4, hx4⟩
  have hmm := (hm2.trans (Ext.upd _ _ _ _)).trans hm4
  have hBBB := hBB.trans hB4
  cases x4 with
  | normal => cases hx4; exact endRound_sound hmm hBBB hr4 (hmm.le _ _ hl) none hq4
  | ret => cases hx4; exact endRound_sound hmm hBBB hr4 (hmm.le _ _ hl) _ hq4
  | exit id => cases hx4; exact endRound_sound hmm hBBB hr4 (hmm.le _ _ hl) _ hq4
  | goto t => exact hq4.elim
  | panic v => exact hq4.elim
 | _ => exact hq.elim
end
end Go.Ab
namespace Go.Ab
open Go Go.RowKit
variable [TT]
def LiftQS (P : Program) (B0 : Prot) (m : NMap) (H : AHeap) (w : World) (Q : AExit → AMode → AAct → AHeap → Prop) (c0 : Frame) (cs : List Frame) : Exit → Act → List Frame → World → Prop := fun e a' cs' w' =>
 ∃ x u a H' m' u', Q x u a H' ∧ Ext m H m' H' ∧ Rel P B0 m' H' w' ∧ ARel m' a a' ∧ Keep B0 w w' ∧ ExRel m' x e ∧ MRel m' u u' ∧ cs' = { c0 with mode := u' } :: cs
def AWpS (P : Program) (c : Code) (Q : AExit → AMode → AAct → AHeap → Prop) (u : AMode) (a : AAct) (H : AHeap) : Prop :=
 ∀ (B0 : Prot) (m : NMap) (w : World) (a' : Act) (c0 : Frame) (cs : List Frame) (u' : FrameMode), Rel P B0 m H w → ARel m a a' → MRel m u u' → ∀ n, c.wpSIn Fence.wide n P (LiftQS P B0 m H w Q c0 cs) a' ({ c0 with mode := u' } :: cs) w
def AThenS (K : AMode → AAct → AHeap → Prop) (Q : AExit → AMode → AAct → AHeap → Prop) : AExit → AMode → AAct → AHeap → Prop
 | .normal, u, a, H => K u a H
 | e, u, a, H => Q e u a H
def ASOps (P : Program) (ops : Array Oper) (Q : AExit → AMode → AAct → AHeap → Prop) : List Nat → AMode → AAct → AHeap → Prop
 | [], u, a, H => Q .normal u a H
 | i :: rest, u, a, H =>
  match ops[i]? with
  | none => ASOps P ops Q rest u a H
  | some o => o.guard = none ∧
      match o.op with
      | .call ⟨.builtin .recover, _, _⟩ =>
       match u with
       | .pan v => ASOps P ops Q rest .caught (a.put o.dst v) H
       | _ => ASOps P ops Q rest u (a.put o.dst .nilIface) H
      | op => bindO (aPure P (a.eval P) H op) fun v => ASOps P ops Q rest u (a.put o.dst v) H
def ABodyS (P : Program) (fn : Func) (R : Value → AMode → AHeap → Prop) : AExit → AMode → AAct → AHeap → Prop
 | .normal, u, a, H | .ret, u, a, H => a.defers = [] ∧ bindO (aResults P fn a H) fun v => R v u H
 | _, _, _, _ => False
section
variable {P : Program} {B0 : Prot} {m : NMap} {H : AHeap} {w w' : World} {a : AAct} {a' : Act} {u : AMode} {Q Q' : AExit → AMode → AAct → AHeap → Prop}
theorem MRel.mono {m' : NMap} {u' : FrameMode} (h : m.le m') (hu : MRel m u u') : MRel m' u u' := by
 have _ := TT.tt
 cases u with
 | ret => exact hu
 | pan v => obtain ⟨v', e, hv⟩ := hu; exact ⟨v', e, hv.mono h⟩
 | caught => exact hu
theorem LiftQS.trans {m1 : NMap} {H1 : AHeap} {w1 w2 : World} {c0 : Frame} {u1 : FrameMode} {cs cs' : List Frame} {e : Exit} (hm : Ext m H m1 H1) (hb : Keep B0 w w1) (h : LiftQS P B0 m1 H1 w1 Q { c0 with mode := u1 } cs e a' cs' w2) : LiftQS P B0 m H w Q c0 cs e a' cs' w2 := by
 obtain ⟨x, u, a, H', m', u', hq, hmm, hr, ha, hB, hx, hu, hcs⟩ := h
 exact ⟨x, u, a, H', m', u', hq, hm.trans hmm, hr, ha, hb.trans hB, hx, hu, hcs⟩
theorem wpSIn_mono {F : Fence} {n : Nat} {c : Code} {Q1 Q2 : Exit → Act → List Frame → World → Prop} {cs : List Frame} (h : c.wpSIn F n P Q1 a' cs w) (hq : ∀ e a cs w, Q1 e a cs w → Q2 e a cs w) : c.wpSIn F n P Q2 a' cs w := have _ := TT.tt;
 fun b k h1 h2 h3 h4 => let ⟨e, a', cs', w', l, q, r⟩ := h b k h1 h2 h3 h4; ⟨e, a', cs', w', l, hq _ _ _ _ q, r⟩
theorem AWpS.mono {c : Code} (h : AWpS P c Q u a H) (hq : ∀ e u a H, Q e u a H → Q' e u a H) : AWpS P c Q' u a H :=
 fun B0 m w a' c0 cs u' h1 h2 h3 n => wpSIn_mono (h B0 m w a' c0 cs u' h1 h2 h3 n) fun _ _ _ _ ⟨x, u, a, H', m', u', q, r⟩ => ⟨x, u, a, H', m', u', hq _ _ _ _ q, r⟩
theorem AWpS_of {c : Code} (h : AWp P none c (fun e a H => Q e u a H) a H) : AWpS P c Q u a H :=
 fun B0 m w a' _ _ u' hr ha hu n => wpSIn_of_wpIn rfl (wpIn_mono (h B0 m w a' Fence.wide hr ha rfl n) fun _ _ _ ⟨x, a, H', m', q, hm, hr, ha, hB, hx⟩ =>
  ⟨x, u, a, H', m', u', q, hm, hr, ha, hB, hx, hu.mono hm.le, rfl⟩)
theorem AWpS_seq {x y : Code} (h : AWpS P x (AThenS (AWpS P y Q) Q) u a H) : AWpS P (.seq x y) Q u a H := by
 intro B0 m w a' c0 cs u' hr ha hu n
 refine wpSIn_seq (wpSIn_mono (h B0 m w a' c0 cs u' hr ha hu n) ?_)
 rintro e a1 cs1 w1 ⟨x, u2, a2, H', m', u2', hq, hm, hr', ha', hB, hx, hu', hcs⟩
 subst hcs
 cases x with
 | normal =>
  cases hx
  exact wpSIn_mono (hq B0 m' w1 a1 c0 cs u2' hr' ha' hu' n) fun _ _ _ _ hl => LiftQS.trans (u1 := c0.mode) hm hB hl
 | exit id => cases hx; exact ⟨.exit id, u2, a2, H', m', u2', hq, hm, hr', ha', hB, rfl, hu', rfl⟩
 | goto l => cases hx; exact ⟨.goto l, u2, a2, H', m', u2', hq, hm, hr', ha', hB, rfl, hu', rfl⟩
 | ret => cases hx; exact ⟨.ret, u2, a2, H', m', u2', hq, hm, hr', ha', hB, rfl, hu', rfl⟩
 | panic v =>
  obtain ⟨v', rfl, hv⟩ := hx
  exact ⟨.panic v, u2, a2, H', m', u2', hq, hm, hr', ha', hB, ⟨v', rfl, hv⟩, hu', rfl⟩
theorem AWpS_cond {c : Operand} {x y : Code} {b : Bool} (hc : a.eval P c = some (.bool b)) (ht : b = true → AWpS P x Q u a H) (hf : b = false → AWpS P y Q u a H) : AWpS P (.cond c x y) Q u a H := by
 intro B0 m w a' c0 cs u' hr ha hu n
 have hb := (eval_sound hr ha hc).bool_inv
 cases b with
 | true => exact wpSIn_cond hb (ht rfl B0 m w a' c0 cs u' hr ha hu n)
 | false => exact wpSIn_cond hb (hf rfl B0 m w a' c0 cs u' hr ha hu n)
theorem ASOps_sound {ops : Array Oper} {n : Nat} {m0 : NMap} {H0 : AHeap} {w0 : World} {c0 : Frame} {cs : List Frame} (l : List Nat) : ∀ {m : NMap} {w : World} {a : AAct} {a' : Act} {H : AHeap} {u : AMode} {u' : FrameMode}, Ext m0 H0 m H → Keep B0 w0 w → Rel P B0 m H w → ARel m a a' → MRel m u u' →
    ASOps P ops Q l u a H → wpOpsSIn Fence.wide n P ops (LiftQS P B0 m0 H0 w0 Q c0 cs) l a' ({ c0 with mode := u' } :: cs) w := by
 induction l with
 | nil => exact fun hm0 hB0 hr ha hu h => ⟨.normal, _, _, _, _, _, h, hm0, hr, ha, hB0, rfl, hu, rfl⟩
 | cons i rest ih =>
  intro m w a a' H u u' hm0 hB0 hr ha hu h
  simp only [ASOps] at h
  simp only [wpOpsSIn]
  cases ho : ops[i]? with
  | none =>
   rw [ho] at h
   exact ih hm0 hB0 hr ha hu h
  | some o =>
   rw [ho] at h
   simp only at h ⊢
   obtain ⟨hg, h⟩ := h
   have hw : Region.wanted o (yielded ops a'.tmps) = true := by simp [Region.wanted, hg]
   rw [hw]
   simp only [if_true]
   refine ⟨fun _ _ => trivial, ?_⟩
   obtain ⟨dst, op, ty, pos, aft, gd⟩ := o
   simp only at h hg ⊢
   split at h
   · rename_i args ats
     have hrun : (execOp a'.eval ⟨dst, .call ⟨.builtin .recover, args, ats⟩, ty, pos, aft, gd⟩).run P w = .ok .recover w := by
      simp [execOp, resolve, invoke, builtin]
     rw [hrun]
     simp only
     split at h
     · rename_i v
       obtain ⟨v', rfl, hv⟩ := hu
       simp only [recoverD]
       exact ih (u := .caught) hm0 hB0 hr (put_sound ha hv) ⟨v', rfl⟩ h
     · rename_i hnp
       have hn : recoverD ({ c0 with mode := u' } :: cs) = none := by
        cases u with
        | ret => cases hu; rfl
        | pan v => exact absurd rfl (hnp v)
        | caught => obtain ⟨v', rfl⟩ := hu; rfl
       rw [hn]
       exact ih hm0 hB0 hr (put_sound ha (.of_atomic rfl)) hu h
   · obtain ⟨v, hv, h⟩ := h
     obtain ⟨v', h1, h2⟩ := aPure_sound (o := ⟨dst, op, ty, pos, aft, gd⟩) hr ha hv
     rw [h1]
     exact ih hm0 hB0 hr (put_sound ha h2) hu h
theorem AWpS_region {id : Nat} {ops : Array Oper} (h : ASOps P ops Q (List.range ops.size) u a H) : AWpS P (.region id ops false) Q u a H :=
 fun _ m _ _ _ _ _ hr ha hu _ => wpSIn_region (ASOps_sound _ (Ext.refl m _) (Keep.refl _ _) hr ha hu h)
theorem SDCalls_of_AWpS {R : Value → AMode → AHeap → Prop} {f : FuncId} {fn : Func} {c : Code} {args : List Value} (hf : P.funcs[f]? = some fn) (hb : fn.body = some c)
    (h : AWpS P c (ABodyS P fn R) u (aEntry args fn.ntmps) H) : SDCalls P f args u H R := by
 intro B0 m w args' u' hr hv hu n
 refine callsDIn_of_wpSIn hf hb trivial fun c0 cs hc0 => ?_
 subst hc0
 refine wpSIn_mono (h B0 m w _ c0 cs c0.mode hr (entry_sound hv _) hu n) ?_
 rintro e a1 cs1 w1 ⟨x, u2, a2, H', m', u2', hq, hm, hr', ha', hB, hx, hu', hcs⟩
 have key : ∀ (hd : a2.defers = []) (hv : bindO (aResults P fn a2 H') fun v => R v u2 H'), a1.defers = [] ∧ ∃ u', cs1 = { c0 with mode := u' } :: cs ∧ ∃ v, (results fn a1.tmps).run P w1 = .ok v w1 ∧
     ∃ v2 v' u2 H' m', R v2 u2 H' ∧ Ext m H m' H' ∧ Rel P B0 m' H' w1 ∧ Keep B0 w w1 ∧ Ending.returned v = .returned v' ∧ VRel m' v2 v' ∧ MRel m' u2 u' := by
  rintro hd ⟨v, hv, hR⟩
  obtain ⟨v', h1, h2⟩ := results_sound hr' ha'.1 hv
  have hd' := ha'.2
  rw [hd] at hd'
  have : a1.defers = [] := by
   generalize hg : a1.defers = x at hd'
   cases hd'
   rfl
  exact ⟨this, u2', hcs, v', h1, v, v', u2, H', m', hR, hm, hr', hB, rfl, h2, hu'⟩
 cases x with
 | normal => cases hx; exact key hq.1 hq.2
 | ret => cases hx; exact key hq.1 hq.2
 | _ => exact hq.elim
end
end Go.Ab
namespace Go.Ab
open Go Go.RowKit
variable [TT]
section
variable {P : Program} {H : AHeap} {ρ ρ' : Operand → Option Value}
theorem evs_congr {l : List Operand} (h : ∀ x ∈ l, ρ x = ρ' x) : evs ρ l = evs ρ' l := by
 have _ := TT.tt
 induction l with
 | nil => rfl
 | cons x l ih =>
  simp only [evs]
  rw [h x (by simp), ih fun y hy => h y (by simp [hy])]
theorem evps_congr {l : List (Nat × Operand)} (h : ∀ x ∈ l.map (·.2), ρ x = ρ' x) : evps ρ l = evps ρ' l := by
 have _ := TT.tt
 induction l with
 | nil => rfl
 | cons x l ih =>
  obtain ⟨i, x⟩ := x
  simp only [evps]
  rw [h x (by simp), ih fun y hy => h y (by simp only [List.map_cons, List.mem_cons]; exact .inr hy)]
theorem oev_congr {o : Option Operand} (h : ∀ x ∈ o, ρ x = ρ' x) : oev ρ o = oev ρ' o := by
 have _ := TT.tt
 cases o with
 | none => rfl
 | some x => simp only [oev]; rw [h x rfl]
theorem aPure_congr {op : Op} (h : ∀ x ∈ op.operands, ρ x = ρ' x) : aPure P ρ H op = aPure P ρ' H op := by
 cases op with
 | makeFunc fn first cap =>
  simp only [Op.operands] at h
  simp only [aPure]
  rw [evs_congr (l := first.toList) fun x hx => h x (by simp at hx ⊢; exact .inl hx), evs_congr (l := cap.toList) fun x hx => h x (by simp at hx ⊢; exact .inr hx)]
 | build t parts =>
  simp only [Op.operands] at h
  simp only [aPure]
  rw [evps_congr (l := parts.toList) fun x hx => h x (by simpa using hx)]
 | slice t x lo hi mx =>
  simp only [Op.operands] at h
  cases mx with
  | none =>
   simp only [aPure]
   rw [h x (by simp), oev_congr (o := lo) fun y hy => h y (by cases hy; simp), oev_congr (o := hi) fun y hy => h y (by cases hy; simp)]
  | some m => cases hi with
   | none => rfl
   | some hi =>
    simp only [aPure]
    rw [h x (by simp), oev_congr (o := lo) fun y hy => h y (by cases hy; simp), h hi (by simp), h m (by simp)]
 | call c =>
  obtain ⟨callee, args, ats⟩ := c
  obtain ⟨args⟩ := args
  simp only [Op.operands, Call.operands] at h
  cases callee with
  | builtin b =>
   have hx : ∀ x ∈ args, ρ x = ρ' x := fun x hx => h x (by simp [hx])
   cases b <;> try rfl
   all_goals
    simp only [aPure]
    match args, hx with
    | [], _ => rfl
    | [x], hx => have e := hx x (by simp); first | rfl | (rw [e]; done) | (split <;> first | rfl | (rename_i h1 _; cases h1; rw [e]) | (rename_i h1; cases h1; rw [e]))
    | [x, y], hx => first | rfl | (simp only [hx x (by simp), hx y (by simp)])
    | [x, y, z], hx => first | rfl | (simp only [hx x (by simp), hx y (by simp), hx z (by simp)])
    | x :: y :: z :: u :: l, _ => rfl
  | _ => rfl
 | pick c x y =>
  simp only [Op.operands] at h
  simp only [aPure]
  rw [h c (by simp), h x (by simp), h y (by simp)]
 | binOp _ _ x y _ =>
  simp only [Op.operands] at h
  simp only [aPure]
  rw [h x (by simp), h y (by simp)]
 | indexAddr _ x y =>
  simp only [Op.operands] at h
  simp only [aPure]
  rw [h x (by simp), h y (by simp)]
 | index _ x y =>
  simp only [Op.operands] at h
  simp only [aPure]
  rw [h x (by simp), h y (by simp)]
 | lookup _ x y _ =>
  simp only [Op.operands] at h
  simp only [aPure]
  rw [h x (by simp), h y (by simp)]
 | _ => first | rfl | (simp only [Op.operands] at h; simp only [aPure]; rw [h _ (by simp)])
theorem aAlloc_congr {op : Op} (h : ∀ x ∈ op.operands, ρ x = ρ' x) : aAlloc P ρ op = aAlloc P ρ' op := by
 cases op with
 | buildSlice t n parts =>
  simp only [Op.operands] at h
  simp only [aAlloc]
  rw [evps_congr (l := parts.toList) fun x hx => h x (by simpa using hx)]
 | makeMap t r =>
  cases r with
  | none => rfl
  | some x =>
   simp only [Op.operands] at h
   simp only [aAlloc]
   rw [h x (by simp)]
 | makeSlice _ x y =>
  simp only [Op.operands] at h
  simp only [aAlloc]
  rw [h x (by simp), h y (by simp)]
 | _ => first | rfl | (simp only [Op.operands] at h; simp only [aAlloc]; rw [h _ (by simp)])
theorem bindO_congr {α : Type} {o o' : Option α} {k k' : α → Prop} (e : o = o') (h : ∀ x, k x → k' x) (hh : bindO o k) : bindO o' k' := by
 have _ := TT.tt
 obtain ⟨x, h1, h2⟩ := hh
 exact ⟨x, e ▸ h1, h x h2⟩
theorem ACall_mono {fv : Value} {vs : List Value} {R R' : ARes → AHeap → Prop} (hr : ∀ r H', R r H' → R' r H') (h : ACall P fv vs H R) : ACall P fv vs H R' := by
 unfold ACall at h
 split at h
 · exact ⟨h.1, h.2.mono hr⟩
 · exact h.mono hr
 · split at h
   · rename_i e
     simp only [ACall, e]
     obtain ⟨u, h1, h2, h3⟩ := h
     exact ⟨u, h1, h2, h3.mono hr⟩
   · exact h.elim
 · exact h.elim
theorem AInvoke_mono {fv : Value} {name : String} {vs : List Value} {R R' : ARes → AHeap → Prop} (hr : ∀ r H', R r H' → R' r H') (h : AInvoke P fv name vs H R) : AInvoke P fv name vs H R' := by
 unfold AInvoke at h
 split at h
 · obtain ⟨f, u, h1, h2, h3⟩ := h; exact ⟨f, u, h1, h2, h3.mono hr⟩
 · exact h.elim
theorem AOp_congr {ro : Option Nat} {a a2 : AAct} {op : Op} {dst : Option Tmp} {K K2 : AAct → AHeap → Prop} {X X2 : Value → AHeap → Prop} (h : ∀ x ∈ op.operands, a.eval P x = a2.eval P x) (hd : a.defers = a2.defers)
    (hK : ∀ v ds H', K ({ a with defers := ds }.put dst v) H' → K2 ({ a2 with defers := ds }.put dst v) H') (hX : ∀ v H', X v H' → X2 v H') (hh : AOp P ro a H dst op K X) : AOp P ro a2 H dst op K2 X2 := by
 have hK1 : ∀ v H', K (a.put dst v) H' → K2 (a2.put dst v) H' := fun v H' hk => by
  have := hK v a.defers H' hk
  rw [hd] at this
  exact this
 have hres : ∀ r H', onRes (fun v H' => K (a.put dst v) H') X r H' → onRes (fun v H' => K2 (a2.put dst v) H') X2 r H' := by
  intro r H' h
  cases r with
  | ret v => exact hK1 v H' h
  | pan v => exact hX v H' h
 unfold AOp at hh ⊢
 rw [← aPure_congr h, ← aAlloc_congr h]
 split
 · rename_i v e
   rw [e] at hh
   exact hK1 v H hh
 · rename_i e
   rw [e] at hh
   simp only at hh
   split
   · rename_i b mk e2
     rw [e2] at hh
     exact hh.mono fun i hi => hK1 _ _ hi
   · rename_i e2
     rw [e2] at hh
     simp only at hh
     cases op with
     | store t x y =>
      simp only [Op.operands] at h
      refine bindO_congr (h x (by simp)) (fun u hu => bindO_congr (h y (by simp)) (fun v hv => ?_) hu) hh
      split at hv
      · exact ⟨hv.1, bindO_congr rfl (fun b hb => hK1 _ _ hb) hv.2⟩
      · exact hv.elim
     | mapUpdate t x k y =>
      simp only [Op.operands] at h
      exact bindO_congr (h x (by simp)) (fun u hu => bindO_congr (h k (by simp)) (fun u hu => bindO_congr (h y (by simp)) (fun u hu => bindO_congr rfl (fun r hr => hK1 _ _ hr) hu) hu) hu) hh
     | insert t x k y =>
      simp only [Op.operands] at h
      exact bindO_congr (h x (by simp)) (fun u hu => bindO_congr (h k (by simp)) (fun u hu => bindO_congr (h y (by simp)) (fun u hu => bindO_congr rfl (fun r hr => hK1 _ _ hr) hu) hu) hu) hh
     | range t x =>
      simp only [Op.operands] at h
      exact bindO_congr (h x (by simp)) (fun u hu => bindO_congr rfl (fun r hr => pick.mono hr fun j h => hK1 _ _ h) hu) hh
     | next x st =>
      simp only [Op.operands] at h
      cases st with
      | true => exact hh.elim
      | false => exact bindO_congr (h x (by simp)) (fun u hu => ANext.mono (fun v H' hv => hK1 _ _ hv) hu) hh
     | entry x =>
      simp only [Op.operands] at h
      exact bindO_congr (h x (by simp)) (fun u hu => bindO_congr rfl (fun v hv => hK1 _ _ hv) hu) hh
     | panic x =>
      simp only [Op.operands] at h
      refine bindO_congr (h x (by simp)) (fun u hu => ?_) hh
      split at hu
      · exact hX _ _ hu
      · exact hu.elim
     | defer c =>
      obtain ⟨callee, args, ats⟩ := c
      cases callee with
      | value f =>
       simp only [Op.operands, Call.operands] at h
       refine ⟨hh.1, bindO_congr (h f (by simp)) (fun u hu => bindO_congr (evs_congr (l := args.toList) fun x hx => h x (by simp at hx; simp [hx])) (fun v hv => ?_) hu) hh.2⟩
       split at hv
       · rw [← hd]
         exact hK _ _ _ hv
       · exact hv.elim
      | _ => exact hh.2.elim
     | call c =>
      obtain ⟨callee, args, ats⟩ := c
      cases callee with
      | value f =>
       simp only [Op.operands, Call.operands] at h
       exact bindO_congr (h f (by simp)) (fun u hu => bindO_congr (evs_congr (l := args.toList) fun x hx => h x (by simp at hx; simp [hx])) (fun v hv => ACall_mono hres hv) hu) hh
      | invoke r name =>
       simp only [Op.operands, Call.operands] at h
       exact bindO_congr (h r (by simp)) (fun u hu => bindO_congr (evs_congr (l := args.toList) fun x hx => h x (by simp at hx; simp [hx])) (fun v hv => AInvoke_mono hres hv) hu) hh
      | builtin b =>
       obtain ⟨args⟩ := args
       obtain ⟨ats⟩ := ats
       simp only [Op.operands, Call.operands] at h
       have hx : ∀ x ∈ args, a.eval P x = a2.eval P x := fun x hx => h x (by simp [hx])
       cases b with
       | append =>
        simp only [AEff] at hh ⊢
        split
        · rename_i x y t t'
          refine ⟨hh.1, bindO_congr (hx x (by simp)) (fun u hu => bindO_congr (hx y (by simp)) (fun v hv => bindO_congr rfl (fun r hr => ?_) hv) hu) hh.2⟩
          cases r with
          | same v => exact hK1 _ _ hr
          | inpl v i b => exact hK1 _ _ hr
          | grow H' n b => exact pick.mono hr fun j h => hK1 _ _ h
        · rename_i hne
          split at hh
          · exact absurd rfl (hne _ _ _ _ rfl)
          · exact hh.elim
       | copy =>
        simp only [AEff] at hh ⊢
        split
        · rename_i x y t t'
          exact bindO_congr (hx x (by simp)) (fun u hu => bindO_congr (hx y (by simp)) (fun v hv => bindO_congr rfl (fun r hr => hK1 _ _ hr) hv) hu) hh
        · rename_i hne
          split at hh
          · exact absurd rfl (hne _ _ _ _ rfl)
          · exact hh.elim
       | clear =>
        simp only [AEff] at hh ⊢
        split
        · rename_i x t
          exact bindO_congr (hx x (by simp)) (fun u hu => bindO_congr rfl (fun r hr => hK1 _ _ hr) hu) hh
        · rename_i hne
          split at hh
          · exact absurd rfl (hne _ _ rfl)
          · exact hh.elim
       | panic =>
        simp only [AEff] at hh ⊢
        split
        · rename_i x
          refine bindO_congr (hx x (by simp)) (fun u hu => ?_) hh
          split at hu
          · exact hX _ _ hu
          · exact hu.elim
        · rename_i hne
          split at hh
          · exact absurd rfl (hne _)
          · exact hh.elim
       | _ => exact hh.elim
     | _ => exact hh.elim
def reads : Op → Bool
 | .load _ _ | .call _ | .lookup _ _ _ _ | .slice _ _ _ _ _ => true
 | _ => false
theorem aPure_noread {op : Op} {H' : AHeap} (h : reads op = false) : aPure P ρ H op = aPure P ρ H' op := by
 have _ := TT.tt
 cases op with
 | _ => first | rfl | (simp [reads] at h)
end
end Go.Ab
namespace Go.Ab
open Go Go.RowKit
variable [TT]
def depsOf (ops : Array Oper) (i : Nat) : List Nat :=
 match ops[i]? with
 | some o => (o.after.toList.filter (Region.binds .any)).map (·.on)
 | none => []
def dstOf (ops : Array Oper) (i : Nat) : Option Tmp := (ops[i]?).bind (·.dst)
def looks (ops : Array Oper) (i : Nat) : List Tmp :=
 match ops[i]? with
 | some o => o.looksAt ops
 | none => []
def ancOf (ops : Array Oper) : Nat → List Nat → List Nat
 | 0, S => S
 | k + 1, S => ancOf ops k (S ++ ((S.flatMap (depsOf ops)).filter fun j => !S.contains j).eraseDups)
def isFloat : Op → Bool
 | .move _ | .assign _ | .pick _ _ _ | .load _ _ | .nilCheck _ | .binOp _ _ _ _ _ | .unOp _ _ _ | .convert _ _ _ | .makeInterface _ _ | .makeFunc _ _ _ | .fieldAddr _ _ _ | .field _ _ _
 | .indexAddr _ _ _ | .index _ _ _ | .lookup _ _ _ _ | .extract _ _ | .typeAssert _ _ _ _ | .slice _ _ _ _ _ | .build _ _ => true
 | .call c => match c.callee with
  | .builtin .len | .builtin .min | .builtin .max => true
  | _ => false
 | _ => false
def floatAt (ops : Array Oper) (i : Nat) : Bool := match ops[i]? with | some o => isFloat o.op | none => false
def readsAt (ops : Array Oper) (i : Nat) : Bool := match ops[i]? with | some o => isFloat o.op && reads o.op | none => false
def readyB (ops : Array Oper) (D : List Nat) (i : Nat) : Bool := !D.contains i && (depsOf ops i).all D.contains
def readyL (ops : Array Oper) (D : List Nat) : List Nat := (List.range ops.size).filter (readyB ops D)
def Again (P : Program) (ops : Array Oper) (y : Nat) (a : AAct) (H : AHeap) : List Nat → Prop
 | [] => True
 | i :: D => (readsAt ops i = true → (ancOf ops ops.size (depsOf ops y)).contains i = false →
     match ops[i]? with
     | some o => match o.dst with
      | some d => aWanted ops a o = some true → aPure P (a.eval P) H o.op = a.f d
      | none => False
     | none => False) ∧ Again P ops y a H D
def asg (ops : Array Oper) (T : List Nat) (V : Nat → Value) (a : AAct) : AAct :=
 { a with f := fun t => match T.find? (fun z => dstOf ops z == some t) with | some z => if t < a.n then some (V z) else some undef | none => a.f t }
section
variable {P : Program} {ro : Option Nat} {ops : Array Oper} {Q : AExit → AAct → AHeap → Prop} {ai : AAct} {ds : List Deferred} {D T : List Nat} {V : Nat → Value} {H : AHeap}
theorem asg_V {V' : Nat → Value} (h : ∀ i ∈ T, V' i = V i) : asg ops T V' ai = asg ops T V ai := by
 have _ := TT.tt
 unfold asg
 congr 1
 funext t
 cases hf : T.find? (fun z => dstOf ops z == some t) with
 | none => rfl
 | some z => simp only [h z (List.mem_of_find?_eq_some hf)]
def vset (V : Nat → Value) (i : Nat) (v : Value) : Nat → Value := fun j => if j = i then v else V j
theorem put_asg {i : Nat} {o : Oper} {v : Value} (ho : ops[i]? = some o) (hi : i ∉ T) : ({ asg ops T V ai with defers := ds } : AAct).put o.dst v = { asg ops (i :: T) (vset V i v) ai with defers := ds } := by
 have hV : asg ops T (vset V i v) ai = asg ops T V ai := asg_V fun j hj => by
  have : j ≠ i := by rintro rfl; exact hi hj
  simp [vset, this]
 rw [← hV]
 have hd : dstOf ops i = o.dst := by simp [dstOf, ho]
 cases hdst : o.dst with
 | none =>
  rw [hdst] at hd
  simp only [AAct.put, asg, List.find?_cons, hd]
  rfl
 | some d =>
  rw [hdst] at hd
  simp only [AAct.put, asg, List.find?_cons, hd]
  congr 1
  funext t
  by_cases e : t = d
  · subst e
    simp [vset]
    rfl
  · have : (some d == some t) = false := by simp; exact Ne.symm e
    simp [e, this]
def OrdD (ops : Array Oper) : List Nat → Prop
 | [] => True
 | x :: D => (∀ j ∈ depsOf ops x, j ∈ D) ∧ OrdD ops D
theorem OrdD.first (h : OrdD ops D) (hex : ∃ i ∈ D, i ∉ T) : ∃ i ∈ D, i ∉ T ∧ ∀ j ∈ depsOf ops i, j ∈ T := by
 have _ := TT.tt
 induction D with
 | nil => obtain ⟨i, hi, _⟩ := hex; cases hi
 | cons x D ih =>
  by_cases hd : ∃ i ∈ D, i ∉ T
  · obtain ⟨i, hi, h1, h2⟩ := ih h.2 hd
    exact ⟨i, List.mem_cons_of_mem _ hi, h1, h2⟩
  · have hDT : ∀ k ∈ D, k ∈ T := fun k hk => Classical.byContradiction fun hc => hd ⟨k, hk, hc⟩
    obtain ⟨i, hi, hiT⟩ := hex
    rcases List.mem_cons.1 hi with rfl | hi
    · exact ⟨i, List.mem_cons_self, hiT, fun j hj => hDT j (h.1 j hj)⟩
    · exact absurd (hDT i hi) hiT
theorem wanted_congr {a a2 : AAct} {i : Nat} {o : Oper} (ho : ops[i]? = some o) (h : ∀ t ∈ looks ops i, a.f t = a2.f t) : aWanted ops a o = aWanted ops a2 o := by
 have _ := TT.tt
 unfold aWanted
 split
 · rfl
 · rename_i j want hg
   split
   · rename_i d hd
     rw [h d (by simp [looks, ho, Oper.looksAt, hg, hd])]
   · rfl
theorem eval_congr {a a2 : AAct} {i : Nat} {o : Oper} (ho : ops[i]? = some o) (h : ∀ t ∈ looks ops i, a.f t = a2.f t) : ∀ x ∈ o.op.operands, a.eval P x = a2.eval P x := by
 have _ := TT.tt
 intro x hx
 cases x with
 | tmp t => exact h t (by
     simp only [looks, ho, Oper.looksAt, List.mem_append, List.mem_filterMap]
     exact .inl ⟨.tmp t, by simpa using hx, rfl⟩)
 | _ => rfl
theorem ready_mem {i : Nat} : i ∈ readyL ops D ↔ i < ops.size ∧ i ∉ D ∧ ∀ j ∈ depsOf ops i, j ∈ D := by
 have _ := TT.tt
 simp [readyL, readyB, List.contains_eq_mem]
theorem get_of_lt {i : Nat} (hi : i < ops.size) : ∃ o, ops[i]? = some o := have _ := TT.tt; ⟨ops[i], by simp [hi]⟩
theorem anc_sub (htcl : ∀ i ∈ T, ∀ j ∈ depsOf ops i, j ∈ T) (k : Nat) : ∀ {S : List Nat}, (∀ j ∈ S, j ∈ T) → ∀ i ∈ ancOf ops k S, i ∈ T := by
 have _ := TT.tt
 induction k with
 | zero => exact fun hS i hi => hS i hi
 | succ k ih =>
  intro S hS i hi
  refine ih (fun j hj => ?_) i hi
  rcases List.mem_append.1 hj with hj | hj
  · exact hS j hj
  · rw [List.mem_eraseDups, List.mem_filter, List.mem_flatMap] at hj
    obtain ⟨⟨x, hx, hjx⟩, _⟩ := hj
    exact htcl x (hS x hx) j hjx
end
end Go.Ab
namespace Go.Ab
open Go Go.RowKit
variable [TT]
def Up (Q : AExit → AAct → AHeap → Prop) (e : AExit) (a : AAct) (H : AHeap) : Prop := ∃ a1 : AAct, a1.n = a.n ∧ a1.defers = a.defers ∧ (∀ t v, a1.f t = some v → a.f t = some v) ∧ Q e a1 H
def sans (ops : Array Oper) (a : AAct) : AAct := { a with f := fun t => if (List.range ops.size).any (fun i => dstOf ops i == some t) then none else a.f t }
section
variable {P : Program} {B0 : Prot} {m : NMap} {H : AHeap} {w : World} {a : AAct} {ro : Option Nat} {ops : Array Oper} {Q : AExit → AAct → AHeap → Prop} {ai : AAct}
theorem LiftQ_up {e : Exit} {a1 : Act} {w1 : World} (h : LiftQ P B0 m H w (Up Q) e a1 w1) : LiftQ P B0 m H w Q e a1 w1 := by
 obtain ⟨x, a, H', m', ⟨a2, h1, h2, h3, hq⟩, hm, hr, ha, hB, hx⟩ := h
 exact ⟨x, a2, H', m', hq, hm, hr, ⟨⟨by rw [h1]; exact ha.1.1, fun t v ht => ha.1.2 t v (h3 t v ht)⟩, by rw [h2]; exact ha.2⟩, hB, hx⟩
theorem up_self {e : AExit} (h : Q e a H) : Up Q e a H := have _ := TT.tt; ⟨a, rfl, rfl, fun _ _ h => h, h⟩
theorem up_sans {T : List Nat} {V : Nat → Value} {ds : List Deferred} {e : AExit} (hT : ∀ i ∈ T, i < ops.size) (h : Q e { sans ops ai with defers := ds } H) : Up Q e { asg ops T V ai with defers := ds } H := by
 have _ := TT.tt
 refine ⟨{ sans ops ai with defers := ds }, rfl, rfl, fun t v ht => ?_, h⟩
 simp only [sans] at ht
 split at ht
 · cases ht
 · rename_i hn
   simp only [asg]
   cases hf : T.find? (fun z => dstOf ops z == some t) with
   | none => exact ht
   | some z =>
    exfalso
    apply hn
    rw [List.any_eq_true]
    have hz := List.find?_some hf
    exact ⟨z, by simpa using hT z (List.mem_of_find?_eq_some hf), hz⟩
def unlisted (ops : Array Oper) (T : List Nat) : Nat := ((List.range ops.size).filter fun i => !T.contains i).length
theorem unlisted_cons {T : List Nat} {i : Nat} (hi : i < ops.size) (hiT : i ∉ T) : unlisted ops (i :: T) < unlisted ops T := by
 have _ := TT.tt
 unfold unlisted
 have e : (List.range ops.size).filter (fun j => !(i :: T).contains j) = ((List.range ops.size).filter fun j => !T.contains j).filter fun j => j != i := by
  rw [List.filter_filter]
  congr 1
  funext j
  simp only [List.contains_cons, Bool.not_or]
  rfl
 rw [e]
 refine List.length_filter_lt_length_iff_exists.2 ⟨i, ?_, by simp⟩
 simp [hi, hiT]
end
end Go.Ab
namespace Go.Ab
open Go Go.RowKit
variable [TT]
section
variable {P : Program} {ro : Option Nat} {Q : AExit → AAct → AHeap → Prop} {a : AAct} {H : AHeap}
def AOpsL (P : Program) (ro : Option Nat) (ops : List Oper) (Q : AExit → AAct → AHeap → Prop) : List Oper → AAct → AHeap → Prop
 | [], a, H => Q .normal a H
 | o :: l, a, H => bindO (aWanted ⟨ops⟩ a o) fun b => (b = true → AOp P ro a H o.dst o.op (AOpsL P ro ops Q l) (fun v H' => Q (.panic v) a H')) ∧ (b = false → AOpsL P ro ops Q l (a.put o.dst undef) H)
theorem AOps_of_L {ops : List Oper} : ∀ (l : List Oper) (k : Nat), ops.drop k = l → ∀ {a H}, AOpsL P ro ops Q l a H → AOps P ro ⟨ops⟩ Q (List.range' k l.length) a H := by
 intro l
 induction l with
 | nil => exact fun k _ _ _ h => h
 | cons o l ih =>
  intro k hk a H hh
  have ho : (⟨ops⟩ : Array Oper)[k]? = some o := by
   rw [← Array.getElem?_toList, ← List.head?_drop, hk]
   rfl
  have hl : ops.drop (k + 1) = l := by rw [← List.drop_drop, hk]; rfl
  simp only [List.length_cons, List.range'_succ, AOps, ho]
  obtain ⟨b, hb, h1, h2⟩ := hh
  refine ⟨b, hb, fun e => ?_, fun e => ih (k + 1) hl (h2 e)⟩
  exact AOp_congr (fun _ _ => rfl) rfl (fun v ds H' hk => ih (k + 1) hl hk) (fun _ _ h => h) (h1 e)
theorem AWp_text {id : Nat} {l : List Oper} (h : AOpsL P ro l Q l a H) : AWp P ro (.region id ⟨l⟩ false) Q a H := by
 refine AWp_region ?_
 have := AOps_of_L (ops := l) l 0 rfl h
 rw [List.range_eq_range']
 exact this
section
variable {n d : Nat} {l : List (Nat × Value)} {ds : List Deferred} {op : Op} {ty : TypeId} {pos : String} {aft : Array Edge} {gd : Option (Nat × Bool)} {rest : List Oper} {v : Value} {K : AAct → AHeap → Prop} {X : Value → AHeap → Prop}
end
end
end Go.Ab
namespace Go.Ab
open Go Go.RowKit
variable [TT]
def isMk : Op → Bool
 | .alloc _ | .box _ _ | .buildSlice _ _ _ | .makeSlice _ _ _ => true
 | .makeMap _ r => r.isNone
 | _ => false
def mkAt (ops : Array Oper) (i : Nat) : Bool := match ops[i]? with | some o => isMk o.op | none => false
def againAt (ops : Array Oper) (i : Nat) : Bool := readsAt ops i || mkAt ops i
def wfT (ops : Array Oper) (n : Nat) : Bool :=
 (List.range ops.size).all fun i => (match dstOf ops i with
  | none => !againAt ops i
  | some d => decide (d < n) && !(looks ops i).contains d && (List.range ops.size).all fun j =>
      i == j || (dstOf ops j != some d && (!(looks ops j).contains d || (depsOf ops j).contains i || ((depsOf ops i).contains j && !againAt ops j))))
def nameOf : Value → Option Nat
 | .pointer (some ⟨z, 0, none⟩) => some z
 | .slice (some ⟨z, 0, none⟩) _ _ => some z
 | .map (some z) => some z
 | _ => none
def AgainT (P : Program) (ops : Array Oper) (y : Nat) (a : AAct) (H : AHeap) : List Nat → Prop
 | [] => True
 | i :: D => (againAt ops i = true → (ancOf ops ops.size (depsOf ops y)).contains i = false →
     match ops[i]? with
     | some o => match o.dst with
      | some d => aWanted ops a o = some true → (isFloat o.op = true → aPure P (a.eval P) H o.op = a.f d) ∧ (isMk o.op = true → ∃ b mk z, aAlloc P (a.eval P) o.op = some (b, mk) ∧ a.f d = some (mk z) ∧ H z = some b)
      | none => False
     | none => False) ∧ AgainT P ops y a H D
def BGo (P : Program) (ro : Option Nat) (ops : Array Oper) (Q : AExit → AAct → AHeap → Prop) (a0 : AAct) : Nat → List Nat → AAct → AHeap → Prop
 | 0, _, _, _ => False
 | fuel + 1, D, a, H =>
  match (readyL ops D).find? (floatAt ops) with
  | some i => match ops[i]? with
   | none => False
   | some o => bindO (aWanted ops a o) fun b => (b = true → bindO (aPure P (a.eval P) H o.op) fun v => BGo P ro ops Q a0 fuel (i :: D) (a.put o.dst v) H) ∧ (b = false → BGo P ro ops Q a0 fuel (i :: D) (a.put o.dst undef) H)
  | none => match (readyL ops D).find? (mkAt ops) with
   | some i => match ops[i]? with
    | none => False
    | some o => bindO (aWanted ops a o) fun b => (b = true → bindO (aAlloc P (a.eval P) o.op) fun bm => ∃ z, H z = none ∧ BGo P ro ops Q a0 fuel (i :: D) (a.put o.dst (bm.2 z)) (upd H z bm.1)) ∧ (b = false → BGo P ro ops Q a0 fuel (i :: D) (a.put o.dst undef) H)
   | none => (readyL ops D = [] → Q .normal a H) ∧ ∀ i ∈ readyL ops D, match ops[i]? with
    | none => False
    | some o => bindO (aWanted ops a o) fun b =>
        (b = true → AOp P ro a H o.dst o.op (fun a1 H1 => AgainT P ops i a1 H1 D ∧ BGo P ro ops Q a0 fuel (i :: D) a1 H1) (fun v H1 => Q (.panic v) { a0 with defers := a.defers } H1)) ∧
        (b = false → BGo P ro ops Q a0 fuel (i :: D) (a.put o.dst undef) H)
section
variable {P : Program} {ro : Option Nat} {ops : Array Oper} {Q : AExit → AAct → AHeap → Prop} {ai : AAct} {ds : List Deferred} {D T : List Nat} {V : Nat → Value} {H : AHeap}
theorem loadV_up {H' : AHeap} (hH : ∀ i b, H i = some b → H' i = some b) {t : TypeId} {i o : Nat} {v : Value} (h : loadV P t H i o = some v) : loadV P t H' i o = some v := by
 have _ := TT.tt
 unfold loadV at h ⊢
 cases hi : H i with
 | none => rw [hi] at h; cases h
 | some b => rw [hi] at h; rw [hH i b hi]; exact h
theorem aPure_up {H' : AHeap} (hH : ∀ i b, H i = some b → H' i = some b) {ρ : Operand → Option Value} {op : Op} {v : Value} (h : aPure P ρ H op = some v) : aPure P ρ H' op = some v := by
 cases hr : reads op with
 | false => rw [← aPure_noread hr (H := H)]; exact h
 | true =>
  cases op with
  | load t x =>
   simp only [aPure] at h ⊢
   split at h
   · rename_i hx; exact loadV_up hH h
   · cases h
  | lookup t x k ok =>
   simp only [aPure] at h ⊢
   obtain ⟨u, hu, h1⟩ := option_bind_some h
   clear h
   obtain ⟨y, hy, h2⟩ := option_bind_some h1
   clear h1
   rw [hu, hy]
   simp only [Option.bind_some]
   unfold lookupV at h2 ⊢
   obtain ⟨ke, ht, h3⟩ := option_bind_some h2
   clear h2
   obtain ⟨z, hz, h⟩ := option_bind_some h3
   clear h3
   rw [ht]
   simp only [Option.bind_some]
   rw [hz]
   simp only [Option.bind_some]
   split at h
   · rename_i hc
     rw [if_pos hc]
     split at h
     · exact h
     · rename_i i
       cases hi : H i with
       | none => rw [hi] at h; cases h
       | some b => rw [hi] at h; rw [hH i b hi]; exact h
     · cases h
   · cases h
  | slice t x lo hi mx =>
   cases mx with
   | some m => cases hi with
    | none => simp [aPure] at h
    | some _ => exact h
   | none =>
    simp only [aPure] at h ⊢
    obtain ⟨u, hu, h1⟩ := option_bind_some h
    clear h
    obtain ⟨l, hl, h2⟩ := option_bind_some h1
    clear h1
    obtain ⟨q, hq, h⟩ := option_bind_some h2
    clear h2
    rw [hu, hl, hq]
    simp only [Option.bind_some]
    unfold slicePart at h ⊢
    split at h
    · rename_i i o
      cases hi : H i with
      | none => rw [hi] at h; cases h
      | some b => rw [hi] at h; rw [hH i b hi]; exact h
    · exact h
    · exact h
  | call c =>
   obtain ⟨callee, args, ats⟩ := c
   cases callee with
   | builtin b =>
    cases b <;> first
     | (simp [aPure] at h; done)
     | exact h
     | (simp only [aPure] at h ⊢
        split at h
        · rename_i x t
          split at h
          · rename_i hx; exact h
          · rename_i hx; exact h
          · rename_i hx; exact h
          · rename_i i hx
            split at h
            · rename_i hs
              rw [if_pos hs]
              cases hi : H i with
              | none => rw [hi] at h; cases h
              | some b => rw [hi] at h; rw [hH i b hi]; exact h
            · cases h
          · rename_i hx; exact h
          · cases h
        · cases h)
   | _ => simp [aPure] at h
  | _ => simp [reads] at hr
theorem nameOf_mk {o : Op} {ρ : Operand → Option Value} {b : ABlk} {mk : Nat → Value} (h : aAlloc P ρ o = some (b, mk)) (z : Nat) : nameOf (mk z) = some z := by
 have _ := TT.tt
 cases o with
 | alloc t =>
  simp only [aAlloc] at h
  obtain ⟨x, _, h⟩ := option_bind_some h
  split at h
  · cases h; rfl
  · cases h
 | box t x =>
  simp only [aAlloc] at h
  cases hx : ρ x with
  | none => rw [hx] at h; cases h
  | some v => rw [hx] at h; cases h; rfl
 | buildSlice t n ps =>
  simp only [aAlloc] at h
  obtain ⟨e, _, h⟩ := option_bind_some h
  obtain ⟨s, _, h⟩ := option_bind_some h
  obtain ⟨x, _, h⟩ := option_bind_some h
  obtain ⟨y, _, h⟩ := option_bind_some h
  split at h
  · cases hf : fillV (fun i => some (i * s, s)) (zCells x.cells.toList (n * s)) y with
    | none => rw [hf] at h; cases h
    | some cs => rw [hf] at h; cases h; rfl
  · cases h
 | makeSlice t l c =>
  simp only [aAlloc] at h
  obtain ⟨e, _, h⟩ := option_bind_some h
  obtain ⟨s, _, h⟩ := option_bind_some h
  obtain ⟨x, _, h⟩ := option_bind_some h
  obtain ⟨y, _, h⟩ := option_bind_some h
  split at h
  · split at h
    · cases h; rfl
    · cases h
  · cases h
 | makeMap t r =>
  cases r with
  | some _ =>
   simp only [aAlloc] at h
   split at h
   · split at h
     · cases h; rfl
     · cases h
   · cases h
  | none =>
   simp only [aAlloc] at h
   split at h
   · cases h; rfl
   · cases h
 | _ => simp [aAlloc] at h
def LagT (P : Program) (ops : Array Oper) (ai : AAct) (V : Nat → Value) (H : AHeap) (i : Nat) (o : Oper) : Prop :=
 (isFloat o.op = true ∧ ((aWanted ops (asg ops (depsOf ops i) V ai) o = some true ∧ aPure P ((asg ops (depsOf ops i) V ai).eval P) H o.op = some (V i)) ∨ (aWanted ops (asg ops (depsOf ops i) V ai) o = some false ∧ V i = undef))) ∨
 (isMk o.op = true ∧ ((aWanted ops (asg ops (depsOf ops i) V ai) o = some true ∧ ∃ b mk z, aAlloc P ((asg ops (depsOf ops i) V ai).eval P) o.op = some (b, mk) ∧ V i = mk z ∧ H z = some b) ∨ (aWanted ops (asg ops (depsOf ops i) V ai) o = some false ∧ V i = undef)))
structure InvT (P : Program) (ops : Array Oper) (ai : AAct) (D T : List Nat) (V : Nat → Value) (H : AHeap) : Prop where
 sub : ∀ i ∈ T, i ∈ D
 dcl : ∀ i ∈ D, i < ops.size ∧ ∀ j ∈ depsOf ops i, j ∈ D
 tcl : ∀ i ∈ T, ∀ j ∈ depsOf ops i, j ∈ T
 lag : ∀ i ∈ D, i ∉ T → ∃ o, ops[i]? = some o ∧ LagT P ops ai V H i o
 ord : OrdD ops D
 dist : ∀ i ∈ D, i ∉ T → ∀ j ∈ D, j ∉ T → i ≠ j → mkAt ops i = true → mkAt ops j = true → ∀ z, nameOf (V i) = some z → nameOf (V j) ≠ some z
def Blank (ops : Array Oper) (D T : List Nat) (V : Nat → Value) (m : NMap) (H0 : AHeap) : Prop := ∀ i ∈ D, i ∉ T → mkAt ops i = true → ∀ z, nameOf (V i) = some z → m z = none ∧ H0 z = none
theorem float_mk {op : Op} (h : isFloat op = true) : isMk op = false := by
 have _ := TT.tt
 cases op <;> first | rfl | (simp [isFloat] at h)
theorem wfT_at (hw : wfT ops ai.n = true) {i : Nat} (hi : i < ops.size) : (match dstOf ops i with
    | none => !againAt ops i
    | some d => decide (d < ai.n) && !(looks ops i).contains d && (List.range ops.size).all fun j =>
        i == j || (dstOf ops j != some d && (!(looks ops j).contains d || (depsOf ops j).contains i || ((depsOf ops i).contains j && !againAt ops j)))) = true := have _ := TT.tt;
 (List.all_eq_true.1 hw) i (by simpa using hi)
theorem wfT_dst (hw : wfT ops ai.n = true) {i j : Nat} (hi : i < ops.size) (hj : j < ops.size) {d : Tmp} (h1 : dstOf ops i = some d) (h2 : dstOf ops j = some d) : i = j := by
 have h := wfT_at hw hi
 rw [h1] at h
 simp only [Bool.and_eq_true, List.all_eq_true] at h
 have := h.2 j (by simpa using hj)
 rw [h2] at this
 simpa using this
theorem wfT_looks (hw : wfT ops ai.n = true) {i j : Nat} (hi : i < ops.size) (hj : j < ops.size) {d : Tmp} (h1 : dstOf ops i = some d) (h2 : d ∈ looks ops j) : i ≠ j ∧ (i ∈ depsOf ops j ∨ (j ∈ depsOf ops i ∧ againAt ops j = false)) := by
 have h := wfT_at hw hi
 rw [h1] at h
 simp only [Bool.and_eq_true, List.all_eq_true] at h
 have hne : i ≠ j := by
  rintro rfl
  have := h.1.2
  simp [h2] at this
 have := h.2 j (by simpa using hj)
 simp only [Bool.or_eq_true, Bool.and_eq_true, beq_iff_eq, hne, false_or, bne_iff_ne, Bool.not_eq_true', List.contains_eq_mem, decide_eq_true_eq, decide_eq_false_iff_not, h2, not_true_eq_false] at this
 exact ⟨hne, this.2⟩
theorem wfT_lt (hw : wfT ops ai.n = true) {i : Nat} (hi : i < ops.size) {d : Tmp} (h1 : dstOf ops i = some d) : d < ai.n := by
 have h := wfT_at hw hi
 rw [h1] at h
 simp only [Bool.and_eq_true, decide_eq_true_eq] at h
 exact h.1.1
theorem lookT (hw : wfT ops ai.n = true) {i : Nat} (hi : i < ops.size) (hTs : ∀ z ∈ T, z < ops.size) (hdeps : ∀ j ∈ depsOf ops i, j ∈ T) (h : againAt ops i = true ∨ (i ∉ T ∧ ∀ z ∈ T, ∀ j ∈ depsOf ops z, j ∈ T)) {t : Tmp} (ht : t ∈ looks ops i) :
    (asg ops T V ai).f t = (asg ops (depsOf ops i) V ai).f t := by
 simp only [asg]
 have key : ∀ z ∈ T, dstOf ops z = some t → z ∈ depsOf ops i := by
  intro z hz hd
  obtain ⟨_, h1 | h1⟩ := wfT_looks hw (hTs z hz) hi hd ht
  · exact h1
  · rcases h with h | h
    · rw [h] at h1; exact absurd h1.2 (by simp)
    · exact absurd (h.2 z hz i h1.1) h.1
 cases hf : T.find? (fun z => dstOf ops z == some t) with
 | some z =>
  have hz := List.mem_of_find?_eq_some hf
  have hd : dstOf ops z = some t := by simpa using List.find?_some hf
  cases hg : (depsOf ops i).find? (fun z => dstOf ops z == some t) with
  | some z' =>
   have hz' := List.mem_of_find?_eq_some hg
   have hd' : dstOf ops z' = some t := by simpa using List.find?_some hg
   rw [wfT_dst hw (hTs z hz) (hTs z' (hdeps z' hz')) hd hd']
  | none =>
   have := List.find?_eq_none.1 hg z (key z hz hd)
   simp [hd] at this
 | none =>
  cases hg : (depsOf ops i).find? (fun z => dstOf ops z == some t) with
  | some z' =>
   have hz' := List.mem_of_find?_eq_some hg
   have hd' : dstOf ops z' = some t := by simpa using List.find?_some hg
   have := List.find?_eq_none.1 hf z' (hdeps z' hz')
   simp [hd'] at this
  | none => rfl
theorem LagT.congr {V' : Nat → Value} {H' : AHeap} {i : Nat} {o : Oper} (h : LagT P ops ai V H i o) (hV : asg ops (depsOf ops i) V' ai = asg ops (depsOf ops i) V ai) (hi : V' i = V i) (hH : ∀ i b, H i = some b → H' i = some b) : LagT P ops ai V' H' i o := by
 unfold LagT at h ⊢
 rw [hV, hi]
 rcases h with ⟨h1, h2⟩ | ⟨h1, h2⟩
 · refine .inl ⟨h1, ?_⟩
   rcases h2 with ⟨h2, h3⟩ | h2
   · exact .inl ⟨h2, aPure_up hH h3⟩
   · exact .inr h2
 · refine .inr ⟨h1, ?_⟩
   rcases h2 with ⟨h2, b, mk, z, h3, h4, h5⟩ | h2
   · exact .inl ⟨h2, b, mk, z, h3, h4, hH z b h5⟩
   · exact .inr h2
theorem LagT.inH {i : Nat} {o : Oper} (ho : ops[i]? = some o) (h : LagT P ops ai V H i o) (hm : mkAt ops i = true) {z : Nat} (hz : nameOf (V i) = some z) : H z ≠ none := by
 have hmk : isMk o.op = true := by simpa [mkAt, ho] using hm
 rcases h with ⟨h1, _⟩ | ⟨_, ⟨_, b, mk, z', h3, h4, h5⟩ | ⟨_, h4⟩⟩
 · rw [float_mk h1] at hmk; cases hmk
 · rw [h4, nameOf_mk h3] at hz
   cases hz
   rw [h5]; simp
 · rw [h4] at hz; cases hz
theorem InvT.plan (_hw : wfT ops ai.n = true) (h : InvT P ops ai D T V H) {i : Nat} (hi : i ∈ readyL ops D) {o : Oper} (ho : ops[i]? = some o) {v : Value} {H' : AHeap} (hH : ∀ i b, H i = some b → H' i = some b)
    (hl : LagT P ops ai (vset V i v) H' i o) (hd : mkAt ops i = true → ∀ z, nameOf v = some z → H z = none) : InvT P ops ai (i :: D) T (vset V i v) H' := by
 obtain ⟨h1, h2, h3⟩ := ready_mem.1 hi
 have hVd : ∀ k ∈ D, asg ops (depsOf ops k) (vset V i v) ai = asg ops (depsOf ops k) V ai := fun k hk => asg_V fun j hj => by
  have : j ≠ i := by rintro rfl; exact h2 ((h.dcl k hk).2 j hj)
  simp [vset, this]
 have hne : ∀ k ∈ D, vset V i v k = V k := fun k hk => by
  have : k ≠ i := by rintro rfl; exact h2 hk
  simp [vset, this]
 have hself : vset V i v i = v := by simp [vset]
 refine ⟨fun k hk => List.mem_cons_of_mem _ (h.sub k hk), fun k hk => ?_, h.tcl, fun k hk hkT => ?_, ⟨h3, h.ord⟩, ?_⟩
 · rcases List.mem_cons.1 hk with rfl | hk
   · exact ⟨h1, fun j hj => List.mem_cons_of_mem _ (h3 j hj)⟩
   · exact ⟨(h.dcl k hk).1, fun j hj => List.mem_cons_of_mem _ ((h.dcl k hk).2 j hj)⟩
 · by_cases e : k = i
   · subst e
     exact ⟨o, ho, hl⟩
   · have hkD : k ∈ D := by simpa [e] using hk
     obtain ⟨o', ho', hx⟩ := h.lag k hkD hkT
     exact ⟨o', ho', hx.congr (hVd k hkD) (hne k hkD) hH⟩
 · intro k hk hkT j hj hjT hkj mk mj z hz
   by_cases e1 : k = i
   · by_cases e2 : j = i
     · exact absurd (e1.trans e2.symm) hkj
     · have hjD : j ∈ D := by simpa [e2] using hj
       rw [e1, hself] at hz
       rw [hne j hjD]
       intro hz'
       obtain ⟨o', ho', hx⟩ := h.lag j hjD hjT
       exact hx.inH ho' mj hz' (hd (e1 ▸ mk) z hz)
   · have hkD : k ∈ D := by simpa [e1] using hk
     rw [hne k hkD] at hz
     by_cases e2 : j = i
     · rw [e2, hself]
       intro hz'
       obtain ⟨o', ho', hx⟩ := h.lag k hkD hkT
       exact hx.inH ho' mk hz (hd (e2 ▸ mj) z hz')
     · have hjD : j ∈ D := by simpa [e2] using hj
       rw [hne j hjD]
       exact h.dist k hkD hkT j hjD hjT hkj mk mj z hz
theorem Blank.plan {i : Nat} {m : NMap} {H0 : AHeap} (hb : Blank ops D T V m H0) (h2 : i ∉ D) {v : Value} (hd : mkAt ops i = true → ∀ z, nameOf v = some z → m z = none ∧ H0 z = none) : Blank ops (i :: D) T (vset V i v) m H0 := by
 have _ := TT.tt
 intro k hk hkT mk z hz
 by_cases e : k = i
 · subst e
   exact hd mk z (by simpa [vset] using hz)
 · have hkD : k ∈ D := by simpa [e] using hk
   exact hb k hkD hkT mk z (by simpa [vset, e] using hz)
end
end Go.Ab
namespace Go.Ab
open Go Go.RowKit
variable [TT]
section
variable {P : Program} {B0 : Prot} {m : NMap} {w : World} {ro : Option Nat} {ops : Array Oper} {Q : AExit → AAct → AHeap → Prop} {ai : AAct} {ds : List Deferred} {D T : List Nat} {V : Nat → Value} {H : AHeap} {a : AAct}
theorem Rel.phantom (h : Rel P B0 m H w) {z : Nat} (hm : m z = none) (b : ABlk) : Rel P B0 m (upd H z b) w where
 blocks i c f hi hg := by
  have e : i ≠ z := by rintro rfl; rw [hm] at hg; cases hg
  rw [upd_other _ _ _ _ e] at hi
  exact h.blocks i c f hi hg
 inj i k c d g g' hik hi hk hci hck hgi hgk := by
  have e : i ≠ z := by rintro rfl; rw [hm] at hgi; cases hgi
  have e' : k ≠ z := by rintro rfl; rw [hm] at hgk; cases hgk
  rw [upd_other _ _ _ _ e] at hi
  rw [upd_other _ _ _ _ e'] at hk
  exact h.inj i k c d g g' hik hi hk hci hck hgi hgk
 fin := by
  obtain ⟨N, hN⟩ := h.fin
  refine ⟨max N (z + 1), fun i hi => ?_⟩
  have h1 : i ≠ z := by omega
  exact ⟨(hN i (by omega)).1, by rw [upd_other _ _ _ _ h1]; exact (hN i (by omega)).2⟩
 base := h.base
 glob := h.glob
 tot ht i hi := by
  by_cases e : i = z
  · subst e; exact hm
  · rw [upd_other _ _ _ _ e] at hi; exact h.tot ht i hi
theorem Rel.without (h : Rel P B0 m H w) {z : Nat} (hm : m z = none) : Rel P B0 m (fun j => if j = z then none else H j) w where
 blocks i c f hi hg := by
  have e : i ≠ z := by rintro rfl; rw [hm] at hg; cases hg
  simp only [e, if_false] at hi
  exact h.blocks i c f hi hg
 inj i k c d g g' hik hi hk hci hck hgi hgk := by
  have e : i ≠ z := by rintro rfl; rw [hm] at hgi; cases hgi
  have e' : k ≠ z := by rintro rfl; rw [hm] at hgk; cases hgk
  simp only [e, if_false] at hi
  simp only [e', if_false] at hk
  exact h.inj i k c d g g' hik hi hk hci hck hgi hgk
 fin := by
  obtain ⟨N, hN⟩ := h.fin
  refine ⟨N, fun i hi => ⟨(hN i hi).1, ?_⟩⟩
  split
  · rfl
  · exact (hN i hi).2
 base := h.base
 glob := h.glob
 tot ht i hi := by
  by_cases e : i = z
  · subst e; exact hm
  · simp only [e, if_false] at hi; exact h.tot ht i hi
theorem goT_norm (htt : TT.tt = true) (hw : wfT ops ai.n = true) {a0 : AAct} {m0 : NMap} {H0 : AHeap} (fuel : Nat) : ∀ {D : List Nat} {V : Nat → Value} {H : AHeap}, InvT P ops ai D T V H → Blank ops D T V m H0 → Ext m0 H0 m H → Rel P B0 m H w →
    BGo P ro ops Q a0 fuel D { asg ops D V ai with defers := ds } H →
    ∃ fuel' D' V' H', InvT P ops ai D' T V' H' ∧ Blank ops D' T V' m H0 ∧ Ext m0 H0 m H' ∧ Rel P B0 m H' w ∧ (∀ i ∈ T, V' i = V i) ∧ (readyL ops D').find? (floatAt ops) = none ∧ (readyL ops D').find? (mkAt ops) = none ∧
     BGo P ro ops Q a0 (fuel' + 1) D' { asg ops D' V' ai with defers := ds } H' := by
 induction fuel with
 | zero => exact fun _ _ _ _ h => h.elim
 | succ fuel ih =>
  intro D V H hI hB hE hr h
  have fin : ∀ {i : Nat} (v : Value) (H2 : AHeap), i ∉ D → InvT P ops ai (i :: D) T (vset V i v) H2 → Blank ops (i :: D) T (vset V i v) m H0 → Ext m0 H0 m H2 → Rel P B0 m H2 w →
      BGo P ro ops Q a0 fuel (i :: D) { asg ops (i :: D) (vset V i v) ai with defers := ds } H2 →
      ∃ fuel' D' V' H', InvT P ops ai D' T V' H' ∧ Blank ops D' T V' m H0 ∧ Ext m0 H0 m H' ∧ Rel P B0 m H' w ∧ (∀ i ∈ T, V' i = V i) ∧ (readyL ops D').find? (floatAt ops) = none ∧ (readyL ops D').find? (mkAt ops) = none ∧
       BGo P ro ops Q a0 (fuel' + 1) D' { asg ops D' V' ai with defers := ds } H' := by
   intro i v H2 h2 g1 g2 g3 g4 g5
   obtain ⟨fuel', D', V', H', p1, p2, p3, p4, p5, p6, p7, p8⟩ := ih g1 g2 g3 g4 g5
   refine ⟨fuel', D', V', H', p1, p2, p3, p4, fun k hk => ?_, p6, p7, p8⟩
   rw [p5 k hk]
   have : k ≠ i := by rintro rfl; exact h2 (hI.sub k hk)
   simp [vset, this]
  have hlook : ∀ {i : Nat} {o : Oper} {v : Value}, i ∈ readyL ops D → ops[i]? = some o → (∀ s ∈ looks ops i, (asg ops D V ai).f s = (asg ops (depsOf ops i) (vset V i v) ai).f s) := by
   intro i o v hi ho s hs
   obtain ⟨h1, h2, h3⟩ := ready_mem.1 hi
   have hVi : asg ops (depsOf ops i) (vset V i v) ai = asg ops (depsOf ops i) V ai := asg_V fun j hj => by
    have : j ≠ i := by rintro rfl; exact h2 (h3 j hj)
    simp [vset, this]
   rw [hVi]
   exact lookT hw h1 (fun z hz => (hI.dcl z hz).1) h3 (.inr ⟨h2, fun z hz => (hI.dcl z hz).2⟩) hs
  cases hf : (readyL ops D).find? (floatAt ops) with
  | some i =>
   have hi := List.mem_of_find?_eq_some hf
   have hfl := List.find?_some hf
   obtain ⟨h1, h2, h3⟩ := ready_mem.1 hi
   obtain ⟨o, ho⟩ := get_of_lt h1
   have hfl' : isFloat o.op = true := by simpa [floatAt, ho] using hfl
   have hnm : mkAt ops i = false := by simp [mkAt, ho, float_mk hfl']
   simp only [BGo, hf, ho] at h
   obtain ⟨b, hb, ht, hfa⟩ := h
   have hb' : aWanted ops (asg ops D V ai) o = some b := hb
   cases b with
   | true =>
    obtain ⟨v, hv, hg⟩ := ht rfl
    rw [put_asg ho h2] at hg
    have hl := hlook (v := v) hi ho
    refine fin v H h2 (hI.plan hw hi ho (fun _ _ h => h) (.inl ⟨hfl', .inl ⟨?_, ?_⟩⟩) (by rw [hnm]; exact fun h => (by cases h))) (hB.plan h2 (by rw [hnm]; exact fun h => (by cases h))) hE hr hg
    · rw [← wanted_congr ho hl]; exact hb'
    · rw [← aPure_congr (eval_congr ho hl), show vset V i v i = v by simp [vset]]
      exact hv
   | false =>
    have hg := hfa rfl
    rw [put_asg ho h2] at hg
    have hl := hlook (v := undef) hi ho
    refine fin undef H h2 (hI.plan hw hi ho (fun _ _ h => h) (.inl ⟨hfl', .inr ⟨?_, by simp [vset]⟩⟩) (by rw [hnm]; exact fun h => (by cases h))) (hB.plan h2 (by rw [hnm]; exact fun h => (by cases h))) hE hr hg
    rw [← wanted_congr ho hl]; exact hb'
  | none =>
   cases hk : (readyL ops D).find? (mkAt ops) with
   | none => exact ⟨fuel, D, V, H, hI, hB, hE, hr, fun _ _ => rfl, hf, hk, h⟩
   | some i =>
    have hi := List.mem_of_find?_eq_some hk
    have hmk := List.find?_some hk
    obtain ⟨h1, h2, h3⟩ := ready_mem.1 hi
    obtain ⟨o, ho⟩ := get_of_lt h1
    have hmk' : isMk o.op = true := by simpa [mkAt, ho] using hmk
    simp only [BGo, hf, hk, ho] at h
    obtain ⟨b, hb, ht, hfa⟩ := h
    have hb' : aWanted ops (asg ops D V ai) o = some b := hb
    cases b with
    | true =>
     obtain ⟨bm, hbm, z, hz, hg⟩ := ht rfl
     obtain ⟨b, mk⟩ := bm
     rw [put_asg ho h2] at hg
     have hl := hlook (v := mk z) hi ho
     have hmz := hr.tot htt z hz
     have hup : ∀ i b', H i = some b' → upd H z b i = some b' := fun i b' hi => by
      have : i ≠ z := by rintro rfl; rw [hz] at hi; cases hi
      rw [upd_other _ _ _ _ this]; exact hi
     have hH0 : H0 z = none := by
      cases h0 : H0 z with
      | none => rfl
      | some x => exact absurd hz (hE.same htt z (by rw [h0]; simp)).2
     have hnz : ∀ z', nameOf (mk z) = some z' → z' = z := fun z' h' => by rw [nameOf_mk hbm] at h'; cases h'; rfl
     refine fin (mk z) (upd H z b) h2 (hI.plan hw hi ho hup (.inr ⟨hmk', .inl ⟨?_, b, mk, z, ?_, by simp [vset], by simp⟩⟩) fun _ z' h' => by rw [hnz z' h']; exact hz) (hB.plan h2 fun _ z' h' => by rw [hnz z' h']; exact ⟨hmz, hH0⟩)
      (hE.trans (Ext.upd _ _ _ _)) (hr.phantom hmz b) hg
     · rw [← wanted_congr ho hl]; exact hb'
     · rw [← aAlloc_congr (eval_congr ho hl)]
       exact hbm
    | false =>
     have hg := hfa rfl
     rw [put_asg ho h2] at hg
     have hl := hlook (v := undef) hi ho
     refine fin undef H h2 (hI.plan hw hi ho (fun _ _ h => h) (.inr ⟨hmk', .inr ⟨?_, by simp [vset]⟩⟩) fun _ z' h' => (by cases h')) (hB.plan h2 fun _ z' h' => (by cases h')) hE hr hg
     rw [← wanted_congr ho hl]; exact hb'
theorem InvT.step (h : InvT P ops ai D T V H) {i : Nat} (hi : i ∈ D) (hd : ∀ j ∈ depsOf ops i, j ∈ T) : InvT P ops ai D (i :: T) V H := by
 have _ := TT.tt
 refine ⟨fun k hk => ?_, h.dcl, fun k hk j hj => ?_, fun k hk hkT => h.lag k hk fun hc => hkT (List.mem_cons_of_mem _ hc), h.ord, fun k hk hkT j hj hjT => h.dist k hk (fun hc => hkT (List.mem_cons_of_mem _ hc)) j hj fun hc => hjT (List.mem_cons_of_mem _ hc)⟩
 · rcases List.mem_cons.1 hk with rfl | hk
   · exact hi
   · exact h.sub k hk
 · rcases List.mem_cons.1 hk with rfl | hk
   · exact List.mem_cons_of_mem _ (hd j hj)
   · exact List.mem_cons_of_mem _ (h.tcl k hk j hj)
theorem againT_at {y : Nat} (h : AgainT P ops y a H D) {i : Nat} (hi : i ∈ D) : againAt ops i = true → (ancOf ops ops.size (depsOf ops y)).contains i = false →
    match ops[i]? with
     | some o => match o.dst with
      | some d => aWanted ops a o = some true → (isFloat o.op = true → aPure P (a.eval P) H o.op = a.f d) ∧ (isMk o.op = true → ∃ b mk z, aAlloc P (a.eval P) o.op = some (b, mk) ∧ a.f d = some (mk z) ∧ H z = some b)
      | none => False
     | none => False := by
 have _ := TT.tt
 induction D with
 | nil => cases hi
 | cons x D ih =>
  rcases List.mem_cons.1 hi with rfl | hi
  · exact h.1
  · exact ih h.2 hi
theorem InvT.both (hw : wfT ops ai.n = true) (h : InvT P ops ai D T V H) {i : Nat} (hiD : i ∉ D) (hi : i < ops.size) (hd : ∀ j ∈ depsOf ops i, j ∈ T) {v : Value} {H1 : AHeap} (hag : H1 = H ∨ AgainT P ops i { asg ops (i :: D) (vset V i v) ai with defers := ds } H1 D) :
    InvT P ops ai (i :: D) (i :: T) (vset V i v) H1 := by
 have hVd : ∀ k ∈ D, asg ops (depsOf ops k) (vset V i v) ai = asg ops (depsOf ops k) V ai := fun k hk => asg_V fun j hj => by
  have : j ≠ i := by rintro rfl; exact hiD ((h.dcl k hk).2 j hj)
  simp [vset, this]
 have hD3 : ∀ j ∈ depsOf ops i, j ∈ D := fun j hj => h.sub j (hd j hj)
 have hdcl : ∀ k ∈ i :: D, k < ops.size ∧ ∀ j ∈ depsOf ops k, j ∈ i :: D := fun k hk => by
  rcases List.mem_cons.1 hk with rfl | hk
  · exact ⟨hi, fun j hj => List.mem_cons_of_mem _ (hD3 j hj)⟩
  · exact ⟨(h.dcl k hk).1, fun j hj => List.mem_cons_of_mem _ ((h.dcl k hk).2 j hj)⟩
 have hne : ∀ k ∈ D, vset V i v k = V k := fun k hk => by
  have : k ≠ i := by rintro rfl; exact hiD hk
  simp [vset, this]
 have lagD : ∀ k, k ∈ i :: D → k ∉ i :: T → k ∈ D ∧ k ∉ T := fun k hk hkT => by
  have hki : k ≠ i := by rintro rfl; exact hkT List.mem_cons_self
  exact ⟨by simpa [hki] using hk, fun hc => hkT (List.mem_cons_of_mem _ hc)⟩
 refine ⟨fun k hk => ?_, hdcl, fun k hk j hj => ?_, fun k hk hkT => ?_, ⟨hD3, h.ord⟩, ?_⟩
 · rcases List.mem_cons.1 hk with rfl | hk
   · exact List.mem_cons_self
   · exact List.mem_cons_of_mem _ (h.sub k hk)
 · rcases List.mem_cons.1 hk with rfl | hk
   · exact List.mem_cons_of_mem _ (hd j hj)
   · exact List.mem_cons_of_mem _ (h.tcl k hk j hj)
 · obtain ⟨hkD, hkT'⟩ := lagD k hk hkT
   obtain ⟨o, ho, hx⟩ := h.lag k hkD hkT'
   refine ⟨o, ho, ?_⟩
   have hvk := hne k hkD
   rcases hag with rfl | hag
   · exact hx.congr (hVd k hkD) hvk fun _ _ h => h
   · have hanc : (ancOf ops ops.size (depsOf ops i)).contains k = false := by
      cases hc : (ancOf ops ops.size (depsOf ops i)).contains k with
      | false => rfl
      | true => exact absurd (anc_sub h.tcl _ hd k (by simpa using hc)) hkT'
     have hself : ∀ {d : Tmp}, o.dst = some d → (asg ops (i :: D) (vset V i v) ai).f d = some (V k) := by
      intro d hdst
      have hdk : dstOf ops k = some d := by simp [dstOf, ho, hdst]
      have hdn : d < ai.n := wfT_lt hw (h.dcl k hkD).1 hdk
      simp only [asg]
      cases hf : (i :: D).find? (fun z => dstOf ops z == some d) with
      | none =>
       have := List.find?_eq_none.1 hf k hk
       simp [hdk] at this
      | some z =>
       have hz := List.mem_of_find?_eq_some hf
       have hdz : dstOf ops z = some d := by simpa using List.find?_some hf
       have := wfT_dst hw (hdcl z hz).1 (h.dcl k hkD).1 hdz hdk
       subst this
       simp [hdn, hvk]
     have hlk : againAt ops k = true → ∀ t ∈ looks ops k, ({ asg ops (i :: D) (vset V i v) ai with defers := ds } : AAct).f t = (asg ops (depsOf ops k) V ai).f t := fun hA t ht => by
      rw [← hVd k hkD]
      exact lookT hw (h.dcl k hkD).1 (fun z hz => (hdcl z hz).1) (fun j hj => (hdcl k hk).2 j hj) (.inl hA) ht
     unfold LagT at hx ⊢
     rw [hVd k hkD, hvk]
     rcases hx with ⟨hfl, ⟨h1, h2⟩ | h2⟩ | ⟨hmk, ⟨h1, b, mk, z, h2, h3, h4⟩ | h2⟩
     · refine .inl ⟨hfl, .inl ⟨h1, ?_⟩⟩
       cases hrd : reads o.op with
       | false => rw [← h2]; exact aPure_noread hrd
       | true =>
        have hrA : againAt ops k = true := by simp [againAt, readsAt, ho, hfl, hrd]
        have hA := againT_at hag hkD hrA hanc
        rw [ho] at hA
        simp only at hA
        have hl' := hlk hrA
        split at hA
        · rename_i d hdst
          have h3 := (hA (by rw [wanted_congr ho hl']; exact h1)).1 hfl
          rw [aPure_congr (eval_congr ho hl')] at h3
          rw [h3]
          exact hself hdst
        · exact hA.elim
     · exact .inl ⟨hfl, .inr h2⟩
     · refine .inr ⟨hmk, .inl ⟨h1, ?_⟩⟩
       have hrA : againAt ops k = true := by simp [againAt, mkAt, ho, hmk]
       have hA := againT_at hag hkD hrA hanc
       rw [ho] at hA
       simp only at hA
       have hl' := hlk hrA
       split at hA
       · rename_i d hdst
         obtain ⟨b', mk', z', q1, q2, q3⟩ := (hA (by rw [wanted_congr ho hl']; exact h1)).2 hmk
         rw [aAlloc_congr (eval_congr ho hl')] at q1
         rw [show ({ asg ops (i :: D) (vset V i v) ai with defers := ds } : AAct).f d = some (V k) from hself hdst] at q2
         exact ⟨b', mk', z', q1, Option.some.inj q2, q3⟩
       · exact hA.elim
     · exact .inr ⟨hmk, .inr h2⟩
 · intro k hk hkT j hj hjT hkj mk mj z hz
   obtain ⟨hkD, hkT'⟩ := lagD k hk hkT
   obtain ⟨hjD, hjT'⟩ := lagD j hj hjT
   rw [hne k hkD] at hz
   rw [hne j hjD]
   exact h.dist k hkD hkT' j hjD hjT' hkj mk mj z hz
end
end Go.Ab
