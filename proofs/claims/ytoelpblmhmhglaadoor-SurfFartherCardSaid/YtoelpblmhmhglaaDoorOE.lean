/- ABSTRACT MEMORY, 22: closed runs, reckoned: what is reckoned is so. -/
import Derived.Test.YtoelpblmhmhglaaDoorOD
namespace Go.Ab
open Go Go.RowKit
variable [TT] [PR]
structure Sound (P : Program) (N : Nat) (X : Ex) : Prop where
 code : ∀ {ro : Option Nat} {p : Loc} {s s' : St} {e : AExit}, X.code ro p s = some (e, s') → AWp P ro (codeGet p) (fun x a H => x = e ∧ a = s'.a ∧ H = s'.H) s.a s.H
 loop : ∀ {ro : Option Nat} {p : Loc} {s s' : St} {e : AExit}, X.loop ro p s = some (e, s') → ∀ (B0 : Prot) (m : NMap) (w : World) (a' : Act) (F : Fence), Rel P B0 m s.H w → ARel m s.a a' → FRel m ro F → ∀ n, Code.roundsIn F n P (codeGet p) (LiftQ P B0 m s.H w fun x a H => x = e ∧ a = s'.a ∧ H = s'.H) N a' w
 codeS : ∀ {p : Loc} {u u' : AMode} {s s' : St} {e : AExit}, X.codeS p u s = some (e, u', s') → AWpS P (codeGet p) (fun x v a H => x = e ∧ v = u' ∧ a = s'.a ∧ H = s'.H) u s.a s.H
 call : ∀ {f : FuncId} {args : List Value} {m m' : Mem} {r : ARes}, X.call f args m = some (r, m') → Callable P f ∧ SCalls P f args m.H fun r' H' => r' = r ∧ H' = m'.H
 dcall : ∀ {f : FuncId} {args : List Value} {u u' : AMode} {m m' : Mem} {v : Value}, X.dcall f args u m = some (v, u', m') → Callable P f ∧ SDCalls P f args u m.H fun v' w H' => v' = v ∧ w = u' ∧ H' = m'.H
 round : ∀ {l : Nat} {args : List Value} {m m' : Mem} {r : ARes}, X.round l args m = some (r, m') → SRound P l args m.H fun r' H' => r' = r ∧ H' = m'.H
theorem cond_none {α : Type} {b : Bool} {x : Option α} {y : α} (h : cond b x none = some y) : b = true ∧ x = some y := by
 have _ := TT.tt
 have _ := PR.prog
 cases b with
 | true => exact ⟨rfl, h⟩
 | false => cases h
theorem bind_some_iff {α β : Type} {o : Option α} {f : α → Option β} {b : β} (h : o.bind f = some b) : ∃ a, o = some a ∧ f a = some b := have _ := TT.tt; have _ := PR.prog; option_bind_some h
section
variable {P : Program} {N : Nat} {X : Ex} {ro : Option Nat} {s s' : St} {dst : Option Tmp}
theorem St.mem_H {m : Mem} : ({ s with m := m } : St).H = m.H := have _ := TT.tt; rfl
theorem St.putm_a {m : Mem} {v : Value} (h : slotOK dst = true) : (({ s with m := m } : St).put dst v).a = s.a.put dst v := have _ := TT.tt; St.put_a (s := { s with m := m }) h
theorem St.putm_H {m : Mem} {v : Value} : (({ s with m := m } : St).put dst v).H = m.H := have _ := TT.tt; St.put_H (s := { s with m := m })
theorem Mem.get_H {m : Mem} {i : Nat} {b : XB} (h : m.h.get i = some b) : m.H i = some b.a := by have _ := TT.tt; simp [Mem.H, h]
def KOk (r : XR) (a : AAct) (H : AHeap) : Prop := ∃ s', r = .ok s' ∧ a = s'.a ∧ H = s'.H
def KPan (r : XR) (v : Value) (H : AHeap) : Prop := ∃ m, r = .pan v m ∧ H = m.H
theorem xFnVal_sound (hX : Sound P N X) {fv : Value} {args : List Value} {m m' : Mem} {r : ARes} (h : xFnVal X P fv args m = some (r, m')) : ACall P fv args m.H fun r' H' => r' = r ∧ H' = m'.H := by
 unfold xFnVal at h
 split at h
 · exact hX.call h
 · exact hX.round h
 · unfold ACall
   simp only
   split at h
   · rename_i x rest hx
     obtain ⟨u, hu, h⟩ := bind_some_iff h
     rw [hx]
     exact ⟨u, hu, hX.call h⟩
   · cases h
 · cases h
theorem xInvoke_sound (hX : Sound P N X) {rv : Value} {name : String} {args : List Value} {m m' : Mem} {r : ARes} (h : xInvoke X P rv name args m = some (r, m')) : AInvoke P rv name args m.H fun r' H' => r' = r ∧ H' = m'.H := by
 unfold xInvoke at h
 split at h
 · obtain ⟨fu, hfu, h⟩ := bind_some_iff h
   obtain ⟨h1, h2⟩ := hX.call h
   exact ⟨fu.1, fu.2, hfu, h1, h2⟩
 · cases h
theorem xRet_sound {r : XR} {o : Option (ARes × Mem)} (hd : slotOK dst = true) (h : xRet s dst o = some r) : ∃ q m', o = some (q, m') ∧ ∀ r' H', (r' = q ∧ H' = m'.H) → onRes (fun v H' => KOk r (s.a.put dst v) H') (KPan r) r' H' := by
 unfold xRet at h
 obtain ⟨rm, hrm, h⟩ := bind_some_iff h
 obtain ⟨q, m'⟩ := rm
 refine ⟨q, m', hrm, ?_⟩
 rintro r' H' ⟨rfl, rfl⟩
 cases r' with
 | ret v => cases h; exact ⟨_, rfl, (St.putm_a hd).symm, St.putm_H.symm⟩
 | pan v => cases h; exact ⟨_, rfl, rfl⟩
theorem xWrite_sound {r : XR} {v : Value} {i : Nat} {b : ABlk} (hd : slotOK dst = true) (h : xWrite s dst v i b = some r) : KOk r (s.a.put dst v) (upd s.H i b) := by
 unfold xWrite at h
 obtain ⟨x, hx, h⟩ := bind_some_iff h
 obtain ⟨hi, h⟩ := cond_none h
 cases h
 refine ⟨_, rfl, (St.putm_a hd).symm, ?_⟩
 rw [St.putm_H, Mem.put_H hi, XB.of_a hx]
 rfl
theorem app_grow {H H' : AHeap} {t : TypeId} {u v : Value} {n : Nat} {b : ABlk} (h : aAppend P H t u v = some (.grow H' n b)) : (u = .slice none 0 0 ∧ H' = H) ∨ ∃ i n c, u = .slice (some ⟨i, 0, none⟩) n c ∧ H' = del H i := by
 have _ := TT.tt
 have _ := PR.prog
 unfold aAppend at h
 obtain ⟨e, he, h1⟩ := option_bind_some h
 clear h
 obtain ⟨s, hs, h2⟩ := option_bind_some h1
 clear h1
 obtain ⟨by_, hby, h3⟩ := option_bind_some h2
 clear h2
 obtain ⟨z, hz, h4⟩ := option_bind_some h3
 clear h3
 obtain ⟨kx, hkx, h⟩ := option_bind_some h4
 clear h4
 split at h
 · split at h
   · split at h
     · cases h
     · split at h
       · cases h; exact .inl ⟨rfl, rfl⟩
       · cases h
   · split at h
     · cases h
     · split at h
       · split at h
         · split at h
           · cases hsb : storeB (.cells _ e .row) (_ * s) kx.2 with
             | none => rw [hsb] at h; cases h
             | some b' => rw [hsb] at h; cases h
           · split at h
             · cases h
               exact .inr ⟨_, _, _, rfl, rfl⟩
             · cases h
         · cases h
       · cases h
   · cases h
 · cases h
theorem xAppend_sound (htt : TT.tt = true) {r : XR} {t : TypeId} {u v : Value} (hd : slotOK dst = true) (h : xAppend P s dst t u v = some r) : bindO (aAppend P s.H t u v) fun q => match q with
    | .same v => KOk r (s.a.put dst v) s.H
    | .inpl v i b => KOk r (s.a.put dst v) (upd s.H i b)
    | .grow H' n b => pick H' fun j => KOk r (s.a.put dst (.slice (some ⟨j, 0, none⟩) n n)) (upd H' j b) := by
 unfold xAppend at h
 obtain ⟨q, hq, h⟩ := bind_some_iff h
 refine ⟨q, hq, ?_⟩
 cases q with
 | same v => cases h; exact ⟨_, rfl, (St.put_a hd).symm, St.put_H.symm⟩
 | inpl v i b => exact xWrite_sound hd h
 | grow H' n b =>
  simp only at h ⊢
  obtain ⟨x, hx, h⟩ := bind_some_iff h
  rcases app_grow hq with ⟨rfl, rfl⟩ | ⟨i, n', c, rfl, rfl⟩
  · simp only at h
    obtain ⟨hf, h⟩ := cond_none h
    cases h
    obtain ⟨e1, e2⟩ := Mem.new_H (b := x) hf
    refine .inl ⟨htt, _, e2, _, rfl, (St.putm_a hd).symm, ?_⟩
    rw [St.putm_H, e1, XB.of_a hx]
    rfl
  · simp only at h
    obtain ⟨hf, h⟩ := cond_none h
    cases h
    simp only [Bool.and_eq_true] at hf
    obtain ⟨e1, e2⟩ := Mem.new_H (b := x) hf.1
    have e3 : (s.m.put i .dead).H = del s.H i := by rw [Mem.put_H hf.2]; rfl
    rw [e3] at e1 e2
    refine .inl ⟨htt, _, e2, _, rfl, (St.putm_a hd).symm, ?_⟩
    rw [St.putm_H, e1, XB.of_a hx]
theorem xBuiltin_sound (htt : TT.tt = true) {r : XR} {bi : Builtin} {args : List Operand} {ats : List TypeId} (hd : slotOK dst = true) (h : xBuiltin P s dst bi args ats = some r) : AEff P ro s.a s.H dst (KOk r) (KPan r) (.call ⟨.builtin bi, ⟨args⟩, ⟨ats⟩⟩) := by
 unfold xBuiltin at h
 cases bi with
 | append =>
  simp only at h
  split at h
  · rename_i x y t t'
    obtain ⟨ht, h⟩ := cond_none h
    have ht := Nat.eq_of_beq_eq_true ht
    obtain ⟨u, hu, h⟩ := bind_some_iff h
    obtain ⟨v, hv, h⟩ := bind_some_iff h
    simp only [AEff]
    exact ⟨ht, u, hu, v, hv, xAppend_sound htt hd h⟩
  · cases h
 | copy =>
  simp only at h
  split at h
  · rename_i x y t t'
    obtain ⟨u, hu, h⟩ := bind_some_iff h
    obtain ⟨v, hv, h⟩ := bind_some_iff h
    obtain ⟨q, hq, h⟩ := bind_some_iff h
    simp only [AEff]
    refine ⟨u, hu, v, hv, q, hq, ?_⟩
    obtain ⟨k, o⟩ := q
    cases o with
    | none => cases h; exact ⟨_, rfl, (St.put_a hd).symm, St.put_H.symm⟩
    | some ib => exact xWrite_sound hd h
  · cases h
 | clear =>
  simp only at h
  split at h
  · rename_i x t
    obtain ⟨u, hu, h⟩ := bind_some_iff h
    obtain ⟨q, hq, h⟩ := bind_some_iff h
    simp only [AEff]
    refine ⟨u, hu, q, hq, ?_⟩
    cases q with
    | none => cases h; exact ⟨_, rfl, (St.put_a hd).symm, St.put_H.symm⟩
    | some ib => exact xWrite_sound hd h
  · cases h
 | panic =>
  simp only at h
  split at h
  · rename_i x
    obtain ⟨u, hu, h⟩ := bind_some_iff h
    simp only [AEff]
    refine ⟨u, hu, ?_⟩
    split at h
    · cases h; exact ⟨_, rfl, rfl⟩
    · cases h
  · cases h
 | _ => cases h
theorem xItOn_sound (htt : TT.tt = true) {r : XR} {t : TypeId} {u : Value} (hd : slotOK dst = true) (h : xItOn P s dst t u = some r) :
    bindO (aRange P s.H t u) fun b => pick s.H fun j => KOk r (s.a.put dst (.pointer (some ⟨j, 0, none⟩))) (upd s.H j b) := by
 unfold xItOn at h
 obtain ⟨b, hb, h⟩ := bind_some_iff h
 obtain ⟨x, hx, h⟩ := bind_some_iff h
 obtain ⟨hf, h⟩ := cond_none h
 cases h
 obtain ⟨e1, e2⟩ := Mem.new_H (b := x) hf
 refine ⟨b, hb, .inl ⟨htt, _, e2, _, rfl, (St.putm_a hd).symm, ?_⟩⟩
 rw [St.putm_H, e1, XB.of_a hx]
 rfl
theorem xNext_sound {r : XR} {u : Value} (hd : slotOK dst = true) (h : xNext s dst u = some r) : ANext s.H u fun v H' => KOk r (s.a.put dst v) H' := by
 unfold xNext at h
 split at h
 · rename_i r0
   split at h
   · rename_i i sn seen c hH
     split at h
     · rename_i es hi
       obtain ⟨hc, h⟩ := cond_none h
       simp only [Bool.and_eq_true, Nat.ble_eq] at hc
       simp only [ANext, hH, hi]
       refine ⟨hc, ?_⟩
       split at h
       · rename_i hl
         cases h
         rw [hl]
         exact ⟨fun _ => ⟨_, rfl, (St.put_a hd).symm, St.put_H.symm⟩, fun j hj => by cases hj⟩
       · rename_i j hl
         obtain ⟨e, he, h⟩ := bind_some_iff h
         rw [hl]
         refine ⟨fun hn => (by cases hn), fun k hk e2 he2 => ?_⟩
         obtain rfl : k = j := List.mem_singleton.1 hk
         rw [he] at he2
         cases he2
         exact xWrite_sound hd h
       · cases h
     · cases h
   · cases h
 · cases h
theorem xEff_sound (htt : TT.tt = true) (hX : Sound P N X) {r : XR} {op : Op} (hd : slotOK dst = true) (h : xEff X P ro s dst op = some r) : AEff P ro s.a s.H dst (KOk r) (KPan r) op := by
 unfold xEff at h
 cases op with
 | store t x y =>
  simp only at h
  obtain ⟨u, hu, h⟩ := bind_some_iff h
  obtain ⟨v, hv, h⟩ := bind_some_iff h
  simp only [AEff]
  refine ⟨u, hu, v, hv, ?_⟩
  split at h
  · rename_i i o
    split at h
    · rename_i hsz
      obtain ⟨b, hb, h⟩ := bind_some_iff h
      exact ⟨hsz, b, hb, xWrite_sound hd h⟩
    · cases h
  · cases h
 | mapUpdate t x k y =>
  simp only at h
  obtain ⟨u, hu, h⟩ := bind_some_iff h
  obtain ⟨kv, hk, h⟩ := bind_some_iff h
  obtain ⟨v, hv, h⟩ := bind_some_iff h
  obtain ⟨q, hq, h⟩ := bind_some_iff h
  simp only [AEff]
  exact ⟨u, hu, kv, hk, v, hv, q, hq, xWrite_sound hd h⟩
 | range t x =>
  simp only at h
  obtain ⟨u, hu, h⟩ := bind_some_iff h
  simp only [AEff]
  exact ⟨u, hu, xItOn_sound htt hd h⟩
 | next x st =>
  cases st with
  | true => cases h
  | false =>
   simp only [cond_false] at h
   obtain ⟨u, hu, h⟩ := bind_some_iff h
   simp only [AEff]
   exact ⟨u, hu, xNext_sound hd h⟩
 | entry x =>
  simp only at h
  obtain ⟨u, hu, h⟩ := bind_some_iff h
  obtain ⟨v, hv, h⟩ := bind_some_iff h
  cases h
  simp only [AEff]
  exact ⟨u, hu, v, hv, _, rfl, (St.put_a hd).symm, St.put_H.symm⟩
 | insert t x k y =>
  simp only at h
  obtain ⟨u, hu, h⟩ := bind_some_iff h
  obtain ⟨kv, hk, h⟩ := bind_some_iff h
  obtain ⟨v, hv, h⟩ := bind_some_iff h
  obtain ⟨q, hq, h⟩ := bind_some_iff h
  simp only [AEff]
  exact ⟨u, hu, kv, hk, v, hv, q, hq, xWrite_sound hd h⟩
 | panic x =>
  simp only at h
  obtain ⟨u, hu, h⟩ := bind_some_iff h
  simp only [AEff]
  refine ⟨u, hu, ?_⟩
  split at h
  · cases h; exact ⟨_, rfl, rfl⟩
  · cases h
 | defer c =>
  simp only at h
  unfold xDefer at h
  split at h
  · rename_i f hc
    obtain ⟨fv, hfv, h⟩ := bind_some_iff h
    obtain ⟨vs, hvs, h⟩ := bind_some_iff h
    simp only [AEff]
    refine ⟨trivial, ?_⟩
    rw [hc]
    refine ⟨fv, hfv, vs, hvs, ?_⟩
    split at h
    · cases h
      refine ⟨_, rfl, ?_, ?_⟩
      · rw [St.put_a hd]; rfl
      · rw [St.put_H]; rfl
    · cases h
  · cases h
 | call c =>
  simp only at h
  obtain ⟨callee, args, ats⟩ := c
  unfold xCall at h
  cases callee with
  | value f =>
   simp only at h
   obtain ⟨fv, hfv, h⟩ := bind_some_iff h
   obtain ⟨vs, hvs, h⟩ := bind_some_iff h
   obtain ⟨q, m', hq, hK⟩ := xRet_sound hd h
   simp only [AEff]
   exact ⟨fv, hfv, vs, hvs, ACall_mono hK (xFnVal_sound hX hq)⟩
  | invoke rv name =>
   simp only at h
   obtain ⟨fv, hfv, h⟩ := bind_some_iff h
   obtain ⟨vs, hvs, h⟩ := bind_some_iff h
   obtain ⟨q, m', hq, hK⟩ := xRet_sound hd h
   simp only [AEff]
   exact ⟨fv, hfv, vs, hvs, AInvoke_mono hK (xInvoke_sound hX hq)⟩
  | builtin b => exact xBuiltin_sound htt hd h
 | _ => cases h
theorem xOp_sound (htt : TT.tt = true) (hX : Sound P N X) {r : XR} {op : Op} (h : xOp X P ro s dst op = some r) : AOp P ro s.a s.H dst op (KOk r) (KPan r) := by
 unfold xOp at h
 obtain ⟨hd, h⟩ := cond_none h
 unfold AOp
 split at h
 · rename_i v hv
   rw [hv]
   cases h
   exact ⟨_, rfl, (St.put_a hd).symm, St.put_H.symm⟩
 · rename_i hv
   rw [hv]
   simp only
   split at h
   · rename_i b mk ha
     rw [ha]
     obtain ⟨x, hx, h⟩ := bind_some_iff h
     obtain ⟨hf, h⟩ := cond_none h
     cases h
     obtain ⟨e1, e2⟩ := Mem.new_H (b := x) hf
     refine .inl ⟨htt, _, e2, _, rfl, (St.putm_a hd).symm, ?_⟩
     rw [St.putm_H, e1, XB.of_a hx]
     rfl
   · rename_i ha
     rw [ha]
     exact xEff_sound htt hX hd h
end
end Go.Ab
