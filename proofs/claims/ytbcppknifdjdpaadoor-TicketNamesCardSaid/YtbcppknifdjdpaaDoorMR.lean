/- WHAT THE RECKONER OF CONDITIONS GIVES OVER THIS PROGRAM; calls whose order is not fixed. -/
import Derived.Test.YtbcppknifdjdpaaDoorMN
import Derived.Test.YtbcppknifdjdpaaDoorMQ
set_option maxRecDepth 100000
namespace Go.Ab
open Go Go.RowKit Go.Proofs
noncomputable def vx : Vx := vex Tryd.prog 1000000
theorem vx_sound : VSound Tryd.prog 1000000 vx := vex_sound rfl rfl mixed callable _
theorem entOK_vx {e : Ent} {hs : HS} (h : vx.call e.f e.args (retK fun r => r = .ret e.r) e.mem hs) (hc : cl 50 e.r = true) (hb : e.bs.length ≤ 1000000) (hg : Tryd.prog.globals.size ≤ e.bs.length) : EntOK Tryd.prog e where
  calls := (vx_sound.call h).1
  says := (vx_sound.call h).2.mono fun _ _ ⟨_, _, hk, _⟩ => hk
  closed := hc
  small := hb
  glob := hg
/-- Each of so many ways. -/
def alts : Nat → Prop → Prop
  | 0, _ => True
  | n + 1, X => X ∧ alts n X
/-- Whatever the order of so many. -/
def perms : Nat → Prop → Prop
  | 0, X => X
  | 1, X => X
  | n + 2, X => alts (n + 2) (perms (n + 1) X)
theorem alts_of {X : Prop} (h : X) : ∀ n, alts n X
  | 0 => trivial
  | n + 1 => ⟨h, alts_of h n⟩
theorem perms_of {X : Prop} (h : X) : ∀ n, perms n X
  | 0 => h
  | 1 => h
  | n + 2 => alts_of (perms_of h (n + 1)) _
/-- A call that goes through a map: its result, and what is known of memory behind it. -/
noncomputable def xK (e : EntX) (R : ARes → Prop) : ARes → Mem → HS → Prop := fun r m _ => cond (memSub e.m' m) (R r) False
theorem xOK_vx {e : EntX} {hs : HS} (h : vx.call e.f e.args (xK e fun r => r = e.r) e.m hs) : XOK Tryd.prog e where
  calls := (vx_sound.call h).1
  says := (vx_sound.call h).2.weaken (Sub.refl _) fun r' H' hr => by
    obtain ⟨m, hs', hk, rfl⟩ := hr
    obtain ⟨h1, h2⟩ := cond_false' (show cond (memSub e.m' m) (r' = e.r) False from hk)
    unfold memSub at h1
    cases hn : Nat.beq e.m'.nx m.nx with
    | false => rw [hn] at h1; cases h1
    | true =>
      rw [hn] at h1
      exact ⟨e.m'.H, cmpBlk_sub h1, h2, rfl⟩
end Go.Ab

