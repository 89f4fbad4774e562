/- WHAT THE RECKONER OF CONDITIONS GIVES OVER THIS PROGRAM; calls whose order is not fixed. -/
import Derived.Test.YtlagokpmmiinkaaGreatUW
import Derived.Test.YtlagokpmmiinkaaGreatUK
set_option maxRecDepth 100000
namespace Go.Ab
open Go Go.RowKit Go.Proofs
noncomputable def vx : Vx := vex Tryz.prog 1000000
theorem vx_sound : VSound Tryz.prog 1000000 vx := vex_sound rfl rfl mixed callable _
theorem entOK_vx {e : Ent} {hs : HS} (h : vx.call e.f e.args (retK fun r => r = .ret e.r) e.mem hs) (hc : cl 50 e.r = true) (hb : e.bs.length ≤ 1000000) (hg : Tryz.prog.globals.size ≤ e.bs.length) : EntOK Tryz.prog e where
  calls := (vx_sound.call h).1
  says := (vx_sound.call h).2.mono fun _ _ ⟨_, _, hk, _⟩ => hk
  closed := hc
  small := hb
  glob := hg
def alts : Nat → Prop → Prop
  | 0, _ => True
  | n + 1, X => X ∧ alts n X
def perms : Nat → Prop → Prop
  | 0, X => X
  | 1, X => X
  | n + 2, X => alts (n + 2) (perms (n + 1) X)
theorem alts_of {X : Prop} (h : X) : ∀ n, alts n X
  | 0 => trivial
  | n + 1 => ⟨h, alts_of h n⟩
theorem perms_of {X : Prop} (h : X) : ∀ n, perms n X
  | 0 => h
  | 1 => h
  | n + 2 => alts_of (perms_of h (n + 1)) _
noncomputable def xK (e : EntX) (R : ARes → Prop) : ARes → Mem → HS → Prop := fun r m _ => cond (memSub e.m' m) (R r) False
theorem xOK_vx {e : EntX} {hs : HS} (h : vx.call e.f e.args (xK e fun r => r = e.r) e.m hs) : XOK Tryz.prog e where
  calls := (vx_sound.call h).1
  says := (vx_sound.call h).2.weaken (Sub.refl _) fun r' H' hr => by
    obtain ⟨m, hs', hk, rfl⟩ := hr
    obtain ⟨h1, h2⟩ := cond_false' (show cond (memSub e.m' m) (r' = e.r) False from hk)
    unfold memSub at h1
    cases hn : Nat.beq e.m'.nx m.nx with
    | false => rw [hn] at h1; cases h1
    | true =>
      rw [hn] at h1
      exact ⟨e.m'.H, cmpBlk_sub h1, h2, rfl⟩
end Go.Ab
