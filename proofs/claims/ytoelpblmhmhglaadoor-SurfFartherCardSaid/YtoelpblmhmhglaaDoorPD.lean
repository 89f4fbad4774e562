/- package surf: the law SurfTrue, of valid surfs with hours and huts. -/
import Derived.Test.YtoelpblmhmhglaaDoorPA
import Derived.Test.YtoelpblmhmhglaaDoorPC
set_option maxRecDepth 100000
namespace Go.Ab
open Go Go.RowKit Go.Proofs
def rwH (u : Nat → Hut) (i : Nat) : Raw := ⟨(u i).fl, (u i).br, (u i).row⟩
section
variable {rw : Nat} {st : Int} {n cw cv m cu k d j : Nat} {w v : Nat → Sp} {u : Nat → Hut} {bs : Nat → Int}
theorem okSu_of {rw st : Int} (hS : SOK rw st n w v) (hU : HUK rw m u) : okSu rw st n n m w v (rwH u) = true := by
 have h1 := hS.rw1
 have h2 := hS.rw6
 have h3 := hS.st0
 have h4 := hS.st4
 have h5 := hS.n8
 have h6 := hU.m5
 have e : IntKind.i64.wrap (rw - 1) = rw - 1 := wrapI (by omega) (by omega)
 have a1 : allF (hoB w v) n 0 = true := (allF_iff n 0).2 fun i _ hi => by
  obtain ⟨w0, w1, w2, w3⟩ := hS.w i (by omega)
  obtain ⟨v0, v1, v2, v3⟩ := hS.v i (by omega)
  have ew : IntKind.i64.wrap ((w i).hi - (w i).lo) = (w i).hi - (w i).lo := wrapI (by omega) (by omega)
  have ev : IntKind.i64.wrap ((v i).hi - (v i).lo) = (v i).hi - (v i).lo := wrapI (by omega) (by omega)
  simp only [hoB, spB, ew, ev, Bool.and_eq_true, decide_eq_true_eq]
  omega
 have a2 : allF (huB rw (rwH u)) m 0 = true := (allF_iff m 0).2 fun i _ hi => by
  obtain ⟨u0, u1, u2, u3, u4⟩ := hU.u i (by omega)
  simp only [huB, inB, rwH, e, Bool.and_eq_true, decide_eq_true_eq]
  exact ⟨⟨decide_eq_true (by omega), decide_eq_true (by omega)⟩, ⟨decide_eq_true (by omega), decide_eq_true (by omega)⟩, decide_eq_true (by omega), by omega⟩
 unfold okSu
 rw [a1, a2]
 simp only [inB, Bool.and_eq_true, decide_eq_true_eq, Bool.not_eq_true', decide_eq_false_iff_not, bne_self_eq_false]
 exact ⟨⟨h1, h2⟩, ⟨h3, h4⟩, by omega, trivial, by omega, trivial, trivial⟩
theorem C11t_ok : ConOK Tryd.prog 11 (C11t tabC) := C11_ok
theorem lne {a : Nat} {b : Nat} (h : a ≠ b) : (((a : Nat) : Int) != (b : Int)) = true := by
 simp only [bne_iff_ne, ne_eq]; omega
theorem leq {a : Nat} {b : Nat} (h : a = b) : (((a : Nat) : Int) != (b : Int)) = false := by subst h; simp
end
end Go.Ab
