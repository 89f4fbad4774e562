/- package horse: the first two moves of one horse of which none can follow the other one. -/
import Derived.Test.YtamfplmmfbbabaaUU
set_option maxRecDepth 100000
namespace Go.Ab
open Go Go.RowKit Go.Proofs
def search (b : Nat → Bool) : Nat → Nat → Option Nat
  | 0, _ => none
  | r + 1, m => if b m then some m else search b r (m + 1)
def linkB (o : Nat → Int) (i j : Nat) : Bool := hasI (o i) j || hasI (o j) i
end Go.Ab
set_option maxRecDepth 100000
namespace Go.Ab
open Go Go.RowKit Go.Proofs
noncomputable def Con.when (C : Con) (r : ARes) : Con := { C with pre := fun x => C.pre x ∧ C.res x = r, res := fun _ => r }
theorem con_when {f : FuncId} {C : Con} (h : ConOK Try.prog f C) (r : ARes) : ConOK Try.prog f (C.when r) where
  calls := h.calls
  says x hp := (h.says x hp.1).mono fun r' H hr' => by rw [hr', hp.2]; rfl
  closed x hp := by have := h.closed x hp.1; rw [hp.2] at this; exact this
  atoms x hp := h.atoms x hp.1
  ro := h.ro
  small := h.small
  glob := h.glob
end Go.Ab
set_option maxRecDepth 100000
namespace Go.Ab
open Go Go.RowKit Go.Proofs
end Go.Ab
set_option maxRecDepth 100000
namespace Go.Ab
open Go Go.RowKit Go.Proofs
end Go.Ab
set_option maxRecDepth 100000
namespace Go.Ab
open Go Go.RowKit Go.Proofs
end Go.Ab
