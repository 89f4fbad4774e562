/- the sort: insertion, by the program. -/
import Derived.Test.YtamfplmmfbbabaaVD
set_option maxRecDepth 100000
namespace Go.Ab
open Go Go.RowKit Go.Proofs
theorem cl1 {cs : List Value} (h : ∀ v ∈ cs, atomic v = true) {hs : Hs} : ClW ⟨hs, [cs], []⟩ := ⟨fun c hc => by simp only [List.mem_singleton] at hc; subst hc; exact h, fun es he => by cases he⟩
end Go.Ab
set_option maxRecDepth 100000
namespace Go.Ab
open Go Go.RowKit Go.Proofs
end Go.Ab
set_option maxRecDepth 100000
namespace Go.Ab
open Go Go.RowKit Go.Proofs
end Go.Ab
