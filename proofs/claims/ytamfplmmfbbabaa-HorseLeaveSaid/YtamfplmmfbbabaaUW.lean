/- part of the engine. -/
import Derived.Test.YtamfplmmfbbabaaUQ
set_option maxRecDepth 100000
namespace Go.Ab
open Go Go.RowKit Go.Proofs
noncomputable def awE : Ent := ⟨12, [], [], .bool true⟩
theorem aw_run : entO Try.prog ⟨[], [], []⟩ 1000000 awE = true := by kernel_rfl
theorem aw_ok : EntOK Try.prog awE := known tabs0 aw_run
end Go.Ab
