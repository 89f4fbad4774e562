/- the table of closed calls. -/
import Derived.Test.YtlagokpmmiinkaaGreatUP
set_option maxRecDepth 100000
namespace Go.Ab
open Go Go.RowKit Go.Proofs
noncomputable def fitTab : Tabs := ⟨[en12, en13, en14, en15, en16, en17, en18, en19], [], []⟩
theorem fitTab_ok : TabsOK Tryz.prog fitTab := by
  refine ⟨fun e he => ?_, fun e he => (by cases he), fun e he => (by cases he)⟩
  simp only [fitTab, List.mem_cons, List.not_mem_nil, or_false] at he
  rcases he with rfl | rfl | rfl | rfl | rfl | rfl | rfl | rfl
  · exact en12_ok
  · exact en13_ok
  · exact en14_ok
  · exact en15_ok
  · exact en16_ok
  · exact en17_ok
  · exact en18_ok
  · exact en19_ok
end Go.Ab
