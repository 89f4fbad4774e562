/- the table of closed calls. -/
import Derived.Test.YthbeglfmgfaldaaGreatMM
import Derived.Test.YthbeglfmgfaldaaGreatMN
import Derived.Test.YthbeglfmgfaldaaGreatMO
import Derived.Test.YthbeglfmgfaldaaGreatMP
set_option maxRecDepth 100000
namespace Go.Ab
open Go Go.RowKit Go.Proofs
noncomputable def hasTab : Tabs := ⟨[en0, en1, en2, en3, en4, en5, en6, en7, en8, en9, en10, en11, en12, en13], [], []⟩
theorem hasTab_ok : TabsOK Tryz.prog hasTab := by
  refine ⟨fun e he => ?_, fun e he => (by cases he), fun e he => (by cases he)⟩
  simp only [hasTab, List.mem_cons, List.not_mem_nil, or_false] at he
  rcases he with rfl | rfl | rfl | rfl | rfl | rfl | rfl | rfl | rfl | rfl | rfl | rfl | rfl | rfl
  · exact en0_ok
  · exact en1_ok
  · exact en2_ok
  · exact en3_ok
  · exact en4_ok
  · exact en5_ok
  · exact en6_ok
  · exact en7_ok
  · exact en8_ok
  · exact en9_ok
  · exact en10_ok
  · exact en11_ok
  · exact en12_ok
  · exact en13_ok
end Go.Ab

