/- the table of closed calls. -/
import Derived.Test.YtopfgjchjjfdkaaMM
import Derived.Test.YtopfgjchjjfdkaaMN
import Derived.Test.YtopfgjchjjfdkaaMO
import Derived.Test.YtopfgjchjjfdkaaMP
import Derived.Test.YtopfgjchjjfdkaaMQ
import Derived.Test.YtopfgjchjjfdkaaMR
import Derived.Test.YtopfgjchjjfdkaaMS
import Derived.Test.YtopfgjchjjfdkaaMT
set_option maxRecDepth 100000
namespace Go.Ab
open Go Go.RowKit Go.Proofs
noncomputable def canTab : Tabs := ⟨[en5, en6, en7, en8, en9, en10, en11, en12, en13, en17, en18, en19, en20, en21, en22, en23, en24, en25, en26, en27, en28, en29, en30, en31, en32, en33, en34, en35], [], []⟩
theorem canTab_ok : TabsOK Try.prog canTab := by
  refine ⟨fun e he => ?_, fun e he => (by cases he), fun e he => (by cases he)⟩
  simp only [canTab, List.mem_cons, List.not_mem_nil, or_false] at he
  rcases he with rfl | rfl | rfl | rfl | rfl | rfl | rfl | rfl | rfl | rfl | rfl | rfl | rfl | rfl | rfl | rfl | rfl | rfl | rfl | rfl | rfl | rfl | rfl | rfl | rfl | rfl | rfl | rfl
  · exact en5_ok
  · exact en6_ok
  · exact en7_ok
  · exact en8_ok
  · exact en9_ok
  · exact en10_ok
  · exact en11_ok
  · exact en12_ok
  · exact en13_ok
  · exact en17_ok
  · exact en18_ok
  · exact en19_ok
  · exact en20_ok
  · exact en21_ok
  · exact en22_ok
  · exact en23_ok
  · exact en24_ok
  · exact en25_ok
  · exact en26_ok
  · exact en27_ok
  · exact en28_ok
  · exact en29_ok
  · exact en30_ok
  · exact en31_ok
  · exact en32_ok
  · exact en33_ok
  · exact en34_ok
  · exact en35_ok
end Go.Ab

