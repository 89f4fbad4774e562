/- the chapter's examples, reckoned. -/
import Derived.Test.YtlagokpmmiinkaaGreatUR
import Derived.Test.YtlagokpmmiinkaaGreatUY
import Derived.Test.YtlagokpmmiinkaaGreatUZ
import Derived.Test.YtlagokpmmiinkaaGreatVA
import Derived.Test.YtlagokpmmiinkaaGreatVB
set_option maxRecDepth 100000
namespace Go.Ab
open Go Go.RowKit Go.Proofs
noncomputable def lawTab : Tabs := ⟨[en0, en1, en2, en3, en4, en5, en6, en7, en8, en9, en10, en11, en12, en13, en14, en15, en16, en17, en18, en19, en20, en21, en22, en23, en24, en25, en26, en27, en28, en29, en30, en31], [], []⟩
theorem lawTab_ok : TabsOK Tryz.prog lawTab := by
  refine ⟨fun e he => ?_, fun e he => (by cases he), fun e he => (by cases he)⟩
  simp only [lawTab, List.mem_cons, List.not_mem_nil, or_false] at he
  rcases he with rfl | rfl | rfl | rfl | rfl | rfl | rfl | rfl | rfl | rfl | rfl | rfl | rfl | rfl | rfl | rfl | rfl | rfl | rfl | rfl | rfl | rfl | rfl | rfl | rfl | rfl | rfl | rfl | rfl | rfl | rfl | rfl
  · exact en0_ok
  · exact en1_ok
  · exact en2_ok
  · exact en3_ok
  · exact en4_ok
  · exact en5_ok
  · exact en6_ok
  · exact en7_ok
  · exact en8_ok
  · exact en9_ok
  · exact en10_ok
  · exact en11_ok
  · exact en12_ok
  · exact en13_ok
  · exact en14_ok
  · exact en15_ok
  · exact en16_ok
  · exact en17_ok
  · exact en18_ok
  · exact en19_ok
  · exact en20_ok
  · exact en21_ok
  · exact en22_ok
  · exact en23_ok
  · exact en24_ok
  · exact en25_ok
  · exact en26_ok
  · exact en27_ok
  · exact en28_ok
  · exact en29_ok
  · exact en30_ok
  · exact en31_ok
noncomputable def alEnt : Ent := ⟨14, [], [], .bool true⟩
theorem al_run : entO Tryz.prog lawTab 1000000 alEnt = true := by kernel_rfl
theorem al_known : EntOK Tryz.prog alEnt := known lawTab_ok al_run
end Go.Ab
