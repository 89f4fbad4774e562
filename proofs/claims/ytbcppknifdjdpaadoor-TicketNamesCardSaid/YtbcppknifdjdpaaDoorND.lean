/- part of the engine. -/
import Derived.Test.YtbcppknifdjdpaaDoorMW
import Derived.Test.YtbcppknifdjdpaaDoorMY
import Derived.Test.YtbcppknifdjdpaaDoorMZ
import Derived.Test.YtbcppknifdjdpaaDoorNA
import Derived.Test.YtbcppknifdjdpaaDoorNB
import Derived.Test.YtbcppknifdjdpaaDoorNC
set_option maxRecDepth 100000
namespace Go.Ab
open Go Go.RowKit Go.Proofs
noncomputable def lawTab : Tabs := ⟨[en0, en1, en2, en3, en4, en5, en6, en7, en8, en9, en10, en11, en12, en13, en14, en15, en16, en17, en18, en19], [], []⟩
theorem lawTab_ok : TabsOK Tryd.prog lawTab := by
  refine ⟨fun e he => ?_, fun e he => (by cases he), fun e he => (by cases he)⟩
  simp only [lawTab, List.mem_cons, List.not_mem_nil, or_false] at he
  rcases he with rfl | rfl | rfl | rfl | rfl | rfl | rfl | rfl | rfl | rfl | rfl | rfl | rfl | rfl | rfl | rfl | rfl | rfl | rfl | rfl
  · exact en0_ok
  · exact en1_ok
  · exact en2_ok
  · exact en3_ok
  · exact en4_ok
  · exact en5_ok
  · exact en6_ok
  · exact en7_ok
  · exact en8_ok
  · exact en9_ok
  · exact en10_ok
  · exact en11_ok
  · exact en12_ok
  · exact en13_ok
  · exact en14_ok
  · exact en15_ok
  · exact en16_ok
  · exact en17_ok
  · exact en18_ok
  · exact en19_ok
noncomputable def alEnt : Ent := ⟨13, [], [some (Is [-30, -30], 66)], .bool true⟩
theorem al_known : EntOK Tryd.prog alEnt := known lawTab_ok (by kernel_rfl)
end Go.Ab

