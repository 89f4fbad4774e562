/- the chapter's examples, reckoned. -/
import Derived.Test.YthbeglfmgfaldaaGreatMR
import Derived.Test.YthbeglfmgfaldaaGreatMS
import Derived.Test.YthbeglfmgfaldaaGreatMT
set_option maxRecDepth 100000
namespace Go.Ab
open Go Go.RowKit Go.Proofs
noncomputable def lawTab : Tabs := ⟨[en14, en15, en16, en17, en18, en19, en20, en21, en22, en23, en24, en25, en26, en27, en28, en29, en30], [], []⟩
theorem lawTab_ok : TabsOK Tryz.prog lawTab := by
  refine ⟨fun e he => ?_, fun e he => (by cases he), fun e he => (by cases he)⟩
  simp only [lawTab, List.mem_cons, List.not_mem_nil, or_false] at he
  rcases he with rfl | rfl | rfl | rfl | rfl | rfl | rfl | rfl | rfl | rfl | rfl | rfl | rfl | rfl | rfl | rfl | rfl
  · exact en14_ok
  · exact en15_ok
  · exact en16_ok
  · exact en17_ok
  · exact en18_ok
  · exact en19_ok
  · exact en20_ok
  · exact en21_ok
  · exact en22_ok
  · exact en23_ok
  · exact en24_ok
  · exact en25_ok
  · exact en26_ok
  · exact en27_ok
  · exact en28_ok
  · exact en29_ok
  · exact en30_ok
noncomputable def alEnt : Ent := ⟨14, [], [], .bool true⟩
theorem al_run : entO Tryz.prog lawTab 1000000 alEnt = true := by kernel_rfl
theorem al_known : EntOK Tryz.prog alEnt := known lawTab_ok al_run
end Go.Ab

