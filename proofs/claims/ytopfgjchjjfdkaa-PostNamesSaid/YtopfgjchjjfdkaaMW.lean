/- the law's own run. -/
import Derived.Test.YtopfgjchjjfdkaaMV
set_option maxRecDepth 100000
namespace Go.Ab
open Go Go.RowKit Go.Proofs
noncomputable def lawTab : Tabs := ⟨[en0, en1, en2, en3, en4, en14, en15, en16, en36, en37, en38, en39, en40, en41, en42, en43, en44], [], []⟩
theorem lawTab_ok : TabsOK Try.prog lawTab := by
  refine ⟨fun e he => ?_, fun e he => (by cases he), fun e he => (by cases he)⟩
  simp only [lawTab, List.mem_cons, List.not_mem_nil, or_false] at he
  rcases he with rfl | rfl | rfl | rfl | rfl | rfl | rfl | rfl | rfl | rfl | rfl | rfl | rfl | rfl | rfl | rfl | rfl
  · exact en0_ok
  · exact en1_ok
  · exact en2_ok
  · exact en3_ok
  · exact en4_ok
  · exact en14_ok
  · exact en15_ok
  · exact en16_ok
  · exact en36_ok
  · exact en37_ok
  · exact en38_ok
  · exact en39_ok
  · exact en40_ok
  · exact en41_ok
  · exact en42_ok
  · exact en43_ok
  · exact en44_ok
theorem en45_ok : EntOK Try.prog en45 := known lawTab_ok (by kernel_rfl)
noncomputable def lawTab2 : Tabs := ⟨en45 :: lawTab.ents, [], []⟩
theorem lawTab2_ok : TabsOK Try.prog lawTab2 := ⟨fun e he => by rcases List.mem_cons.1 he with rfl | he; exact en45_ok; exact lawTab_ok.ents e he, fun e he => (by cases he), fun e he => (by cases he)⟩
noncomputable def lawEnt : Ent := ⟨3, [], [], .bool true⟩
theorem law_known : EntOK Try.prog lawEnt := known lawTab2_ok (by kernel_rfl)
end Go.Ab

