/- the law's own run. -/
import Derived.Test.YthbeglfmgfaldaaGreatMU
set_option maxRecDepth 100000
namespace Go.Ab
open Go Go.RowKit Go.Proofs
noncomputable def lawTab2 : Tabs := ⟨alEnt :: lawTab.ents, [], []⟩
theorem lawTab2_ok : TabsOK Tryz.prog lawTab2 := ⟨fun e he => by rcases List.mem_cons.1 he with rfl | he; exact al_known; exact lawTab_ok.ents e he, fun e he => (by cases he), fun e he => (by cases he)⟩
noncomputable def lawEnt : Ent := ⟨6, [], [], .bool true⟩
theorem law_run : entO Tryz.prog lawTab2 1000000 lawEnt = true := by kernel_rfl
theorem law_known : EntOK Tryz.prog lawEnt := known lawTab2_ok law_run
end Go.Ab

