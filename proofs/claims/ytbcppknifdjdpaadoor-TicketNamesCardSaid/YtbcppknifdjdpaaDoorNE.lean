/- part of the engine. -/
import Derived.Test.YtbcppknifdjdpaaDoorND
set_option maxRecDepth 100000
namespace Go.Ab
open Go Go.RowKit Go.Proofs
noncomputable def lawTab2 : Tabs := ⟨alEnt :: lawTab.ents, [], []⟩
theorem lawTab2_ok : TabsOK Tryd.prog lawTab2 := ⟨fun e he => by rcases List.mem_cons.1 he with rfl | he; exact al_known; exact lawTab_ok.ents e he, fun e he => (by cases he), fun e he => (by cases he)⟩
noncomputable def lawEnt : Ent := ⟨3, [], [some (Is [-30, -30], 66)], .bool true⟩
theorem law_known : EntOK Tryd.prog lawEnt := known lawTab2_ok (by kernel_rfl)
end Go.Ab

