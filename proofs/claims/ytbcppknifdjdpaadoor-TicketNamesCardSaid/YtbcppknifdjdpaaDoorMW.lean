/- the law TicketNames: a call in which a map of four entries is gone through, twice. -/
import Derived.Test.YtbcppknifdjdpaaDoorMU
import Derived.Test.YtbcppknifdjdpaaDoorMV
set_option maxRecDepth 100000
namespace Go.Ab
open Go Go.RowKit Go.Proofs
theorem tabX_ok : TabsOK Tryd.prog ⟨[], [cx0, cx1], []⟩ := by
  refine ⟨fun e he => (by cases he), fun e he => ?_, fun e he => (by cases he)⟩
  simp only [List.mem_cons, List.not_mem_nil, or_false] at he
  rcases he with rfl | rfl
  · exact cx0_ok
  · exact cx1_ok
theorem en1_ok : EntOK Tryd.prog en1 := known tabX_ok (by kernel_rfl)
end Go.Ab

