import Derived.Test.YtmnpnakbofobiaaDoorLawT
set_option maxRecDepth 100000
namespace Go.Ab
open Go Go.RowKit Go.Proofs
/-- The law's call, in memory that holds nothing but the two tables. -/
noncomputable def lawEnt : Ent := ⟨3, [], [some (Is [0, 1, 3, 6, 9, 11, 12], 154), some (Is [1, 2, 3, 3, 2, 1, 0], 154)], .bool true⟩
theorem law_known : EntOK Tryd.prog lawEnt := known lawTab_ok (by kernel_rfl)
end Go.Ab
