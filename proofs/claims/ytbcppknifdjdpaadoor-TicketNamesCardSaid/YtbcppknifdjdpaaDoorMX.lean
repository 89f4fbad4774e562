/- part of the engine. -/
import Derived.Test.YtbcppknifdjdpaaDoorMS
namespace Go.Ab
open Go Go.RowKit Go.Proofs
noncomputable def en2 : Ent := ⟨8, [.agg #[I 2, .slice (some ⟨1, 0, none⟩) 3 3], I 2], [some ([I (-30), I (-30)], 66), some ([I 0, I 0, I 0, I 10, I 11, I 2, I 3, I 1, I 8, I 8, I 3, I 4, I 0, I 40, I 41], 49)], .tuple #[I 2, I 0]⟩
noncomputable def en3 : Ent := ⟨9, [.agg #[I 2, .slice (some ⟨1, 0, none⟩) 3 3], I 2], [some ([I (-30), I (-30)], 66), some ([I 0, I 0, I 0, I 10, I 11, I 2, I 3, I 1, I 8, I 8, I 3, I 4, I 0, I 40, I 41], 49)], .tuple #[I 0, I 0, I 0]⟩
noncomputable def en4 : Ent := ⟨10, [.agg #[I 2, .slice (some ⟨1, 0, none⟩) 3 3], I 5], [some ([I (-30), I (-30)], 66), some ([I 0, I 0, I 0, I 10, I 11, I 2, I 3, I 1, I 8, I 8, I 3, I 4, I 0, I 40, I 41], 49)], .tuple #[I 1, .bool false, I 0]⟩
noncomputable def en5 : Ent := ⟨10, [.agg #[I 2, .slice (some ⟨1, 0, none⟩) 3 3], I 12], [some ([I (-30), I (-30)], 66), some ([I 0, I 0, I 0, I 10, I 11, I 2, I 3, I 1, I 8, I 8, I 3, I 4, I 0, I 40, I 41], 49)], .tuple #[I 4, .bool false, I 0]⟩
noncomputable def en6 : Ent := ⟨10, [.agg #[I 2, .slice (some ⟨1, 0, none⟩) 3 3], I 41], [some ([I (-30), I (-30)], 66), some ([I 0, I 0, I 0, I 10, I 11, I 2, I 3, I 1, I 8, I 8, I 3, I 4, I 0, I 40, I 41], 49)], .tuple #[I 4, .bool true, I 0]⟩
noncomputable def en7 : Ent := ⟨11, [.agg #[I 2, .slice (some ⟨1, 0, none⟩) 3 3], I 1, I 8], [some ([I (-30), I (-30)], 66), some ([I 0, I 0, I 0, I 10, I 11, I 2, I 3, I 1, I 8, I 8, I 3, I 4, I 0, I 40, I 41], 49)], .tuple #[I 0, I 0]⟩
noncomputable def en8 : Ent := ⟨11, [.agg #[I 2, .slice (some ⟨1, 0, none⟩) 3 3], I 1, I 38], [some ([I (-30), I (-30)], 66), some ([I 0, I 0, I 0, I 10, I 11, I 2, I 3, I 1, I 8, I 8, I 3, I 4, I 0, I 40, I 41], 49)], .tuple #[I 2, I 0]⟩
noncomputable def en9 : Ent := ⟨12, [.agg #[I 2, .slice (some ⟨1, 0, none⟩) 3 3]], [some ([I (-30), I (-30)], 66), some ([I 0, I 0, I 0, I 10, I 11, I 2, I 3, I 1, I 8, I 8, I 3, I 4, I 0, I 40, I 41], 49)], .tuple #[I 0, I 4]⟩
noncomputable def en10 : Ent := ⟨8, [.agg #[I 2, .slice (some ⟨1, 0, none⟩) 3 3], I 0], [some ([I (-30), I (-30)], 66), some ([I 0, I 0, I 0, I 10, I 11, I 2, I 3, I 1, I 8, I 8, I 3, I 4, I 0, I 38, I 39], 49)], .tuple #[I 0, I 10]⟩
noncomputable def en11 : Ent := ⟨8, [.agg #[I 2, .slice (some ⟨1, 0, none⟩) 3 3], I 1], [some ([I (-30), I (-30)], 66), some ([I 0, I 0, I 0, I 10, I 11, I 2, I 3, I 1, I 8, I 8, I 3, I 4, I 0, I 40, I 41], 49)], .tuple #[I 0, I 0]⟩
noncomputable def en12 : Ent := ⟨9, [.agg #[I 2, .slice (some ⟨1, 0, none⟩) 3 3], I 1], [some ([I (-30), I (-30)], 66), some ([I 0, I 0, I 0, I 10, I 11, I 2, I 3, I 1, I 8, I 8, I 3, I 4, I 0, I 40, I 41], 49)], .tuple #[I 1, I 1, I 0]⟩
noncomputable def en13 : Ent := ⟨10, [.agg #[I 2, .slice (some ⟨1, 0, none⟩) 3 3], I 11], [some ([I (-30), I (-30)], 66), some ([I 0, I 0, I 0, I 10, I 11, I 2, I 3, I 1, I 8, I 8, I 3, I 4, I 0, I 40, I 41], 49)], .tuple #[I 5, .bool false, I 0]⟩
noncomputable def en14 : Ent := ⟨11, [.agg #[I 2, .slice (some ⟨1, 0, none⟩) 3 3], I 0, I 40], [some ([I (-30), I (-30)], 66), some ([I 0, I 0, I 0, I 10, I 11, I 2, I 3, I 1, I 8, I 8, I 3, I 4, I 0, I 40, I 41], 49)], .tuple #[I 1, I 0]⟩
noncomputable def en15 : Ent := ⟨45, [.agg #[I 2, .slice (some ⟨1, 0, none⟩) 3 3]], [some ([I (-30), I (-30)], 66), some ([I 0, I 0, I 0, I 10, I 11, I 2, I 3, I 1, I 8, I 8, I 3, I 4, I 0, I 40, I 41], 49)], .tuple #[(G [36, 38]), I 0]⟩
noncomputable def en16 : Ent := ⟨46, [.agg #[I 2, .slice (some ⟨1, 0, none⟩) 3 3]], [some ([I (-30), I (-30)], 66), some ([I 0, I 0, I 0, I 10, I 11, I 2, I 3, I 1, I 8, I 8, I 3, I 4, I 0, I 40, I 41], 49)], .tuple #[(G [2, 2]), I 0]⟩
noncomputable def en17 : Ent := ⟨17, [.agg #[I 2, .slice (some ⟨1, 0, none⟩) 3 3]], [some ([I (-30), I (-30)], 66), some ([I 0, I 0, I 0, I 10, I 11, I 2, I 3, I 1, I 8, I 8, I 3, I 4, I 0, I 40, I 41], 49)], .tuple #[(G [1, 1]), I 0]⟩
noncomputable def en18 : Ent := ⟨12, [.agg #[I 2, .slice (some ⟨1, 0, none⟩) 3 3]], [some ([I (-30), I (-30)], 66), some ([I 0, I 0, I 0, I 10, I 11, I 2, I 3, I 1, I 8, I 8, I 3, I 4, I 0, I 38, I 39], 49)], .tuple #[I 5, I 0]⟩
noncomputable def en19 : Ent := ⟨8, [.agg #[I 2, .slice (some ⟨1, 0, none⟩) 3 3], I 0], [some ([I (-30), I (-30)], 66), some ([I 0, I 0, I 0, I 10, I 11, I 2, I 3, I 1, I 8, I 8, I 3, I 4, I 0, I 40, I 41], 49)], .tuple #[I 2, I 0]⟩
end Go.Ab

