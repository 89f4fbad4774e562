/- WHAT IS CLOSED ABOUT THIS PROGRAM, for the reckoner. -/
import Derived.Test.YtoelpblmhmhglaaDoorOP
import Derived.Test.YtoelpblmhmhglaaDoorChecked
namespace Go.Ab
open Go Go.RowKit Go.Proofs
instance freeNames : TT := ⟨true⟩
noncomputable instance theProg : PR := ⟨Tryd.prog⟩
theorem callable_all {P : Program} (h : (P.funcs.toList.all fun fn => !(fn.name == "runtime.NumGoroutine")) = true) : ∀ f fn c, P.funcs[f]? = some fn → fn.body = some c → Callable P f := by
 intro f fn c hf hb args w
 have hm : fn ∈ P.funcs.toList := by
  obtain ⟨h1, h2⟩ := Array.getElem?_eq_some_iff.1 hf
  rw [← h2]; simp
 have hn := (List.all_eq_true.1 h) fn hm
 have hn' : (fn.name == "runtime.NumGoroutine") = false := by simpa using hn
 have hn2 : ¬ fn.name = "runtime.NumGoroutine" := by simpa using hn'
 simp [callFunc, hf, hn2, hb]
theorem mixed : Tryd.prog.follows .mixedOrders = true := by kernel_rfl
theorem callable : ∀ f fn c, Tryd.prog.funcs[f]? = some fn → fn.body = some c → Callable Tryd.prog f := callable_all (by kernel_rfl)
def I (n : Int) : Value := .int .i64 n
end Go.Ab
