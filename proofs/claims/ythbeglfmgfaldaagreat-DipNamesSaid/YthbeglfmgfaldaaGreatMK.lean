/- WHAT IS CLOSED ABOUT THIS PROGRAM, for the reckoner. -/
import Derived.Test.YthbeglfmgfaldaaGreatMJ
import Derived.Test.YthbeglfmgfaldaaGreatChecked
namespace Go.Ab
open Go Go.RowKit Go.Proofs
instance freeNames : TT := ⟨true⟩
noncomputable instance theProg : PR := ⟨Tryz.prog⟩
theorem callable_all {P : Program} (h : (P.funcs.toList.all fun fn => !(fn.name == "runtime.NumGoroutine")) = true) : ∀ f fn c, P.funcs[f]? = some fn → fn.body = some c → Callable P f := by
  intro f fn c hf hb args w
  have hm : fn ∈ P.funcs.toList := by
    obtain ⟨h1, h2⟩ := Array.getElem?_eq_some_iff.1 hf
    rw [← h2]; simp
  have hn := (List.all_eq_true.1 h) fn hm
  have hn' : (fn.name == "runtime.NumGoroutine") = false := by simpa using hn
  have hn2 : ¬ fn.name = "runtime.NumGoroutine" := by simpa using hn'
  simp [callFunc, hf, hn2, hb]
theorem mixed : Tryz.prog.follows .mixedOrders = true := by kernel_rfl
theorem callable : ∀ f fn c, Tryz.prog.funcs[f]? = some fn → fn.body = some c → Callable Tryz.prog f := callable_all (by kernel_rfl)
theorem known {T : Tabs} (hT : TabsOK Tryz.prog T) {e : Ent} (h : entO Tryz.prog T 1000000 e = true) : EntOK Tryz.prog e := entO_ok rfl rfl mixed callable hT 1000000 h
theorem knownX {T : Tabs} (hT : TabsOK Tryz.prog T) {e : EntX} (h : entXO Tryz.prog T 1000000 e = true) : XOK Tryz.prog e := entXO_ok rfl rfl mixed callable hT 1000000 h
theorem knownL {T : Tabs} (hT : TabsOK Tryz.prog T) {e : EntL} (h : entLO Tryz.prog T 1000000 e = true) : LOK Tryz.prog e := entLO_ok rfl rfl mixed callable hT 1000000 h
theorem tabs0 : TabsOK Tryz.prog ⟨[], [], []⟩ := ⟨fun _ h => (by cases h), fun _ h => (by cases h), fun _ h => (by cases h)⟩
theorem tabs1 {e : EntL} (h : LOK Tryz.prog e) : TabsOK Tryz.prog ⟨[], [], [e]⟩ := ⟨fun _ h => (by cases h), fun _ h => (by cases h), fun x hx => by rcases List.mem_cons.1 hx with rfl | hx; exact h; cases hx⟩
/-- Numbers, written short. -/
def I (n : Int) : Value := .int .i64 n
def G (l : List Int) : Value := .agg ⟨l.map I⟩
def Is (l : List Int) : List Value := l.map I
def K3 (a b c v : Int) : Value × Value := (.agg #[I a, I b, I c], I v)
end Go.Ab

