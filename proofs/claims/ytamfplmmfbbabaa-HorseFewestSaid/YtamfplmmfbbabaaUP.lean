/- WHAT IS CLOSED ABOUT THIS PROGRAM, for the reckoner. -/
import Derived.Test.YtamfplmmfbbabaaUO
import Derived.Test.YtamfplmmfbbabaaChecked
namespace Go.Ab
open Go Go.RowKit Go.Proofs
instance freeNames : TT := ⟨true⟩
noncomputable instance theProg : PR := ⟨Try.prog⟩
theorem callable_all {P : Program} (h : (P.funcs.toList.all fun fn => !(fn.name == "runtime.NumGoroutine")) = true) : ∀ f fn c, P.funcs[f]? = some fn → fn.body = some c → Callable P f := by
  intro f fn c hf hb args w
  have hm : fn ∈ P.funcs.toList := by
    obtain ⟨h1, h2⟩ := Array.getElem?_eq_some_iff.1 hf
    rw [← h2]; simp
  have hn := (List.all_eq_true.1 h) fn hm
  have hn' : (fn.name == "runtime.NumGoroutine") = false := by simpa using hn
  have hn2 : ¬ fn.name = "runtime.NumGoroutine" := by simpa using hn'
  simp [callFunc, hf, hn2, hb]
theorem mixed : Try.prog.follows .mixedOrders = true := by kernel_rfl
theorem callable : ∀ f fn c, Try.prog.funcs[f]? = some fn → fn.body = some c → Callable Try.prog f := callable_all (by kernel_rfl)
theorem known {T : Tabs} (hT : TabsOK Try.prog T) {e : Ent} (h : entO Try.prog T 1000000 e = true) : EntOK Try.prog e := entO_ok rfl rfl mixed callable hT 1000000 h
theorem knownX {T : Tabs} (hT : TabsOK Try.prog T) {e : EntX} (h : entXO Try.prog T 1000000 e = true) : XOK Try.prog e := entXO_ok rfl rfl mixed callable hT 1000000 h
theorem knownL {T : Tabs} (hT : TabsOK Try.prog T) {e : EntL} (h : entLO Try.prog T 1000000 e = true) : LOK Try.prog e := entLO_ok rfl rfl mixed callable hT 1000000 h
theorem tabs0 : TabsOK Try.prog ⟨[], [], []⟩ := ⟨fun _ h => (by cases h), fun _ h => (by cases h), fun _ h => (by cases h)⟩
theorem tabs1 {e : EntL} (h : LOK Try.prog e) : TabsOK Try.prog ⟨[], [], [e]⟩ := ⟨fun _ h => (by cases h), fun _ h => (by cases h), fun x hx => by rcases List.mem_cons.1 hx with rfl | hx; exact h; cases hx⟩
def I (n : Int) : Value := .int .i64 n
def G (l : List Int) : Value := .agg ⟨l.map I⟩
def Is (l : List Int) : List Value := l.map I
def K3 (a b c v : Int) : Value × Value := (.agg #[I a, I b, I c], I v)
end Go.Ab
