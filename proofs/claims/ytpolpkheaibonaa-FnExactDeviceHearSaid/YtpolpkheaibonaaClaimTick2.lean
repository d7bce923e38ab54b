/- A tick of a Claim: the model's and the program's. Nothing that was there is written. -/
import Derived.Test.YtpolpkheaibonaaClaimTick
import Derived.Test.YtpolpkheaibonaaClaimImpl
import Derived.Test.YtpolpkheaibonaaLit
namespace Go.Proofs.Ytpolpkheaibonaa
open Go.RowKit
set_option linter.unusedVariables false

/-- The Claim of which nothing is said. -/
def zeroCl : Cl := ⟨⟨0, 0, 0, 0, 0, 0, 0, false⟩, 0, 0, 0, []⟩
/-- The answer is that Claim, in memory of its own, with that Send and that Code. -/
def ClOut (w : World) (c : Cl) (s : Bool) (k : Int) (e : Ending) (w' : World) : Prop :=
  ∃ a cap, e = .returned (clOutV c.n c.ad c.st c.lf (.slice a c.tk.length cap) s k) ∧ NumsNew w.heap.size w'.heap.size w' a c.tk ∧ Below w.heap.size w w'
/-- What a tick answers. -/
def tickO (c : Cl) : Cl × Int := if clB c = true then (tickC c, 0) else (zeroCl, 1)
theorem tickC_form (n : Nm) (ad st lf : Int) (l : List Int) : tickC ⟨n, ad, st, lf, l⟩ = ⟨n, ad, (tickC ⟨n, ad, st, lf, l⟩).st, (tickC ⟨n, ad, st, lf, l⟩).lf, l⟩ := by
  unfold tickC
  split <;> rfl
theorem tickO_len (n : Nm) (ad st lf : Int) (l : List Int) (h : l.length ≤ 1048576) : ∃ (d : Cl) (c : Int), tickO ⟨n, ad, st, lf, l⟩ = (d, c) ∧ d.tk.length ≤ 1048576 := by
  unfold tickO
  split
  · rw [tickC_form]
    exact ⟨_, _, rfl, h⟩
  · exact ⟨_, _, rfl, by show ([] : List Int).length ≤ _; simp⟩
end Go.Proofs.Ytpolpkheaibonaa
