/- What the model's and the program's NameRight answer: whether the text is a name. For every text; nothing that was there is written. -/
import Derived.Test.YtmimocoeojhjjaaOwn
namespace Go.Proofs.Ytmimocoeojhjjaa
open Go.RowKit
set_option linter.unusedVariables false

/-- A byte that may stand at that place of a name. -/
def nameByte (c : Int) (j : Nat) : Bool := (decide (97 ≤ c) && decide (c ≤ 122)) || (decide (j ≠ 0) && ((decide (48 ≤ c) && decide (c ≤ 57)) || decide (c = 95)))
def NameUpTo (s : ByteArray) (n : Nat) : Prop := ∀ j, j < n → nameByte (byteAt s j) j = true
instance (s : ByteArray) (n : Nat) : Decidable (NameUpTo s n) := inferInstanceAs (Decidable (∀ j, j < n → nameByte (byteAt s j) j = true))
def nameB (s : ByteArray) : Bool := decide (1 ≤ s.size ∧ s.size ≤ 20 ∧ NameUpTo s s.size)
theorem nameB_yes {s : ByteArray} (h1 : 1 ≤ s.size) (h2 : s.size ≤ 20) (h3 : NameUpTo s s.size) : nameB s = true := by simp [nameB, h1, h2, h3]
theorem nameB_short {s : ByteArray} (h1 : s.size < 1) : nameB s = false := by
  unfold nameB
  exact decide_eq_false (by omega)
theorem nameB_long {s : ByteArray} (h1 : 20 < s.size) : nameB s = false := by
  unfold nameB
  exact decide_eq_false (by omega)
theorem nameB_no {s : ByteArray} {j : Nat} (h : j < s.size) (hn : nameByte (byteAt s j) j = false) : nameB s = false := by
  unfold nameB
  refine decide_eq_false fun ⟨_, _, h3⟩ => ?_
  rw [h3 j h] at hn
  cases hn
theorem NameUpTo.zero (s : ByteArray) : NameUpTo s 0 := fun j hj => absurd hj (by omega)
theorem NameUpTo.next {s : ByteArray} {k : Nat} (h : NameUpTo s k) (hk : nameByte (byteAt s k) k = true) : NameUpTo s (k + 1) := by
  intro j hj
  rcases Nat.lt_or_ge j k with h' | h'
  · exact h j h'
  · obtain rfl : j = k := by omega
    exact hk

def letB (c : Int) : Bool := decide (97 ≤ c ∧ c ≤ 122)
def digB (c : Int) : Bool := decide (48 ≤ c ∧ c ≤ 57)

end Go.Proofs.Ytmimocoeojhjjaa
