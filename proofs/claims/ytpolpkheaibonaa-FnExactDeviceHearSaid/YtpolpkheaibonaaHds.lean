/- Rows of Heards: their size, a copy, alike, marked, read again by the laws' own functions. Nothing that was there is written, but what is marked. -/
import Derived.Test.YtpolpkheaibonaaRsOwn
import Derived.Test.YtpolpkheaibonaaQuiet
import Derived.Test.YtpolpkheaibonaaNumsTo
namespace Go.Proofs.Ytpolpkheaibonaa
open Go.RowKit
set_option linter.unusedVariables false

/-- One of them. -/
structure Hd where
  s : Int
  n : Int
  g : Int
/-- Its cells. -/
def hdL (x : Hd) : List Value := [.int .i64 x.s, .int .i64 x.n, .int .i64 x.g]
theorem hdL_len (x : Hd) : (hdL x).length = 3 := rfl
theorem hdL_one (x : Hd) : ∀ u ∈ hdL x, u.oneCell' = true := by
  intro u hu
  simp [hdL] at hu
  rcases hu with rfl | rfl | rfl <;> rfl
def hdAt (l : List Hd) (i : Nat) : Hd := l[i]?.getD ⟨0, 0, 0⟩
theorem hdAt_some {l : List Hd} {i : Nat} (h : i < l.length) : l[i]? = some (hdAt l i) := by
  unfold hdAt
  rw [List.getElem?_eq_getElem h]
  rfl
/-- The marks from q on. -/
def markHd (q : Nat) : Hd := ⟨((q : Nat) : Int), ((q + 1 : Nat) : Int), ((q + 2 : Nat) : Int)⟩
/-- m of them from k on. -/
def marksHd (k m : Nat) : List Hd := (List.range m).map fun i => markHd (k + 3 * i)
theorem marksHd_length (k m : Nat) : (marksHd k m).length = m := by simp [marksHd]
theorem marksHd_at {k m i : Nat} {x : Hd} (h : (marksHd k m)[i]? = some x) : i < m ∧ x = markHd (k + 3 * i) := by
  unfold marksHd at h
  rw [List.getElem?_map] at h
  obtain ⟨j, hj, rfl⟩ := Option.map_eq_some_iff.1 h
  obtain ⟨hi, rfl⟩ := List.getElem?_eq_some_iff.1 hj
  have hi' : i < m := by simpa using hi
  simp [hi']
theorem marksHd_get {k m i : Nat} (h : i < m) : (marksHd k m)[i]? = some (markHd (k + 3 * i)) := by
  unfold marksHd
  rw [List.getElem?_map, List.getElem?_range h]
  rfl
end Go.Proofs.Ytpolpkheaibonaa
