/- What the model's GetText answers: the text that stands at a place, the place behind it, or a code. For every text and every place; nothing that was there is written. -/
import Derived.Test.YteempfbcjlbcnaaDoorGetNum
import Derived.RegionTactic
import Derived.ChangeAlike
import Derived.BigRegion
import Derived.IntWalk
import Derived.StillTailTactics
namespace Go.Proofs.YteempfbcjlbcnaaDoor
open Go.RowKit
set_option linter.unusedVariables false

theorem textOut_self (x : ByteArray) (a c : Int) : textOut x.data.toList a c = .agg #[.string x, .int .i64 a, .int .i64 c] := by
  unfold textOut
  simp

/-- A number that is read has its place within the text. -/
theorem getF_ok (s : ByteArray) (p : Nat) : ∀ (f i : Nat) (x n b : Int), getF s p f i x = (n, b, 0) → 1 ≤ b ∧ b ≤ s.size := by
  intro f
  induction f with
  | zero => intro i x n b h; simp [getF] at h
  | succ f ih =>
    intro i x n b h
    rw [getF] at h
    split at h
    · simp at h
    split at h
    · simp at h
    split at h
    · split at h
      · simp at h
      · simp at h
        omega
    · exact ih _ _ _ _ h

/-- What a number read at a place makes of a text. -/
def textR (s : ByteArray) (R : Int × Int × Int) : List UInt8 × Int × Int :=
  if R.2.2 ≠ 0 then ([], 0, R.2.2) else if R.1 < 0 ∨ 8000 < R.1 then ([], 0, 3) else if (s.size : Int) - R.1 < R.2.1 then ([], 0, 4)
  else ((s.extract R.2.1.toNat (R.2.1 + R.1).toNat).data.toList, R.2.1 + R.1, 0)
theorem getNumR_cases (s : ByteArray) (a : Int) : (∃ n b, getNumR s a = (n, b, 0) ∧ 1 ≤ b ∧ b ≤ s.size ∧ s.size ≤ 8000) ∨ ∃ c, 1 ≤ c ∧ getNumR s a = (0, 0, c) := by
  unfold getNumR
  split
  · exact .inr ⟨2, by omega, rfl⟩
  split
  · exact .inr ⟨1, by omega, rfl⟩
  · rcases getF_two s a.toNat 10 0 0 with ⟨n, b, h⟩ | ⟨c, hc, h⟩
    · exact .inl ⟨n, b, h, (getF_ok s _ _ _ _ _ _ h).1, (getF_ok s _ _ _ _ _ _ h).2, by omega⟩
    · exact .inr ⟨c, hc, h⟩


end Go.Proofs.YteempfbcjlbcnaaDoor
