/- Where a number stands among rising ones: slices.BinarySearch. Nothing that was there is written. -/
import Derived.Test.YtpolpkheaibonaaNumsTo
import Derived.Test.YtpolpkheaibonaaClaimMath
namespace Go.Proofs.Ytpolpkheaibonaa
open Go.RowKit Go.Joins
set_option linter.unusedVariables false

/-- Of rising numbers a later one is greater. -/
theorem riseB_lt {p : Int} {l : List Int} (h : riseB p l = true) : ∀ (i j : Nat) x y, i < j → l[i]? = some x → l[j]? = some y → x < y := by
  induction l generalizing p with
  | nil => intro i j x y _ hx; simp at hx
  | cons z r ih =>
    obtain ⟨h0, h1, h2⟩ := riseB_cons h
    intro i j x y hij hx hy
    rcases j with _ | j
    · omega
    have hy' : r[j]? = some y := by simpa using hy
    rcases i with _ | i
    · have hz : z = x := by simpa using hx
      subst hz
      exact (riseB_mem h2 y (List.mem_of_getElem? hy')).1
    · exact ih h2 i j x y (by omega) (by simpa using hx) hy'
theorem rise_at {p : Int} {l : List Int} (h : riseB p l = true) : ∀ i j, i ≤ j → j < l.length → numAt l i ≤ numAt l j := by
  intro i j hij hj
  rcases Nat.eq_or_lt_of_le hij with rfl | hlt
  · exact Int.le_refl _
  · exact Int.le_of_lt (riseB_lt h i j _ _ hlt (numAt_some (by omega)) (numAt_some hj))
/-- Where the look for x ends, there it stands, if it does. -/
theorem search_there {p : Int} {l : List Int} (h : riseB p l = true) (x : Int) (i : Nat) (hb : ∀ t, t < i → numAt l t < x) (ha : ∀ t, i ≤ t → t < l.length → x ≤ numAt l t) (hi : i ≤ l.length) :
    i = cntI l x ∧ decide (x ∈ l) = decide (i < l.length ∧ numAt l i = x) := by
  refine ⟨cntI_of hi (fun j y hj hy => ?_) (fun y hy => ?_), ?_⟩
  · have := hb j hj
    have hl := (List.getElem?_eq_some_iff.1 hy).1
    rw [numAt_some hl] at hy
    rw [← Option.some.inj hy]
    exact this
  · have hl := (List.getElem?_eq_some_iff.1 hy).1
    have := ha i (Nat.le_refl _) hl
    rw [numAt_some hl] at hy
    rw [← Option.some.inj hy]
    omega
  · refine decide_eq_decide.2 ⟨fun hx => ?_, fun ⟨hl, hx⟩ => ?_⟩
    · obtain ⟨j, hj⟩ := List.getElem?_of_mem hx
      have hl := (List.getElem?_eq_some_iff.1 hj).1
      rw [numAt_some hl] at hj
      have hj := Option.some.inj hj
      have hij : i ≤ j := by
        rcases Nat.lt_or_ge j i with h' | h'
        · have := hb j h'
          omega
        · exact h'
      have h1 := rise_at h i j hij hl
      have h2 := ha i (Nat.le_refl _) (by omega)
      exact ⟨by omega, by omega⟩
    · rw [← hx]
      exact List.mem_of_getElem? (numAt_some hl)

end Go.Proofs.Ytpolpkheaibonaa
