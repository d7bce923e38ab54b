/- What a Claim becomes that hears another one's: the model's and the program's. Nothing that was there is written. -/
import Derived.Test.YtpolpkheaibonaaWithTaken
import Derived.Test.YtpolpkheaibonaaClaimTick2
import Derived.Test.YtpolpkheaibonaaClaimMake
import Derived.Test.YtpolpkheaibonaaNameLess3
namespace Go.Proofs.Ytpolpkheaibonaa
open Go.RowKit
set_option linter.unusedVariables false

/-- Two names are one. -/
def sameN (n m : Nm) : Bool := decide (n.u = m.u ∧ n.m = m.m ∧ n.i = m.i ∧ n.f = m.f ∧ n.c = m.c ∧ n.s = m.s ∧ n.y = m.y ∧ n.a = m.a)
theorem sameN_comm (n m : Nm) : sameN n m = sameN m n := by
  unfold sameN
  refine decide_eq_decide.2 ⟨?_, ?_⟩ <;> (rintro ⟨h0, h1, h2, h3, h4, h5, h6, h7⟩; exact ⟨h0.symm, h1.symm, h2.symm, h3.symm, h4.symm, h5.symm, h6.symm, h7.symm⟩)
theorem sameN_eq {n m : Nm} : sameN n m = true ↔ n = m := by
  unfold sameN
  rw [decide_eq_true_eq]
  obtain ⟨n0, n1, n2, n3, n4, n5, n6, n7⟩ := n
  obtain ⟨m0, m1, m2, m3, m4, m5, m6, m7⟩ := m
  dsimp only
  exact ⟨fun ⟨h0, h1, h2, h3, h4, h5, h6, h7⟩ => by rw [h0, h1, h2, h3, h4, h5, h6, h7], fun h => by cases h; exact ⟨rfl, rfl, rfl, rfl, rfl, rfl, rfl, rfl⟩⟩
/-- What is answered of what is heard. -/
def hearO (c : Cl) (s : Int) (m : Nm) : Cl × Bool × Int := if clB c = true ∧ okB m = true ∧ inB 0 255 s = true then ((hearC c s m (sameN c.n m)).1, (hearC c s m (sameN c.n m)).2, 0) else (zeroCl, false, 1)
section
variable {n : Nm} {ad st lf : Int} {l : List Int} {s : Int} {m : Nm}
theorem hearC_same : hearC ⟨n, ad, st, lf, l⟩ s m true = (⟨n, ad, st, lf, l⟩, false) := rfl
theorem hearC_off (h : s ≠ ad ∨ st = 3) : hearC ⟨n, ad, st, lf, l⟩ s m false = (⟨n, ad, st, lf, takenI l s⟩, false) := by
  unfold hearC takenI
  rw [if_neg (by simp)]
  dsimp only
  rw [if_pos h]
theorem hearC_less (h : s = ad) (h3 : st ≠ 3) (hl : nmN n < nmN m) : hearC ⟨n, ad, st, lf, l⟩ s m false = (⟨n, ad, st, lf, takenI l s⟩, true) := by
  unfold hearC takenI
  rw [if_neg (by simp)]
  dsimp only
  rw [if_neg (by simp [h, h3]), if_pos hl]
theorem hearC_lost (h : s = ad) (h3 : st ≠ 3) (hl : ¬ nmN n < nmN m) (hq : n.a = false ∨ 251 < (takenI l s).length) : hearC ⟨n, ad, st, lf, l⟩ s m false = (⟨n, 254, 3, 0, takenI l s⟩, true) := by
  unfold takenI at hq
  unfold hearC takenI
  rw [if_neg (by simp)]
  dsimp only
  rw [if_neg (by simp [h, h3]), if_neg hl, if_pos hq]
theorem hearC_next (h : s = ad) (h3 : st ≠ 3) (hl : ¬ nmN n < nmN m) (hq : ¬ (n.a = false ∨ 251 < (takenI l s).length)) : hearC ⟨n, ad, st, lf, l⟩ s m false = (⟨n, nextI (takenI l s) ad, 1, 250, takenI l s⟩, true) := by
  unfold takenI at hq
  unfold hearC takenI
  rw [if_neg (by simp)]
  dsimp only
  rw [if_neg (by simp [h, h3]), if_neg hl, if_neg hq]
end
end Go.Proofs.Ytpolpkheaibonaa
