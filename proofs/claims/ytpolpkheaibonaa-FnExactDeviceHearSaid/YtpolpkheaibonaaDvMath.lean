/- Lists of Devices: whether one is right, who is there once one is heard, a tick later. -/
import Derived.Test.YtpolpkheaibonaaDvs
import Derived.Test.YtpolpkheaibonaaPickMath
import Derived.Test.YtpolpkheaibonaaNameLess2
import Derived.Test.YtpolpkheaibonaaNameBack
import Derived.Test.YtpolpkheaibonaaClaimHear
namespace Go.Proofs.Ytpolpkheaibonaa
open Go.RowKit
set_option linter.unusedVariables false

/-- A Device is right by itself. -/
def dvOkB (d : Dv) : Bool := okB d.n && (inB 0 251 d.ad && inB 0 600 d.g)
theorem dvOkB_of {d : Dv} (h : dvOkB d = true) : okB d.n = true ∧ (0 ≤ d.ad ∧ d.ad ≤ 251) ∧ (0 ≤ d.g ∧ d.g ≤ 600) := by
  unfold dvOkB at h
  simp only [Bool.and_eq_true] at h
  exact ⟨h.1, inB_of h.2.1, inB_of h.2.2⟩
/-- It may stand behind that one. -/
def behindB (a d : Dv) : Bool := nmLessB a.n d.n && !(a.ad == d.ad)
/-- It may stand in its place. -/
def dvsAt (l : List Dv) (i : Nat) : Bool := dvOkB (dvAt l i) && allR (fun k => behindB (dvAt l k) (dvAt l i)) i
def dvsB (l : List Dv) : Bool := decide (l.length ≤ 8) && allR (dvsAt l) l.length
theorem dvsB_of {l : List Dv} (k : dvsB l = true) : l.length ≤ 8 ∧ ∀ i, i < l.length → dvsAt l i = true := by
  unfold dvsB at k
  simp only [Bool.and_eq_true, decide_eq_true_eq] at k
  exact ⟨k.1, allR_of k.2⟩
theorem dvsB_long {l : List Dv} (k : 8 < l.length) : dvsB l = false := by
  unfold dvsB
  rw [decide_eq_false (by omega), Bool.false_and]
theorem dvsB_no {l : List Dv} {i : Nat} (hi : i < l.length) (k : dvsAt l i = false) : dvsB l = false := by
  unfold dvsB
  rw [allR_no hi k, Bool.and_false]
theorem dvsB_yes {l : List Dv} (h8 : l.length ≤ 8) (h : ∀ i, i < l.length → dvsAt l i = true) : dvsB l = true := by
  unfold dvsB
  rw [allR_yes h, decide_eq_true h8]
  rfl
theorem dvsAt_of {l : List Dv} {i : Nat} (h : dvsAt l i = true) : dvOkB (dvAt l i) = true ∧ ∀ k, k < i → behindB (dvAt l k) (dvAt l i) = true := by
  unfold dvsAt at h
  simp only [Bool.and_eq_true] at h
  exact ⟨h.1, allR_of h.2⟩
theorem dvsAt_mk {l : List Dv} {i : Nat} (h : dvOkB (dvAt l i) = true) (h2 : ∀ k, k < i → behindB (dvAt l k) (dvAt l i) = true) : dvsAt l i = true := by
  unfold dvsAt
  rw [h, allR_yes h2]
  rfl
theorem less_of {a b : Nm} (h : nmLessB a b = true) : nmN a < nmN b := by
  unfold nmLessB at h
  simp only [Bool.and_eq_true, decide_eq_true_eq] at h
  exact h.2.2
theorem less_mk {a b : Nm} (ha : okB a = true) (hb : okB b = true) (h : nmN a < nmN b) : nmLessB a b = true := by
  unfold nmLessB
  rw [ha, hb, decide_eq_true h]
  rfl
theorem behindB_of {a d : Dv} (h : behindB a d = true) : nmN a.n < nmN d.n ∧ a.ad ≠ d.ad := by
  unfold behindB at h
  simp only [Bool.and_eq_true, Bool.not_eq_true', beq_eq_false_iff_ne] at h
  exact ⟨less_of h.1, h.2⟩
/-- The model's way: the one ahead is less, and no address ahead is alike. -/
def spAt (l : List Dv) (i : Nat) : Bool := dvOkB (dvAt l i) && ((decide (i = 0) || nmLessB (dvAt l (i - 1)).n (dvAt l i).n) && allR (fun k => !((dvAt l k).ad == (dvAt l i).ad)) i)
theorem spAt_same {l : List Dv} {i : Nat} (h : ∀ k, k < i → dvsAt l k = true) : spAt l i = dvsAt l i := by
  cases hq : dvsAt l i with
  | true =>
    obtain ⟨h1, h2⟩ := dvsAt_of hq
    unfold spAt
    rw [h1, allR_yes (fun k hk => by
      have := (behindB_of (h2 k hk)).2
      simpa using this)]
    rcases Nat.eq_zero_or_pos i with rfl | hi
    · rfl
    · have := h2 (i - 1) (by omega)
      unfold behindB at this
      rw [Bool.and_eq_true] at this
      rw [this.1]
      simp
  | false =>
    cases hs : spAt l i with
    | false => rfl
    | true =>
      unfold spAt at hs
      simp only [Bool.and_eq_true, Bool.or_eq_true, decide_eq_true_eq] at hs
      have hc : dvsAt l i = true := dvsAt_mk hs.1 (fun k hk => by
        have ha := allR_of hs.2.2 k hk
        have hl : nmLessB (dvAt l (i - 1)).n (dvAt l i).n = true := by
          rcases hs.2.1 with h0 | h0
          · omega
          · exact h0
        have hlt : nmN (dvAt l k).n < nmN (dvAt l i).n := by
          rcases Nat.eq_or_lt_of_le (Nat.le_sub_one_of_lt hk) with rfl | hk2
          · exact less_of hl
          · have h3 := (behindB_of ((dvsAt_of (h (i - 1) (by omega))).2 k hk2)).1
            have := less_of hl
            omega
        unfold behindB
        rw [ha, less_mk (dvOkB_of (dvsAt_of (h k hk)).1).1 (dvOkB_of hs.1).1 hlt]
        rfl)
      rw [hc] at hq
      cases hq
/-- Who stays when one is heard. -/
def staysB (ad : Int) (n : Nm) (d : Dv) : Bool := !(sameN d.n n) && !(d.ad == ad)
def keptD (l : List Dv) (ad : Int) (n : Nm) : List Dv := l.filter (staysB ad n)
/-- How many stand ahead of n. -/
def aheadD (l : List Dv) (n : Nm) : Nat := (l.takeWhile fun d => nmLessB d.n n).length
def hearD (l : List Dv) (ad : Int) (n : Nm) : List Dv :=
  if ad ≤ 251 ∧ (keptD l ad n).length < 8 then (keptD l ad n).take (aheadD (keptD l ad n) n) ++ ⟨n, ad, 0⟩ :: (keptD l ad n).drop (aheadD (keptD l ad n) n) else keptD l ad n
def hearV (l : List Dv) (ad : Int) (n : Nm) : List Dv :=
  if 400 < l.length then [] else if (dvsB l && (okB n && inB 0 255 ad)) = true then hearD l ad n else l
def tickD (l : List Dv) : List Dv := (l.filter fun d => decide (d.g < 600)).map fun d => ⟨d.n, d.ad, d.g + 1⟩
def tickDV (l : List Dv) : List Dv := if dvsB l = true then tickD l else []
def addrD (l : List Dv) (n : Nm) : Int := match l.find? (fun d => sameN d.n n) with
  | some d => d.ad
  | none => -1
def addrV (l : List Dv) (n : Nm) : Int := if dvsB l = true then addrD l n else -1
end Go.Proofs.Ytpolpkheaibonaa
