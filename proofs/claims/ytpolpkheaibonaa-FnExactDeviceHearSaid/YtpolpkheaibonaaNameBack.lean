/- A right Name comes back from its bytes; of a text that is one's bytes these are the text again; of two right ones that are unlike just one is less. -/
import Derived.Test.YtpolpkheaibonaaNameLess2
import Derived.Test.YtpolpkheaibonaaNameFrom
namespace Go.Proofs.Ytpolpkheaibonaa
open Go.RowKit
set_option linter.unusedVariables false

theorem nmN_inj {a b : Nm} (ha : okB a = true) (hb : okB b = true) (h : nmN a = nmN b) : a = b := by
  have ka := nmK_bounds ha
  have ta := nmT_bounds ha
  have ra := okB_of ha
  have kb := nmK_bounds hb
  have tb := nmT_bounds hb
  have rb := okB_of hb
  unfold nmN at h
  have e1 : nmK a = nmK b := by omega
  have e2 : a.i = b.i := by omega
  have e3 : a.f = b.f := by omega
  have e4 : a.c = b.c := by omega
  have e5 : nmT a = nmT b := by omega
  obtain ⟨u, m, i, f, c, s, y, a⟩ := a
  obtain ⟨u', m', i', f', c', s', y', a'⟩ := b
  simp only [nmK, nmT] at *
  have e6 : u = u' := by omega
  have e7 : m = m' := by omega
  clear h ka kb ta tb e1
  cases a <;> cases a' <;> simp at e5 <;> simp <;> omega
theorem readNm_back {n : Nm} (h : okB n = true) : readNm ⟨(nmL n).toArray⟩ = n := by
  have hk := nmK_bounds h
  have ht := nmT_bounds h
  have hr := okB_of h
  obtain ⟨y0, y1, y2, y3, y4, y5, y6, y7, e, p0, p1, p2, p3, p4, p5, p6, p7⟩ := nmL_bytes h
  have hx : ∀ (l : List UInt8) (j : Nat), byteAt ⟨l.toArray⟩ j = ((l[j]?.getD 0).toNat : Int) := fun l j => rfl
  rw [e]
  unfold readNm lo4
  simp only [hx, List.getElem?_cons_zero, List.getElem?_cons_succ, Option.getD_some, p0, p1, p2, p3, p4, p5, p6, p7]
  obtain ⟨u, m, i, f, c, s, y, a⟩ := n
  simp only [nmK, nmT] at *
  cases a <;> simp <;> omega
theorem toList_mk (l : List UInt8) : (ByteArray.mk l.toArray).toList = l := by
  simp
theorem mk_toList (t : ByteArray) : ByteArray.mk t.toList.toArray = t := by
  obtain ⟨⟨l⟩⟩ := t
  simp
theorem if8_false {α : Type} {A B : α} {c0 c1 c2 c3 c4 c5 c6 c7 : Prop} [Decidable c0] [Decidable c1] [Decidable c2] [Decidable c3] [Decidable c4] [Decidable c5] [Decidable c6] [Decidable c7] (h : ¬ (c0 ∧ c1 ∧ c2 ∧ c3 ∧ c4 ∧ c5 ∧ c6 ∧ c7)) : (if c0 then (if c1 then (if c2 then (if c3 then (if c4 then (if c5 then (if c6 then (if c7 then A else B) else B) else B) else B) else B) else B) else B) else B) = B := by
  repeat' split
  all_goals first | rfl | exact absurd ⟨by assumption, by assumption, by assumption, by assumption, by assumption, by assumption, by assumption, by assumption⟩ h
theorem nm_back {n : Nm} (h : okB n = true) : nameFromV ⟨(nmL n).toArray⟩ = nmOutV n 0 := by
  have hs : (ByteArray.mk (nmL n).toArray).size = 8 := rfl
  have hb : fromB ⟨(nmL n).toArray⟩ = true := by
    unfold fromB
    rw [readNm_back h, toList_mk]
    simp [nmBytes, h]
  unfold nameFromV
  rw [if_neg (by omega), if_neg (by omega), if_pos hb, readNm_back h]
theorem nmOutV_inj {n m : Nm} {c d : Int} (h : nmOutV n c = nmOutV m d) : n = m ∧ c = d := by
  obtain ⟨u, m0, i, f, c0, s, y, a⟩ := n
  obtain ⟨u', m', i', f', c', s', y', a'⟩ := m
  simp [nmOutV] at h
  simp [h]
theorem nm_fwd {t : ByteArray} {x : Nm} (h : nameFromV t = nmOutV x 0) : nmBytes x = t.toList := by
  unfold nameFromV at h
  split at h
  · exact absurd (nmOutV_inj h).2 (by decide)
  split at h
  · exact absurd (nmOutV_inj h).2 (by decide)
  split at h
  · rename_i hb
    rw [← (nmOutV_inj h).1]
    simpa [fromB] using hb
  · exact absurd (nmOutV_inj h).2 (by decide)
theorem ok_of_bytes {n : Nm} (h : nmBytes n ≠ []) : okB n = true ∧ nmBytes n = nmL n := by
  unfold nmBytes at h ⊢
  split at h
  · rename_i hk
    exact ⟨hk, if_pos hk⟩
  · exact absurd rfl h
theorem less_one {a b : Nm} (ha : okB a = true) (hb : okB b = true) (h : a ≠ b) : (nmLessB a b != nmLessB b a) = true := by
  have hn : nmN a ≠ nmN b := fun e => h (nmN_inj ha hb e)
  unfold nmLessB
  rw [ha, hb]
  simp only [Bool.true_and]
  by_cases hl : nmN a < nmN b
  · simp [hl, show ¬ nmN b < nmN a by omega]
  · simp [hl, show nmN b < nmN a by omega]
end Go.Proofs.Ytpolpkheaibonaa
