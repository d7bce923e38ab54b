/- What the model's GetText answers: the text that stands at a place, the place behind it, or a code. For every text and every place; nothing that was there is written. -/
import Derived.Test.YteecenlpanmfaaaDoorGetNum
import Derived.RegionTactic
import Derived.ChangeAlike
import Derived.BigRegion
import Derived.IntWalk
import Derived.StillTailTactics
namespace Go.Proofs.YteecenlpanmfaaaDoor
open Go.RowKit
set_option linter.unusedVariables false

theorem textOut_self (x : ByteArray) (a c : Int) : textOut x.data.toList a c = .agg #[.string x, .int .i64 a, .int .i64 c] := by
  unfold textOut
  simp

/-- A number that is read has its place within the text. -/
theorem getF_ok (s : ByteArray) (p : Nat) : ∀ (f i : Nat) (x n b : Int), getF s p f i x = (n, b, 0) → 1 ≤ b ∧ b ≤ s.size := by
  intro f
  induction f with
  | zero => intro i x n b h; simp [getF] at h
  | succ f ih =>
    intro i x n b h
    rw [getF] at h
    split at h
    · simp at h
    split at h
    · simp at h
    split at h
    · split at h
      · simp at h
      · simp at h
        omega
    · exact ih _ _ _ _ h

/-- What a number read at a place makes of a text. -/
def textR (s : ByteArray) (R : Int × Int × Int) : List UInt8 × Int × Int :=
  if R.2.2 ≠ 0 then ([], 0, R.2.2) else if R.1 < 0 ∨ 8000 < R.1 then ([], 0, 3) else if (s.size : Int) - R.1 < R.2.1 then ([], 0, 4)
  else ((s.extract R.2.1.toNat (R.2.1 + R.1).toNat).data.toList, R.2.1 + R.1, 0)
theorem getNumR_cases (s : ByteArray) (a : Int) : (∃ n b, getNumR s a = (n, b, 0) ∧ 1 ≤ b ∧ b ≤ s.size ∧ s.size ≤ 8000) ∨ ∃ c, 1 ≤ c ∧ getNumR s a = (0, 0, c) := by
  unfold getNumR
  split
  · exact .inr ⟨2, by omega, rfl⟩
  split
  · exact .inr ⟨1, by omega, rfl⟩
  · rcases getF_two s a.toNat 10 0 0 with ⟨n, b, h⟩ | ⟨c, hc, h⟩
    · exact .inl ⟨n, b, h, (getF_ok s _ _ _ _ _ _ h).1, (getF_ok s _ _ _ _ _ _ h).2, by omega⟩
    · exact .inr ⟨c, hc, h⟩

set_option maxHeartbeats 2000000 in
theorem specGetText_any (s : ByteArray) (a : Int) (w : World) (hs : s.size ≤ maxLen) (h0 : -9223372036854775808 ≤ a) (h1 : a ≤ 9223372036854775807) (T : List UInt8 × Int × Int) (hT : Hid (textR s (getNumR s a) = T)) :
    Calls Tryd.prog 16 #[.string s, .int .i64 a] w fun e w' => e = .returned (textOut T.1 T.2.1 T.2.2) ∧ Below w.heap.size w w' := by
  have HG : ∀ W, Hid (Calls Tryd.prog 14 #[.string s, .int .i64 a] W fun e w' => e = .returned (numOut (getNumR s a).1 (getNumR s a).2.1 (getNumR s a).2.2) ∧ Below W.heap.size W w') := fun W => specGetNum_any s a W hs h0 h1
  rcases getNumR_cases s a with ⟨n, b, hR, hb1, hb2, hs8⟩ | ⟨c, hc, hR⟩
  · rw [hR] at hT
    simp only [hR, numOut] at HG
    clear hR
    by_cases hn : n < 0
    · have HT := Lib.hid (show T = ([], 0, 3) by rw [← hT.out]; simp [textR, hn])
      clear hT
      go_enter Tryd.func16, Tryd.ntmps16
      go_wp2_with (go_at_call 14; refine (HG _).out.mono ?_; rintro e w1 ⟨rfl, hb⟩; obtain ⟨hc1, hc2⟩ := bcell hb; have hz : w.heap.size < w1.heap.size := (by have := hb.size; simp at this; omega))
      refine bodyPost_ret (v := textOut [] 0 3) (by simp [results, Tryd.results16, go_sem, hc1, hz, textOut]) rfl ⟨by rw [HT.out], ?_⟩
      exact ((((((Below.refl _ _).alloc (Nat.le_refl _) _).trans (hb.mono (by simp))).setCell (by simp) _).setCell (by simp) _).setCell (by simp) _).alloc (by simp; omega) _
    by_cases hn8 : 8000 < n
    · have HT := Lib.hid (show T = ([], 0, 3) by rw [← hT.out]; simp [textR, hn8])
      have hd : decide (8000 < n) = true := by simp; omega
      have hd0 : decide (n < 0) = false := by simp; omega
      clear hT
      go_enter Tryd.func16, Tryd.ntmps16
      go_wp2_with (go_at_call 14; refine (HG _).out.mono ?_; rintro e w1 ⟨rfl, hb⟩; obtain ⟨hc1, hc2⟩ := bcell hb; have hz : w.heap.size < w1.heap.size := (by have := hb.size; simp at this; omega))
      refine bodyPost_ret (v := textOut [] 0 3) (by simp [results, Tryd.results16, go_sem, hc1, hz, textOut]) rfl ⟨by rw [HT.out], ?_⟩
      exact ((((((Below.refl _ _).alloc (Nat.le_refl _) _).trans (hb.mono (by simp))).setCell (by simp) _).setCell (by simp) _).setCell (by simp) _).alloc (by simp; omega) _
    have hd : decide (8000 < n) = false := by simp; omega
    have hd0 : decide (n < 0) = false := by simp; omega
    have hw1 : IntKind.i64.wrap ((s.size : Int) - n) = (s.size : Int) - n := IntWalk.i64_in _ (by omega)
    have hn0 : 0 ≤ n := by omega
    have hn9 : n ≤ 8000 := by omega
    by_cases hsh : (s.size : Int) - n < b
    · have HT := Lib.hid (show T = ([], 0, 4) by rw [← hT.out]; simp [textR, hn, hn8, hsh])
      clear hT hn hn8
      go_enter Tryd.func16, Tryd.ntmps16
      go_wp2_with (go_at_call 14; refine (HG _).out.mono ?_; rintro e w1 ⟨rfl, hb⟩; obtain ⟨hc1, hc2⟩ := bcell hb; have hz : w.heap.size < w1.heap.size := (by have := hb.size; simp at this; omega))
      refine bodyPost_ret (v := textOut [] 0 4) (by simp [results, Tryd.results16, go_sem, hc1, hz, textOut]) rfl ⟨by rw [HT.out], ?_⟩
      exact ((((((Below.refl _ _).alloc (Nat.le_refl _) _).trans (hb.mono (by simp))).setCell (by simp) _).setCell (by simp) _).setCell (by simp) _).alloc (by simp; omega) _
    · have HT := Lib.hid (show T = ((s.extract b.toNat (b + n).toNat).data.toList, b + n, 0) by rw [← hT.out]; simp [textR, hn, hn8, hsh])
      have hsh' : b ≤ (s.size : Int) - n := by omega
      have hw2 : IntKind.i64.wrap (b + n) = b + n := IntWalk.i64_in _ (by omega)
      have hw3 : b + n ≤ (s.size : Int) := by omega
      have hw4 : b ≤ b + n := by omega
      have hw5 : 0 ≤ b + n := by omega
      have hw6 : 0 ≤ b := by omega
      clear hT hn hn8 hsh
      go_enter Tryd.func16, Tryd.ntmps16
      go_wp2_with (go_at_call 14; refine (HG _).out.mono ?_; rintro e w1 ⟨rfl, hb⟩; obtain ⟨hc1, hc2⟩ := bcell hb; have hz : w.heap.size < w1.heap.size := (by have := hb.size; simp at this; omega))
      go_region
      go_wp2
      refine bodyPost_ret (v := .agg #[.string (s.extract b.toNat (b + n).toNat), .int .i64 (b + n), .int .i64 0]) (by simp [results, Tryd.results16, go_sem, hc1, hz]) rfl ⟨by rw [HT.out, textOut_self], ?_⟩
      exact (((((((Below.refl _ _).alloc (Nat.le_refl _) _).trans (hb.mono (by simp))).setCell (by simp) _).setCell (by simp) _).setCell (by simp) _).alloc (by simp; omega) _).drew
  · have HT := Lib.hid (show T = ([], 0, c) by rw [← hT.out, hR, textR, if_pos (show c ≠ 0 by omega)])
    simp only [hR, numOut] at HG
    clear hR hT
    have e1 : (c != 0) = true := by rw [bne_iff_ne]; omega
    go_enter Tryd.func16, Tryd.ntmps16
    go_wp2_with (go_at_call 14; refine (HG _).out.mono ?_; rintro e w1 ⟨rfl, hb⟩; obtain ⟨hc1, hc2⟩ := bcell hb; have hz : w.heap.size < w1.heap.size := (by have := hb.size; simp at this; omega))
    refine bodyPost_ret (v := textOut [] 0 c) (by simp [results, Tryd.results16, go_sem, hc1, hz, textOut]) rfl ⟨by rw [HT.out], ?_⟩
    exact ((((((Below.refl _ _).alloc (Nat.le_refl _) _).trans (hb.mono (by simp))).setCell (by simp) _).setCell (by simp) _).setCell (by simp) _).alloc (by simp; omega) _

set_option maxHeartbeats 400000 in
theorem eqTextOut_same (l : List UInt8) (a c : Int) (w : World) :
    Calls Tryd.prog 17 #[textOut l a c, textOut l a c] w fun e w' => e = .returned (.bool true) ∧ Below w.heap.size w w' := by
  unfold textOut
  go_enter Tryd.func17, Tryd.ntmps17
  go_wp2
  go_ret
  exact ⟨rfl, by go_grown⟩
end Go.Proofs.YteecenlpanmfaaaDoor
