/- What the program's GetText answers: the text that stands at a place, the place behind it, or a code. For every text and every place, where the variable errors.errorType holds what the program's text lays; nothing that was there is written. -/
import Derived.Test.YteempfbcjlbcnaaDoorImplGetNum
import Derived.Test.YteempfbcjlbcnaaDoorGetText
import Derived.Test.YteempfbcjlbcnaaDoorText
namespace Go.Proofs.YteempfbcjlbcnaaDoor
open Go.RowKit
set_option linter.unusedVariables false

theorem mk_self (x : ByteArray) : ByteArray.mk x.data.toList.toArray = x := by simp
theorem mk_self0 (x : ByteArray) : ByteArray.mk ((ByteArray.mk #[]).data.toList ++ x.data.toList).toArray = x := by simp

/-- What readText makes of a number read: a text and a place, or an error's code. -/
theorem textR_bad {s : ByteArray} {c : Int} (hc : 1 ≤ c) : textR s (0, 0, c) = ([], 0, c) := by rw [textR, if_pos (show c ≠ 0 by omega)]

set_option maxHeartbeats 1000000 in
theorem readText_any (s : ByteArray) (a : Int) (w : World) (hs : s.size ≤ 8000) (h0 : -9223372036854775808 ≤ a) (h1 : a ≤ 9223372036854775807) (T : List UInt8 × Int × Int) (hT : Hid (textR s (getNumR s a) = T)) :
    Calls Tryd.prog 23 #[.string s, .int .i64 a] w fun e w' => e = .returned (.tuple #[.string ⟨T.1.toArray⟩, .int .i64 T.2.1, errV T.2.2]) ∧ Below w.heap.size w w' := by
  have hRR : getNumR s a = (if a < 0 then (0, 0, 1) else getF s a.toNat 10 0 0) := by rw [getNumR, if_neg (by omega)]
  have HG : ∀ W, Hid (Calls Tryd.prog 17 #[.string s, .int .i64 a] W fun e w' => e = .returned (.tuple #[.int .i64 (getNumR s a).1, .int .i64 (getNumR s a).2.1, errV (getNumR s a).2.2]) ∧ W = w') := fun W => readNum_any s a W hs h0 h1 _ (Lib.hid hRR.symm)
  clear hRR
  rcases getNumR_cases s a with ⟨n, b, hR, hb1, hb2, hs8⟩ | ⟨c, hc, hR⟩
  · rw [hR] at hT
    simp only [hR, show errV 0 = .nilIface from rfl] at HG
    clear hR
    by_cases hn : n < 0
    · have HT := Lib.hid (show T = ([], 0, 3) by rw [← hT.out]; simp [textR, hn])
      have hd0 : decide (n < 0) = true := by simp; omega
      clear hT
      go_enter Tryd.func23, Tryd.ntmps23
      go_wp2_with (go_at_call 17; refine (HG _).out.mono ?_; rintro e w1 ⟨rfl, rfl⟩)
      go_ret3
      exact ⟨by rw [HT.out]; rfl, Below.refl _ _⟩
    by_cases hn8 : 8000 < n
    · have HT := Lib.hid (show T = ([], 0, 3) by rw [← hT.out]; simp [textR, hn8])
      have hd : decide (8000 < n) = true := by simp; omega
      have hd0 : decide (n < 0) = false := by simp; omega
      clear hT
      go_enter Tryd.func23, Tryd.ntmps23
      go_wp2_with (go_at_call 17; refine (HG _).out.mono ?_; rintro e w1 ⟨rfl, rfl⟩)
      go_ret3
      exact ⟨by rw [HT.out]; rfl, Below.refl _ _⟩
    have hd : decide (8000 < n) = false := by simp; omega
    have hd0 : decide (n < 0) = false := by simp; omega
    have hn0 : 0 ≤ n := by omega
    have hn9 : n ≤ 8000 := by omega
    by_cases hsh : (s.size : Int) - n < b
    · have HT := Lib.hid (show T = ([], 0, 4) by rw [← hT.out]; simp [textR, hn, hn8, hsh])
      have hsh' : (s.size : Int) - b < n := by omega
      clear hT hn hn8 hsh
      go_enter Tryd.func23, Tryd.ntmps23
      go_wp2_with (go_at_call 17; refine (HG _).out.mono ?_; rintro e w1 ⟨rfl, rfl⟩)
      go_ret3
      exact ⟨by rw [HT.out]; rfl, Below.refl _ _⟩
    · have HT := Lib.hid (show T = ((s.extract b.toNat (b + n).toNat).data.toList, b + n, 0) by rw [← hT.out]; simp [textR, hn, hn8, hsh])
      have hsh' : n ≤ (s.size : Int) - b := by omega
      have hw3 : b + n ≤ (s.size : Int) := by omega
      have hw4 : b ≤ b + n := by omega
      have hw5 : 0 ≤ b + n := by omega
      have hw6 : 0 ≤ b := by omega
      have HJ : ∀ W, Hid (Calls Tryd.prog 22 #[.string ⟨#[]⟩, .string (s.extract b.toNat (b + n).toNat)] W fun e w' => e = .returned (.string (s.extract b.toNat (b + n).toNat)) ∧ Below W.heap.size W w') := fun W => by
        have := joined_any ⟨#[]⟩ (s.extract b.toNat (b + n).toNat) W (by show 0 ≤ _; omega) (by simp; omega)
        have e : ByteArray.mk ((ByteArray.mk #[]).data.toList ++ (s.extract b.toNat (b + n).toNat).data.toList).toArray = s.extract b.toNat (b + n).toNat := mk_self0 _
        rwa [e] at this
      clear hT hn hn8 hsh
      go_enter Tryd.func23, Tryd.ntmps23
      go_wp2_with (first | (go_at_call 17; refine (HG _).out.mono ?_; rintro e w1 ⟨rfl, rfl⟩) | (go_at_call 22; refine (HJ _).out.mono ?_; rintro e w1 ⟨rfl, hb⟩))
      go_ret3
      exact ⟨by rw [HT.out, mk_self]; rfl, hb⟩
  · have HT := Lib.hid (show T = ([], 0, c) by rw [← hT.out, hR, textR_bad hc])
    simp only [hR, show errV c = .iface 55 (.agg #[.int .i64 c]) from if_neg (by omega)] at HG
    have HE := Lib.hid (show errV c = .iface 55 (.agg #[.int .i64 c]) from if_neg (by omega))
    clear hR hT
    go_enter Tryd.func23, Tryd.ntmps23
    go_wp2_with (go_at_call 17; refine (HG _).out.mono ?_; rintro e w1 ⟨rfl, rfl⟩)
    go_ret3
    exact ⟨by rw [HT.out, HE.out]; rfl, Below.refl _ _⟩

theorem textR_two (s : ByteArray) (a : Int) : (∃ l b, textR s (getNumR s a) = (l, b, 0)) ∨ ∃ c, 1 ≤ c ∧ textR s (getNumR s a) = ([], 0, c) := by
  rcases getNumR_cases s a with ⟨n, b, hR, _⟩ | ⟨c, hc, hR⟩
  · rw [hR]
    unfold textR
    simp only [ne_eq, not_true_eq_false, if_false]
    split
    · exact .inr ⟨3, by omega, rfl⟩
    split
    · exact .inr ⟨4, by omega, rfl⟩
    · exact .inl ⟨_, _, rfl⟩
  · rw [hR, textR_bad hc]
    exact .inr ⟨c, hc, rfl⟩

set_option maxHeartbeats 1000000 in
theorem implGetText_any (s : ByteArray) (a : Int) (w : World) (hl : Laid w) (hs : s.size ≤ maxLen) (h0 : -9223372036854775808 ≤ a) (h1 : a ≤ 9223372036854775807) (T : List UInt8 × Int × Int) (hT : Hid (textR s (getNumR s a) = T)) :
    Calls Tryd.prog 11 #[.string s, .int .i64 a] w fun e w' => e = .returned (textOut T.1 T.2.1 T.2.2) ∧ Below w.heap.size w w' := by
  by_cases hb : 8000 < s.size
  · have HT := Lib.hid (show T = ([], 0, 2) by rw [← hT.out, show getNumR s a = (0, 0, 2) from if_pos hb, textR_bad (by omega)])
    have hd : decide (8000 < (s.size : Int)) = true := by simp; omega
    clear hT
    go_enter Tryd.func11, Tryd.ntmps11
    go_wp2_with (go_at_call 16; refine (tooLong_any _ _ hs).mono ?_; rintro e w' ⟨rfl, rfl⟩)
    exact bodyPost_ret (v := textOut [] 0 2) (by simp [results, Tryd.results11, go_sem, textOut]) rfl ⟨by rw [HT.out], by go_grown⟩
  have hd : decide (8000 < (s.size : Int)) = false := by simp; omega
  have HR : ∀ W, Hid (Calls Tryd.prog 23 #[.string s, .int .i64 a] W fun e w' => e = .returned (.tuple #[.string ⟨T.1.toArray⟩, .int .i64 T.2.1, errV T.2.2]) ∧ Below W.heap.size W w') := fun W => readText_any s a W (by omega) h0 h1 T hT
  have HT := textR_two s a
  rw [hT.out] at HT
  clear hT
  have HL := Lib.hid hl
  have hpos := hl.pos
  clear hl
  rcases HT with ⟨l, b, rfl⟩ | ⟨c, hc, rfl⟩
  · simp only [show errV 0 = .nilIface from rfl] at HR
    go_enter Tryd.func11, Tryd.ntmps11
    go_wp2_with (first | (go_at_call 16; refine (tooLong_any _ _ hs).mono ?_; rintro e w' ⟨rfl, rfl⟩) | (go_at_call 23; refine (HR _).out.mono ?_; rintro e w1 ⟨rfl, hb1⟩; obtain ⟨hc1, hc2⟩ := bcell hb1; have hz : w.heap.size < w1.heap.size := (by have := hb1.size; simp at this; omega)))
    refine bodyPost_ret (v := textOut l b 0) (by simp [results, Tryd.results11, go_sem, hc1, textOut]) rfl ⟨rfl, ?_⟩
    exact (((((Below.refl _ _).alloc (Nat.le_refl _) _).trans (hb1.mono (by simp))).setCell (by simp) _).setCell (by simp) _).setCell (by simp) _
  · simp only [show errV c = .iface 55 (.agg #[.int .i64 c]) from if_neg (by omega)] at HR
    go_enter Tryd.func11, Tryd.ntmps11
    go_wp2_with (first | (go_at_call 16; refine (tooLong_any _ _ hs).mono ?_; rintro e w' ⟨rfl, rfl⟩) | (go_at_call 23; refine (HR _).out.mono ?_; rintro e w1 ⟨rfl, hb1⟩; obtain ⟨hc1, hc2⟩ := bcell hb1; have hz : w.heap.size < w1.heap.size := (by have := hb1.size; simp at this; omega)) | (go_at_call 18; refine (codeOf_any c _ (HL.out.below (((Below.refl _ _).alloc (Nat.le_refl _) _).trans (hb1.mono (by simp))) hpos)).mono ?_; rintro e w2 ⟨rfl, hb2⟩; obtain ⟨hd1, hd2⟩ := bcell hb2; have hz2 : w.heap.size < w2.heap.size := Nat.lt_of_lt_of_le hz hb2.size))
    refine bodyPost_ret (v := textOut [] 0 c) (by simp [results, Tryd.results11, go_sem, hd1, hc1, hz, textOut]) rfl ⟨rfl, ?_⟩
    exact ((((((Below.refl _ _).alloc (Nat.le_refl _) _).trans (hb1.mono (by simp))).trans (hb2.mono (Nat.le_of_lt hz))).setCell (by simp) _).setCell (by simp) _).setCell (by simp) _
end Go.Proofs.YteempfbcjlbcnaaDoor
