/- What the program's GetNum answers: the number that stands at a place, the place behind it, or a code. For every text and every place, where the variable errors.errorType holds what the program's text lays; nothing that was there is written. -/
import Derived.Test.YteempfbcjlbcnaaDoorErrAs
import Derived.Test.YteempfbcjlbcnaaDoorLong
namespace Go.Proofs.YteempfbcjlbcnaaDoor
open Go.RowKit
set_option linter.unusedVariables false

/-- What the program's text lays in errors.errorType. -/
def Laid (w : World) : Prop := w.cell? ⟨0, 0, none⟩ = some (.iface 74 (.agg #[.pointer (some ⟨1, 42, none⟩)]))
theorem Laid.below {w w' : World} (h : Laid w) {B : Nat} (hb : Below B w w') (hB : 0 < B) : Laid w' := (hb.cell (p := ⟨0, 0, none⟩) hB).trans h
theorem Laid.pos {w : World} (h : Laid w) : 0 < w.heap.size := by
  rcases Nat.eq_zero_or_pos w.heap.size with h0 | h'
  · simp [Laid, World.cell?, h0] at h
  · exact h'

set_option maxHeartbeats 4000000 in
theorem codeOf_any (c : Int) (w : World) (hl : Laid w) :
    Calls Tryd.prog 18 #[.iface 55 (.agg #[.int .i64 c])] w fun e w' => e = .returned (.int .i64 c) ∧ Below w.heap.size w w' := by
  have hpos := hl.pos
  have HA := Lib.hid (ErrAs.as_hit c w.heap.size (.int .i64 0) (w.alloc (.cells #[.int .i64 0] 55)) (by rw [World.cell?_alloc_lt _ _ ⟨0, 0, none⟩ hpos]; exact hl) (by simp) (by simp))
  have HL := Lib.hid hl
  clear hl
  go_enter Tryd.func18, Tryd.ntmps18
  go_wp2_with (go_at_call 26; refine HA.out.mono ?_; rintro e w' ⟨rfl, rfl⟩)
  go_ret
  exact ⟨rfl, by go_grown⟩

/-- What a reading tells: with no error, or with one. -/
theorem getNumR_two (s : ByteArray) (a : Int) (R : Int × Int × Int) (hR : (if a < 0 then ((0, 0, 1) : Int × Int × Int) else getF s a.toNat 10 0 0) = R) :
    (∃ n b, R = (n, b, 0)) ∨ ∃ c, 1 ≤ c ∧ R = (0, 0, c) := by
  subst hR
  split
  · exact .inr ⟨1, by omega, rfl⟩
  · exact getF_two s _ 10 0 0

set_option maxHeartbeats 1000000 in
theorem implGetNum_any (s : ByteArray) (a : Int) (w : World) (hl : Laid w) (hs : s.size ≤ maxLen) (h0 : -9223372036854775808 ≤ a) (h1 : a ≤ 9223372036854775807) :
    Calls Tryd.prog 7 #[.string s, .int .i64 a] w fun e w' => e = .returned (numOut (getNumR s a).1 (getNumR s a).2.1 (getNumR s a).2.2) ∧ Below w.heap.size w w' := by
  by_cases hb : 8000 < s.size
  · rw [show getNumR s a = (0, 0, 2) from if_pos hb]
    have hd : decide (8000 < (s.size : Int)) = true := by simp; omega
    go_enter Tryd.func7, Tryd.ntmps7
    go_wp2_with (go_at_call 16; refine (tooLong_any _ _ hs).mono ?_; rintro e w' ⟨rfl, rfl⟩)
    exact bodyPost_ret (v := numOut 0 0 2) (by simp [results, Tryd.results7, go_sem, numOut]) rfl ⟨rfl, by go_grown⟩
  have hd : decide (8000 < (s.size : Int)) = false := by simp; omega
  rw [show getNumR s a = (if a < 0 then (0, 0, 1) else getF s a.toNat 10 0 0) by rw [getNumR, if_neg hb]]
  obtain ⟨R, hR⟩ : ∃ R, (if a < 0 then ((0, 0, 1) : Int × Int × Int) else getF s a.toNat 10 0 0) = R := ⟨_, rfl⟩
  have HT := getNumR_two s a R hR
  rw [hR]
  have HR : ∀ W, Hid (Calls Tryd.prog 17 #[.string s, .int .i64 a] W fun e w' => e = .returned (.tuple #[.int .i64 R.1, .int .i64 R.2.1, errV R.2.2]) ∧ W = w') := fun W => readNum_any s a W (by omega) h0 h1 R (Lib.hid hR)
  clear hR
  have HL := Lib.hid hl
  have hpos := hl.pos
  clear hl
  rcases HT with ⟨n, b, rfl⟩ | ⟨c, hc, rfl⟩
  · simp only [show errV 0 = .nilIface from rfl] at HR
    go_enter Tryd.func7, Tryd.ntmps7
    go_wp2_with (first | (go_at_call 16; refine (tooLong_any _ _ hs).mono ?_; rintro e w' ⟨rfl, rfl⟩) | (go_at_call 17; refine (HR _).out.mono ?_; rintro e w' ⟨rfl, rfl⟩))
    exact bodyPost_ret (v := numOut n b 0) (by simp [results, Tryd.results7, go_sem, numOut]) rfl ⟨rfl, by go_grown⟩
  · simp only [show errV c = .iface 55 (.agg #[.int .i64 c]) from if_neg (by omega)] at HR
    have HC := Lib.hid (codeOf_any c (w.alloc (.cells #[.int .i64 0, .int .i64 0, .int .i64 0] 26)) (HL.out.below ((Below.refl _ _).alloc (Nat.le_refl _) _) hpos))
    go_enter Tryd.func7, Tryd.ntmps7
    go_wp2_with (first | (go_at_call 16; refine (tooLong_any _ _ hs).mono ?_; rintro e w' ⟨rfl, rfl⟩) | (go_at_call 17; refine (HR _).out.mono ?_; rintro e w' ⟨rfl, rfl⟩) | (go_at_call 18; refine HC.out.mono ?_; rintro e w1 ⟨rfl, hb1⟩; obtain ⟨hc1, hc2⟩ := bcell hb1; have hz : w.heap.size < w1.heap.size := (by have := hb1.size; simp at this; omega)))
    refine bodyPost_ret (v := numOut 0 0 c) (by simp [results, Tryd.results7, go_sem, hc1, numOut]) rfl ⟨rfl, ?_⟩
    exact (((((Below.refl _ _).alloc (Nat.le_refl _) _).trans (hb1.mono (by simp))).setCell (by simp) _).setCell (by simp) _).setCell (by simp) _
end Go.Proofs.YteempfbcjlbcnaaDoor
