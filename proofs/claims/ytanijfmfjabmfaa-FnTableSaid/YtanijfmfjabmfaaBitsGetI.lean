/- What a Field tells out of a text: the program's. Nothing that was there is written. -/
import Derived.Test.YtanijfmfjabmfaaBitsVal3
import Derived.Test.YtanijfmfjabmfaaBitsVal4
namespace Go.Proofs.Ytanijfmfjabmfaa
open Go.RowKit
set_option linter.unusedVariables false
set_option maxRecDepth 100000 in
set_option maxHeartbeats 4000000 in
theorem implFieldGet_any (s : ByteArray) (a w : Int) (g : Bool) (W : World) (hs : s.size ≤ maxLen) :
    Calls Try.prog 128 #[.string s, fdV a w g] W fun e W' => e = .returned (vlV (fgetI s a w g).1 (fgetI s a w g).2) ∧ Below W.heap.size W W' := by
  have HFd := Lib.hid (twoF W a w g 0 0)
  have HVl := Lib.hid (twoV W a w g 0 0)
  have HB := Lib.hid (twoB W a w g 0 0)
  obtain ⟨mm, hmm⟩ : ∃ mm, fgetI s a w g = mm := ⟨_, rfl⟩
  rw [hmm]
  by_cases h : 8000 < s.size
  · have HO := Lib.hid (hmm.symm.trans (fget_big h))
    have hd : decide (8000 < (s.size : Int)) = true := decide_eq_true (by omega)
    have HL := fun U => Lib.hid (tooLong_any s U hs)
    rw [hd] at HL
    clear hmm
    unfold fdV
    go_enter Try.func128, Try.ntmps128
    go_wp2_with fail
    refine ((HL _).out).mono ?_
    rintro e w' ⟨rfl, rfl⟩
    go_wp2_with fail
    exact bodyPost_ret (v := vlV 0 0) (by simp [results, Try.results128, go_sem, vlV]) rfl ⟨by rw [HO.out], by first | exact HB.out | exact (HB.out.setCell (by simp) _).setCell (by simp) _⟩
  have hd : decide (8000 < (s.size : Int)) = false := decide_eq_false (by omega)
  have HL := fun U => Lib.hid (tooLong_any s U hs)
  rw [hd] at HL
  have HI := fun U => Lib.hid (implHasBits_any s a w U (by omega))
  rcases Bool.eq_false_or_eq_true (hasB s a w) with h1 | h1
  · have hf := (hasB_of h1).1
    obtain ⟨x, y, rfl, rfl, k1, k2, k3, k4⟩ := bits_nat2 h1
    have HG := fun U => Lib.hid (implGetBits_any s x y U hs)
    have HM := fun U => Lib.hid (mostOf_any x y g U hf)
    have hlt := numOf_powI (l := s.data.toList) (a := x) (w := y)
    rw [fget_on h h1] at hmm
    rw [getI_on h h1] at HG
    generalize numOf (bitL s.data.toList) x y = m at *
    have hle := sign_le (w := (y : Int)) (g := g) (by omega) (by omega) hlt
    have HN := fun U => Lib.hid (meaning_any x y g (signI y g m) U hf hle)
    rw [hmm] at HN
    clear hmm
    obtain ⟨m1, m2⟩ := mm
    have ht := topI_in (w := (y : Int)) g (by omega) (by omega)
    have hp1 := powI_pos (y : Int)
    have hp2 := powI_le (w := (y : Int)) (by omega)
    have hsh : wrap64 (2 ^ y) = powI (y : Int) := by
      have h1 := shl_pow (y : Int) (by omega) (by omega)
      have hm : min (y : Int).toNat 64 = y := by omega
      rw [hm, Int.one_mul] at h1
      exact (IntWalk.i64_left _).symm.trans h1
    obtain ⟨tt, htt⟩ : ∃ tt, topI (y : Int) g = tt := ⟨_, rfl⟩
    rw [htt] at HM hle ht
    by_cases hg : tt < (m : Int)
    · have hmv := sign_high (w := (y : Int)) (by rw [htt]; exact hg)
      generalize signI (y : Int) g m = v at *
      generalize powI (y : Int) = p at *
      have hmv2 : wrap64 ((m : Int) - p) = v := by rw [hmv]; exact IntWalk.wrap64_in _ (by omega)
      have hmv3 : (m : Int) - p = v := hmv.symm
      clear hmv htt hle
      unfold fdV vlV at *
      go_enter Try.func128, Try.ntmps128
      go_wp2_with fail
      refine ((HL _).out).mono ?_
      rintro e w' ⟨rfl, rfl⟩
      go_wp2_with fail
      refine ((HI _).out).mono ?_
      rintro e w1 ⟨rfl, hb1⟩
      have H1 := Lib.hid (hb1)
      clear hb1
      obtain ⟨y0, y1, y2⟩ := twoKept H1.out (by simp; omega) HFd.out
      obtain ⟨z0, z1, f0, f1, k0⟩ := vlKept H1.out (by simp) HVl.out
      go_wp2_with fail
      refine ((HG _).out).mono ?_
      rintro e w2 ⟨rfl, hb2⟩
      have H2 := Lib.hid (H1.out.trans (hb2.mono H1.out.size))
      clear hb2
      clear y0 y1 y2 z0 z1 f0 f1 k0
      obtain ⟨y0, y1, y2⟩ := twoKept H2.out (by simp; omega) HFd.out
      obtain ⟨z0, z1, f0, f1, k0⟩ := vlKept H2.out (by simp) HVl.out
      go_wp2_with fail
      refine ((HM _).out).mono ?_
      rintro e w3 ⟨rfl, hb3⟩
      have H3 := Lib.hid (H2.out.trans (hb3.mono H2.out.size))
      clear hb3
      clear y0 y1 y2 z0 z1 f0 f1 k0
      obtain ⟨y0, y1, y2⟩ := twoKept H3.out (by simp; omega) HFd.out
      obtain ⟨z0, z1, f0, f1, k0⟩ := vlKept H3.out (by simp) HVl.out
      go_wp2_with fail
      refine ((HN _).out).mono ?_
      rintro e w4 ⟨rfl, hb4⟩
      have H4 := Lib.hid (H3.out.trans (hb4.mono H3.out.size))
      clear hb4
      clear y0 y1 y2 z0 z1 f0 f1 k0
      obtain ⟨y0, y1, y2⟩ := twoKept H4.out (by simp; omega) HFd.out
      obtain ⟨z0, z1, f0, f1, k0⟩ := vlKept H4.out (by simp) HVl.out
      go_wp2_with fail
      exact bodyPost_ret (v := .agg #[.int .i64 m1, .int .i64 m2]) (by simp [results, Try.results128, go_sem, k0]) rfl ⟨rfl, ((HB.out.trans (H4.out.mono HB.out.size)).setCell (by simp) _).setCell (by simp) _⟩
    · have hmv := sign_low (w := (y : Int)) (by rw [htt]; exact hg)
      rw [hmv] at HN
      generalize signI (y : Int) g m = v at *
      clear hmv htt hle hsh hlt
      unfold fdV vlV at *
      go_enter Try.func128, Try.ntmps128
      go_wp2_with fail
      refine ((HL _).out).mono ?_
      rintro e w' ⟨rfl, rfl⟩
      go_wp2_with fail
      refine ((HI _).out).mono ?_
      rintro e w1 ⟨rfl, hb1⟩
      have H1 := Lib.hid (hb1)
      clear hb1
      obtain ⟨y0, y1, y2⟩ := twoKept H1.out (by simp; omega) HFd.out
      obtain ⟨z0, z1, f0, f1, k0⟩ := vlKept H1.out (by simp) HVl.out
      go_wp2_with fail
      refine ((HG _).out).mono ?_
      rintro e w2 ⟨rfl, hb2⟩
      have H2 := Lib.hid (H1.out.trans (hb2.mono H1.out.size))
      clear hb2
      clear y0 y1 y2 z0 z1 f0 f1 k0
      obtain ⟨y0, y1, y2⟩ := twoKept H2.out (by simp; omega) HFd.out
      obtain ⟨z0, z1, f0, f1, k0⟩ := vlKept H2.out (by simp) HVl.out
      go_wp2_with fail
      refine ((HM _).out).mono ?_
      rintro e w3 ⟨rfl, hb3⟩
      have H3 := Lib.hid (H2.out.trans (hb3.mono H2.out.size))
      clear hb3
      clear y0 y1 y2 z0 z1 f0 f1 k0
      obtain ⟨y0, y1, y2⟩ := twoKept H3.out (by simp; omega) HFd.out
      obtain ⟨z0, z1, f0, f1, k0⟩ := vlKept H3.out (by simp) HVl.out
      go_wp2_with fail
      refine ((HN _).out).mono ?_
      rintro e w4 ⟨rfl, hb4⟩
      have H4 := Lib.hid (H3.out.trans (hb4.mono H3.out.size))
      clear hb4
      clear y0 y1 y2 z0 z1 f0 f1 k0
      obtain ⟨y0, y1, y2⟩ := twoKept H4.out (by simp; omega) HFd.out
      obtain ⟨z0, z1, f0, f1, k0⟩ := vlKept H4.out (by simp) HVl.out
      go_wp2_with fail
      exact bodyPost_ret (v := .agg #[.int .i64 m1, .int .i64 m2]) (by simp [results, Try.results128, go_sem, k0]) rfl ⟨rfl, ((HB.out.trans (H4.out.mono HB.out.size)).setCell (by simp) _).setCell (by simp) _⟩
  · have HO := Lib.hid (hmm.symm.trans (fget_off h1))
    clear hmm
    unfold fdV at *
    go_enter Try.func128, Try.ntmps128
    go_wp2_with fail
    refine ((HL _).out).mono ?_
    rintro e w' ⟨rfl, rfl⟩
    go_wp2_with fail
    refine ((HI _).out).mono ?_
    rintro e w1 ⟨rfl, hb1⟩
    have H1 := Lib.hid (hb1)
    clear hb1
    obtain ⟨y0, y1, y2⟩ := twoKept H1.out (by simp; omega) HFd.out
    obtain ⟨z0, z1, f0, f1, k0⟩ := vlKept H1.out (by simp) HVl.out
    go_wp2_with fail
    exact bodyPost_ret (v := vlV 0 0) (by simp [results, Try.results128, go_sem, k0, vlV]) rfl ⟨by rw [HO.out], ((HB.out.trans (H1.out.mono HB.out.size)).setCell (by simp) _).setCell (by simp) _⟩
end Go.Proofs.Ytanijfmfjabmfaa
