/- What a Field tells out of a text: the model's. Nothing that was there is written. -/
import Derived.Test.YtigenkcamhenaaaBitsVal3
import Derived.Test.YtigenkcamhenaaaBitsVal4
namespace Go.Proofs.Ytigenkcamhenaaa
open Go.RowKit
set_option linter.unusedVariables false
set_option maxRecDepth 100000 in
set_option maxHeartbeats 4000000 in
theorem specFieldGet_any (s : ByteArray) (a w : Int) (g : Bool) (W : World) (hs : s.size ≤ maxLen) :
    Calls Try.prog 58 #[.string s, fdV a w g] W fun e W' => e = .returned (vlV (fgetI s a w g).1 (fgetI s a w g).2) ∧ Below W.heap.size W W' := by
  have HFd := Lib.hid (twoF W a w g 0 0)
  have HVl := Lib.hid (twoV W a w g 0 0)
  have HB := Lib.hid (twoB W a w g 0 0)
  unfold maxLen at hs
  obtain ⟨mm, hmm⟩ : ∃ mm, fgetI s a w g = mm := ⟨_, rfl⟩
  rw [hmm]
  by_cases h : 8000 < s.size
  · have HO := Lib.hid (hmm.symm.trans (fget_big h))
    have hd : decide (8000 < (s.size : Int)) = true := by simp; omega
    clear hmm
    unfold fdV
    go_enter Try.func58, Try.ntmps58
    go_wp2_with fail
    exact bodyPost_ret (v := vlV 0 0) (by simp [results, Try.results58, go_sem, vlV]) rfl ⟨by rw [HO.out], by first | exact HB.out | exact (HB.out.setCell (by simp) _).setCell (by simp) _⟩
  have hd : decide (8000 < (s.size : Int)) = false := by simp; omega
  have HI := fun U => Lib.hid (l07In_any s a w U (by omega))
  have HR := fun U => Lib.hid (specFieldRight_any a w g U)
  rcases Bool.eq_false_or_eq_true (hasB s a w) with h1 | h1
  · have hf := (hasB_of h1).1
    obtain ⟨x, y, rfl, rfl, k1, k2, k3, k4⟩ := bits_nat2 h1
    have HV := fun U => Lib.hid (l07Value_any s x y g U (by omega) k1 k2 k3 k4)
    rw [← fget_on h h1, hmm] at HV
    clear hmm
    obtain ⟨m1, m2⟩ := mm
    have HO := Lib.hid (Eq.refl (m1, m2))
    unfold fdV vlV at *
    go_enter Try.func58, Try.ntmps58
    go_wp2_with fail
    refine ((HR _).out).mono ?_
    rintro e w1 ⟨rfl, hb1⟩
    have H1 := Lib.hid (hb1)
    clear hb1
    obtain ⟨y0, y1, y2⟩ := twoKept H1.out (by simp; omega) HFd.out
    obtain ⟨z0, z1, f0, f1, k0⟩ := vlKept H1.out (by simp) HVl.out
    go_wp2_with fail
    refine ((HI _).out).mono ?_
    rintro e w' ⟨rfl, rfl⟩
    go_wp2_with fail
    refine ((HV _).out).mono ?_
    rintro e w2 ⟨rfl, hb2⟩
    have H2 := Lib.hid (H1.out.trans (hb2.mono H1.out.size))
    clear hb2
    clear y0 y1 y2 z0 z1 f0 f1 k0
    obtain ⟨y0, y1, y2⟩ := twoKept H2.out (by simp; omega) HFd.out
    obtain ⟨z0, z1, f0, f1, k0⟩ := vlKept H2.out (by simp) HVl.out
    go_wp2_with fail
    exact bodyPost_ret (v := .agg #[.int .i64 m1, .int .i64 m2]) (by simp [results, Try.results58, go_sem, k0, vlV]) rfl ⟨rfl, ((HB.out.trans (H2.out.mono HB.out.size)).setCell (by simp) _).setCell (by simp) _⟩
  · have HO := Lib.hid (hmm.symm.trans (fget_off h1))
    clear hmm
    rcases Bool.eq_false_or_eq_true (fieldB a w) with hf | hf
    · unfold fdV at *
      go_enter Try.func58, Try.ntmps58
      go_wp2_with fail
      refine ((HR _).out).mono ?_
      rintro e w1 ⟨rfl, hb1⟩
      have H1 := Lib.hid (hb1)
      clear hb1
      obtain ⟨y0, y1, y2⟩ := twoKept H1.out (by simp; omega) HFd.out
      obtain ⟨z0, z1, f0, f1, k0⟩ := vlKept H1.out (by simp) HVl.out
      go_wp2_with fail
      refine ((HI _).out).mono ?_
      rintro e w' ⟨rfl, rfl⟩
      go_wp2_with fail
      exact bodyPost_ret (v := vlV 0 0) (by simp [results, Try.results58, go_sem, k0, vlV]) rfl ⟨by rw [HO.out], ((HB.out.trans (H1.out.mono HB.out.size)).setCell (by simp) _).setCell (by simp) _⟩
    · unfold fdV at *
      go_enter Try.func58, Try.ntmps58
      go_wp2_with fail
      refine ((HR _).out).mono ?_
      rintro e w1 ⟨rfl, hb1⟩
      have H1 := Lib.hid (hb1)
      clear hb1
      obtain ⟨y0, y1, y2⟩ := twoKept H1.out (by simp; omega) HFd.out
      obtain ⟨z0, z1, f0, f1, k0⟩ := vlKept H1.out (by simp) HVl.out
      go_wp2_with fail
      exact bodyPost_ret (v := vlV 0 0) (by simp [results, Try.results58, go_sem, k0, vlV]) rfl ⟨by rw [HO.out], ((HB.out.trans (H1.out.mono HB.out.size)).setCell (by simp) _).setCell (by simp) _⟩
end Go.Proofs.Ytigenkcamhenaaa
