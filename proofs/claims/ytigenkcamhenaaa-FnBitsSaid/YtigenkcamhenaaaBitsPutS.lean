/- The text with a Value in it: the model's. Nothing that was there is written. -/
import Derived.Test.YtigenkcamhenaaaBitsVal3
import Derived.Test.YtigenkcamhenaaaBitsVal4
import Derived.Test.YtigenkcamhenaaaBitsSet
namespace Go.Proofs.Ytigenkcamhenaaa
open Go.RowKit
set_option linter.unusedVariables false
set_option maxRecDepth 100000 in
set_option maxHeartbeats 4000000 in
theorem specFieldPut_any (s : ByteArray) (a w : Int) (g : Bool) (k n : Int) (W : World) (hs : s.size ≤ maxLen) :
    Calls Try.prog 56 #[.string s, fdV a w g, vlV k n] W fun e W' => e = .returned (.string ⟨(fputI s a w g k n).toArray⟩) ∧ Below W.heap.size W W' := by
  have HFd := Lib.hid (twoF W a w g k n)
  have HVl := Lib.hid (twoV W a w g k n)
  have HB := Lib.hid (twoB W a w g k n)
  unfold maxLen at hs
  obtain ⟨O, hO⟩ : ∃ O, fputI s a w g k n = O := ⟨_, rfl⟩
  rw [hO]
  by_cases h : 8000 < s.size
  · have HO := Lib.hid (hO.symm.trans (fput_big h))
    have hd : decide (8000 < (s.size : Int)) = true := by simp; omega
    clear hO
    unfold fdV vlV
    go_enter Try.func56, Try.ntmps56
    go_wp2
    go_ret
    exact ⟨by rw [HO.out]; rfl, HB.out⟩
  have hd : decide (8000 < (s.size : Int)) = false := by simp; omega
  have HI := fun U => Lib.hid (l07In_any s a w U (by omega))
  have HR := fun U => Lib.hid (specValueRight_any a w g k n U)
  rcases Bool.eq_false_or_eq_true (valB a w g k n) with h2 | h2
  · rcases Bool.eq_false_or_eq_true (hasB s a w) with h1 | h1
    · obtain ⟨x, y, rfl, rfl, k1, k2, k3, k4⟩ := bits_nat2 h1
      have HS := fun U => Lib.hid (l07Set_any s x y g k n U (by omega) k1 k2 k3 k4 h2)
      rw [← fput_on h h2 h1, hO] at HS
      clear hO
      unfold fdV vlV at *
      go_enter Try.func56, Try.ntmps56
      go_wp2_with fail
      refine ((HR _).out).mono ?_
      rintro e w1 ⟨rfl, hb1⟩
      have H1 := Lib.hid (hb1)
      clear hb1
      obtain ⟨y0, y1, y2⟩ := twoKept H1.out (by simp; omega) HFd.out
      obtain ⟨z0, z1⟩ := vlCells ((H1.out.block (W.heap.size + 1) (by simp)).trans HVl.out)
      go_wp2_with fail
      refine ((HI _).out).mono ?_
      rintro e w' ⟨rfl, rfl⟩
      go_wp2_with fail
      refine ((HS _).out).mono ?_
      rintro e w2 ⟨rfl, hb2⟩
      have H2 := Lib.hid (H1.out.trans (hb2.mono H1.out.size))
      clear hb2
      clear y0 y1 y2 z0 z1
      obtain ⟨y0, y1, y2⟩ := twoKept H2.out (by simp; omega) HFd.out
      obtain ⟨z0, z1⟩ := vlCells ((H2.out.block (W.heap.size + 1) (by simp)).trans HVl.out)
      go_wp2
      go_ret
      exact ⟨rfl, HB.out.trans (H2.out.mono HB.out.size)⟩
    · have HO := Lib.hid (hO.symm.trans (fput_off2 h h1))
      clear hO
      unfold fdV vlV at *
      go_enter Try.func56, Try.ntmps56
      go_wp2_with fail
      refine ((HR _).out).mono ?_
      rintro e w1 ⟨rfl, hb1⟩
      have H1 := Lib.hid (hb1)
      clear hb1
      obtain ⟨y0, y1, y2⟩ := twoKept H1.out (by simp; omega) HFd.out
      obtain ⟨z0, z1⟩ := vlCells ((H1.out.block (W.heap.size + 1) (by simp)).trans HVl.out)
      go_wp2_with fail
      refine ((HI _).out).mono ?_
      rintro e w' ⟨rfl, rfl⟩
      go_wp2
      go_ret
      exact ⟨by rw [HO.out]; simp, HB.out.trans (H1.out.mono HB.out.size)⟩
  · have HO := Lib.hid (hO.symm.trans (fput_off h h2))
    clear hO
    unfold fdV vlV at *
    go_enter Try.func56, Try.ntmps56
    go_wp2_with fail
    refine ((HR _).out).mono ?_
    rintro e w1 ⟨rfl, hb1⟩
    have H1 := Lib.hid (hb1)
    clear hb1
    obtain ⟨y0, y1, y2⟩ := twoKept H1.out (by simp; omega) HFd.out
    obtain ⟨z0, z1⟩ := vlCells ((H1.out.block (W.heap.size + 1) (by simp)).trans HVl.out)
    go_wp2
    go_ret
    exact ⟨by rw [HO.out]; simp, HB.out.trans (H1.out.mono HB.out.size)⟩
end Go.Proofs.Ytigenkcamhenaaa
