/- The text with a right Value in it: the model's. Nothing that was there is written. -/
import Derived.Test.YtanijfmfjabmfaaBitsVal3
import Derived.Test.YtanijfmfjabmfaaBitsVal4
namespace Go.Proofs.Ytanijfmfjabmfaa
open Go.RowKit
set_option linter.unusedVariables false
set_option maxRecDepth 100000 in
set_option maxHeartbeats 4000000 in
theorem l07Set_any (s : ByteArray) (a w : Nat) (g : Bool) (k n : Int) (W : World) (hs : s.size ≤ 8000) (ha : a ≤ 1800) (hw : 1 ≤ w) (hw2 : w ≤ 32) (hin : a + w ≤ 8 * s.size) (hv : valB a w g k n = true) :
    Calls Try.prog 182 #[.string s, fdV a w g, vlV k n] W fun e W' => e = .returned (.string ⟨(putB (putBit s.data.toList a w (bitsI w (tellI w g k n)).toNat) s.size).toArray⟩) ∧ Below W.heap.size W W' := by
  have HFd := Lib.hid (twoF W a w g k n)
  have HVl := Lib.hid (twoV W a w g k n)
  have HB := Lib.hid (twoB W a w g k n)
  have HT := fun U => Lib.hid (l07Top_any a w g U (by omega) (by omega))
  have HP := fun U => Lib.hid (l07Pow_any (w : Int) U (by omega) (by omega))
  have hb := bits_in hv
  have hp1 := powI_pos (w : Int)
  have hp2 := powI_le (w := (w : Int)) (by omega)
  have htp := topI_in (w := (w : Int)) g (by omega) (by omega)
  obtain ⟨N, hN⟩ : ∃ N : Nat, bitsI w (tellI w g k n) = (N : Int) := ⟨(bitsI w (tellI w g k n)).toNat, by omega⟩
  have HS := fun U => Lib.hid (l07Put_any s a w N U hs ha hw hw2 hin (by omega))
  have hNt : (bitsI w (tellI w g k n)).toNat = N := by rw [hN]; rfl
  rw [hNt]
  clear hNt
  obtain ⟨O, hO⟩ : ∃ O, putB (putBit s.data.toList a w N) s.size = O := ⟨_, rfl⟩
  rw [hO] at HS ⊢
  clear hO
  obtain ⟨T, hT⟩ : ∃ T, tellI w g k n = T := ⟨_, rfl⟩
  rw [hT] at hN hb
  have hTlo : -4294967296 ≤ T := by
    have := powI_le (w := (w : Int) - 1) (by omega)
    omega
  have hThi : T ≤ 4294967295 := by omega
  by_cases hk : k = 2
  · subst hk
    have hTT : topI w g = T := (tell_none w n g).symm.trans hT
    rw [hTT] at HT htp
    clear hTT hT
    unfold fdV vlV at *
    go_enter Try.func182, Try.ntmps182
    go_wp2_with fail
    refine ((HT _).out).mono ?_
    rintro e w1 ⟨rfl, hb1⟩
    have H1 := Lib.hid (hb1)
    clear hb1
    obtain ⟨y0, y1, y2⟩ := twoKept H1.out (by simp; omega) HFd.out
    obtain ⟨z0, z1⟩ := vlCells ((H1.out.block (W.heap.size + 1) (by simp)).trans HVl.out)
    by_cases h0 : T < 0
    · exfalso; omega
    · have hTN : T = (N : Int) := by unfold bitsI at hN; rw [if_neg h0] at hN; exact hN
      clear hN hb
      subst hTN
      go_wp2_with fail
      refine (HS _).out.mono ?_
      rintro e w9 ⟨rfl, hb9⟩
      go_wp2
      go_ret
      exact ⟨rfl, (HB.out.trans (H1.out.mono HB.out.size)).trans (hb9.mono (Nat.le_trans HB.out.size H1.out.size))⟩
  have hd2 : (k == 2) = false := decide_eq_false hk
  by_cases hk3 : k = 3
  · subst hk3
    have hTT : topI w g - 1 = T := (tell_err w n g).symm.trans hT
    generalize topI (w : Int) g = tt at *
    clear hT
    have htt : wrap64 (tt - 1) = T := by rw [hTT]; exact IntWalk.wrap64_in _ (by omega)
    unfold fdV vlV at *
    go_enter Try.func182, Try.ntmps182
    go_wp2_with fail
    refine ((HT _).out).mono ?_
    rintro e w1 ⟨rfl, hb1⟩
    have H1 := Lib.hid (hb1)
    clear hb1
    obtain ⟨y0, y1, y2⟩ := twoKept H1.out (by simp; omega) HFd.out
    obtain ⟨z0, z1⟩ := vlCells ((H1.out.block (W.heap.size + 1) (by simp)).trans HVl.out)
    by_cases h0 : T < 0
    · have hTN : T + powI w = (N : Int) := by unfold bitsI at hN; rw [if_pos h0] at hN; exact hN
      clear hN hb
      generalize powI (w : Int) = p at *
      go_wp2_with fail
      refine (HP _).out.mono ?_
      rintro e w' ⟨rfl, rfl⟩
      go_wp2_with fail
      refine (HS _).out.mono ?_
      rintro e w9 ⟨rfl, hb9⟩
      go_wp2
      go_ret
      exact ⟨rfl, (HB.out.trans (H1.out.mono HB.out.size)).trans (hb9.mono (Nat.le_trans HB.out.size H1.out.size))⟩
    · have hTN : T = (N : Int) := by unfold bitsI at hN; rw [if_neg h0] at hN; exact hN
      clear hN hb
      subst hTN
      go_wp2_with fail
      refine (HS _).out.mono ?_
      rintro e w9 ⟨rfl, hb9⟩
      go_wp2
      go_ret
      exact ⟨rfl, (HB.out.trans (H1.out.mono HB.out.size)).trans (hb9.mono (Nat.le_trans HB.out.size H1.out.size))⟩
  have hd3 : (k == 3) = false := decide_eq_false hk3
  have hTT : n = T := (tell_num hk hk3).symm.trans hT
  subst hTT
  clear hT
  unfold fdV vlV at *
  go_enter Try.func182, Try.ntmps182
  by_cases h0 : n < 0
  · have hTN : n + powI w = (N : Int) := by unfold bitsI at hN; rw [if_pos h0] at hN; exact hN
    clear hN hb
    generalize powI (w : Int) = p at *
    go_wp2_with fail
    refine (HP _).out.mono ?_
    rintro e w' ⟨rfl, rfl⟩
    go_wp2_with fail
    refine (HS _).out.mono ?_
    rintro e w9 ⟨rfl, hb9⟩
    go_wp2
    go_ret
    exact ⟨rfl, HB.out.trans (hb9.mono HB.out.size)⟩
  · have hTN : n = (N : Int) := by unfold bitsI at hN; rw [if_neg h0] at hN; exact hN
    clear hN hb
    subst hTN
    go_wp2_with fail
    refine (HS _).out.mono ?_
    rintro e w9 ⟨rfl, hb9⟩
    go_wp2
    go_ret
    exact ⟨rfl, HB.out.trans (hb9.mono HB.out.size)⟩
end Go.Proofs.Ytanijfmfjabmfaa
