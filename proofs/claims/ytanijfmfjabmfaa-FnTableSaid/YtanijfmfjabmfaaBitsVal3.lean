/- What a Field that is all in a text tells, and the text with a Value in it: the model's. Nothing that was there is written. -/
import Derived.Test.YtanijfmfjabmfaaBitsVal2
namespace Go.Proofs.Ytanijfmfjabmfaa
open Go.RowKit
set_option linter.unusedVariables false

theorem mean_small {w n : Int} {g : Bool} (h : w < 4) : meanI w g n = (1, n) := by
  unfold meanI
  rw [if_neg (by omega), if_neg (by omega)]
theorem mean_top {w n : Int} {g : Bool} (h : 4 ≤ w) (hn : n = topI w g) : meanI w g n = (2, 0) := by
  unfold meanI
  rw [if_pos ⟨h, hn⟩]
theorem mean_less {w n : Int} {g : Bool} (h : 4 ≤ w) (h1 : ¬ n = topI w g) (hn : n = topI w g - 1) : meanI w g n = (3, 0) := by
  unfold meanI
  rw [if_neg (by omega), if_pos ⟨h, hn⟩]
theorem mean_rest {w n : Int} {g : Bool} (h1 : ¬ n = topI w g) (h2 : ¬ n = topI w g - 1) : meanI w g n = (1, n) := by
  unfold meanI
  rw [if_neg (by omega), if_neg (by omega)]
theorem sign_plain {w : Int} {m : Nat} (h : (m : Int) < powI w) : signI w false m = m := by
  unfold signI topI
  rw [if_neg (by simp; omega)]
theorem sign_low {w : Int} {m : Nat} {g : Bool} (h : ¬ topI w g < (m : Int)) : signI w g m = m := if_neg h
theorem sign_high {w : Int} {m : Nat} {g : Bool} (h : topI w g < (m : Int)) : signI w g m = m - powI w := if_pos h
theorem numOf_powI {l : List UInt8} {a w : Nat} : ((numOf (bitL l) a w : Nat) : Int) < powI (w : Int) := by
  have := numOf_lt (bitL_lt l) w a
  unfold powI
  simp only [Int.toNat_natCast]
  omega
set_option maxRecDepth 100000 in
set_option maxHeartbeats 8000000 in
theorem l07Value_any (s : ByteArray) (a w : Nat) (g : Bool) (W : World) (hs : s.size ≤ 8000) (ha : a ≤ 1800) (hw : 1 ≤ w) (hw2 : w ≤ 32) (hin : a + w ≤ 8 * s.size) :
    Calls Try.prog 129 #[.string s, fdV (a : Int) (w : Int) g] W fun e W' => e = .returned (vlV (meanI w g (signI w g (numOf (bitL s.data.toList) a w : Nat))).1 (meanI w g (signI w g (numOf (bitL s.data.toList) a w : Nat))).2) ∧ Below W.heap.size W W' := by
  have HFd := Lib.hid (twoF W a w g 0 0)
  have HVl := Lib.hid (twoV W a w g 0 0)
  have HB := Lib.hid (twoB W a w g 0 0)
  have HG := fun U => Lib.hid (l07Get_any s a w U hs ha hw hw2 hin)
  have HT := fun U => Lib.hid (l07Top_any a w g U (by omega) (by omega))
  have HP := fun U => Lib.hid (l07Pow_any (w : Int) U (by omega) (by omega))
  have hlt := numOf_powI (l := s.data.toList) (a := a) (w := w)
  have ht := topI_in (w := (w : Int)) g (by omega) (by omega)
  have hp2 := powI_le (w := (w : Int)) (by omega)
  obtain ⟨m, hm⟩ : ∃ m, numOf (bitL s.data.toList) a w = m := ⟨_, rfl⟩
  rw [hm] at HG hlt ⊢
  clear hm
  obtain ⟨v, hv⟩ : ∃ v, signI w g (m : Int) = v := ⟨_, rfl⟩
  rw [hv]
  obtain ⟨mm, hmm⟩ : ∃ mm, meanI (w : Int) g v = mm := ⟨_, rfl⟩
  rw [hmm]
  cases g
  · have hmv : (m : Int) = v := (sign_plain hlt).symm.trans hv
    rw [hmv] at HG
    obtain ⟨tt, htt⟩ : ∃ tt, topI w false = tt := ⟨_, rfl⟩
    rw [htt] at HT ht
    clear hmv hv
    unfold fdV at *
    go_enter Try.func129, Try.ntmps129
    go_wp2_with fail
    refine (HG _).out.mono ?_
    rintro e w1 ⟨rfl, hb1⟩
    have H1 := Lib.hid (hb1)
    clear hb1
    obtain ⟨y0, y1, y2⟩ := fdCells ((H1.out.block W.heap.size (by simp; omega)).trans HFd.out)
    obtain ⟨z0, z1, f0, f1, k0⟩ := vlKept H1.out (by simp) HVl.out
    by_cases h4 : (w : Int) < 4
    · have HO := Lib.hid (hmm.symm.trans (mean_small h4))
      clear hmm
      go_wp2_with fail
      exact bodyPost_ret (v := vlV 1 v) (by simp [results, Try.results129, go_sem, k0, vlV]) rfl ⟨by rw [HO.out], ((HB.out.trans (H1.out.mono HB.out.size)).setCell (by simp) _).setCell (by simp) _⟩
    · by_cases h5 : v = tt
      · have HO := Lib.hid (hmm.symm.trans (mean_top (by omega) (h5.trans htt.symm)))
        have hd5 : (v == tt) = true := decide_eq_true h5
        clear hmm h5 htt
        have h4' : (4 : Int) ≤ (w : Int) := by omega
        go_wp2_with fail
        refine (HT _).out.mono ?_
        rintro e w7 ⟨rfl, hb7⟩
        have H7 := Lib.hid (H1.out.trans (hb7.mono H1.out.size))
        clear hb7 y0 y1 y2 z0 z1 f0 f1 k0
        obtain ⟨y0, y1, y2⟩ := fdCells ((H7.out.block W.heap.size (by simp; omega)).trans HFd.out)
        obtain ⟨z0, z1, f0, f1, k0⟩ := vlKept H7.out (by simp) HVl.out
        go_wp2_with fail
        exact bodyPost_ret (v := vlV 2 0) (by simp [results, Try.results129, go_sem, k0, vlV]) rfl ⟨by rw [HO.out], ((HB.out.trans (H7.out.mono HB.out.size)).setCell (by simp) _).setCell (by simp) _⟩
      · have hd5 : (v == tt) = false := decide_eq_false h5
        have h4' : (4 : Int) ≤ (w : Int) := by omega
        by_cases h6 : v = tt - 1
        · have HO := Lib.hid (hmm.symm.trans (mean_less (by omega) (by rw [htt]; exact h5) (by rw [htt]; exact h6)))
          have hd6 : (v == tt - 1) = true := decide_eq_true h6
          clear hmm h6 htt
          go_wp2_with fail
          refine (HT _).out.mono ?_
          rintro e w7 ⟨rfl, hb7⟩
          have H7 := Lib.hid (H1.out.trans (hb7.mono H1.out.size))
          clear hb7 y0 y1 y2 z0 z1 f0 f1 k0
          obtain ⟨y0, y1, y2⟩ := fdCells ((H7.out.block W.heap.size (by simp; omega)).trans HFd.out)
          obtain ⟨z0, z1, f0, f1, k0⟩ := vlKept H7.out (by simp) HVl.out
          go_wp2_with fail
          refine (HT _).out.mono ?_
          rintro e w8 ⟨rfl, hb8⟩
          have H8 := Lib.hid (H7.out.trans (hb8.mono H7.out.size))
          clear hb8 y0 y1 y2 z0 z1 f0 f1 k0
          obtain ⟨y0, y1, y2⟩ := fdCells ((H8.out.block W.heap.size (by simp; omega)).trans HFd.out)
          obtain ⟨z0, z1, f0, f1, k0⟩ := vlKept H8.out (by simp) HVl.out
          go_wp2_with fail
          exact bodyPost_ret (v := vlV 3 0) (by simp [results, Try.results129, go_sem, k0, vlV]) rfl ⟨by rw [HO.out], ((HB.out.trans (H8.out.mono HB.out.size)).setCell (by simp) _).setCell (by simp) _⟩
        · have HO := Lib.hid (hmm.symm.trans (mean_rest (by rw [htt]; exact h5) (by rw [htt]; exact h6)))
          have hd6 : (v == tt - 1) = false := decide_eq_false h6
          clear hmm htt
          go_wp2_with fail
          refine (HT _).out.mono ?_
          rintro e w7 ⟨rfl, hb7⟩
          have H7 := Lib.hid (H1.out.trans (hb7.mono H1.out.size))
          clear hb7 y0 y1 y2 z0 z1 f0 f1 k0
          obtain ⟨y0, y1, y2⟩ := fdCells ((H7.out.block W.heap.size (by simp; omega)).trans HFd.out)
          obtain ⟨z0, z1, f0, f1, k0⟩ := vlKept H7.out (by simp) HVl.out
          go_wp2_with fail
          refine (HT _).out.mono ?_
          rintro e w8 ⟨rfl, hb8⟩
          have H8 := Lib.hid (H7.out.trans (hb8.mono H7.out.size))
          clear hb8 y0 y1 y2 z0 z1 f0 f1 k0
          obtain ⟨y0, y1, y2⟩ := fdCells ((H8.out.block W.heap.size (by simp; omega)).trans HFd.out)
          obtain ⟨z0, z1, f0, f1, k0⟩ := vlKept H8.out (by simp) HVl.out
          go_wp2_with fail
          exact bodyPost_ret (v := vlV 1 v) (by simp [results, Try.results129, go_sem, k0, vlV]) rfl ⟨by rw [HO.out], ((HB.out.trans (H8.out.mono HB.out.size)).setCell (by simp) _).setCell (by simp) _⟩
  · obtain ⟨tt, htt⟩ : ∃ tt, topI w true = tt := ⟨_, rfl⟩
    by_cases hg : tt < (m : Int)
    · have hmv : (m : Int) - powI w = v := (sign_high (by rw [htt]; exact hg)).symm.trans hv
      rw [htt] at HT ht
      generalize powI (w : Int) = p at *
      clear hv
      have hv64 : wrap64 v = v := IntWalk.wrap64_in _ (by omega)
      have hm0 : (0 : Int) ≤ (m : Int) := by omega
      have hmv2 : wrap64 ((m : Int) - p) = v := by rw [hmv]; exact hv64
      unfold fdV at *
      go_enter Try.func129, Try.ntmps129
      go_wp2_with fail
      refine (HG _).out.mono ?_
      rintro e w1 ⟨rfl, hb1⟩
      have H1 := Lib.hid (hb1)
      clear hb1
      obtain ⟨y0, y1, y2⟩ := fdCells ((H1.out.block W.heap.size (by simp; omega)).trans HFd.out)
      obtain ⟨z0, z1, f0, f1, k0⟩ := vlKept H1.out (by simp) HVl.out
      go_wp2_with fail
      refine (HT _).out.mono ?_
      rintro e w2 ⟨rfl, hb2⟩
      have H2 := Lib.hid (H1.out.trans (hb2.mono H1.out.size))
      clear hb2 y0 y1 y2 z0 z1 f0 f1 k0
      obtain ⟨y0, y1, y2⟩ := fdCells ((H2.out.block W.heap.size (by simp; omega)).trans HFd.out)
      obtain ⟨z0, z1, f0, f1, k0⟩ := vlKept H2.out (by simp) HVl.out
      go_wp2_with fail
      refine (HP _).out.mono ?_
      rintro e w3 ⟨rfl, rfl⟩
      clear hg hlt
      by_cases h4 : (w : Int) < 4
      · have HO := Lib.hid (hmm.symm.trans (mean_small h4))
        clear hmm
        go_wp2_with fail
        exact bodyPost_ret (v := vlV 1 v) (by simp [results, Try.results129, go_sem, k0, vlV]) rfl ⟨by rw [HO.out], ((HB.out.trans (H2.out.mono HB.out.size)).setCell (by simp) _).setCell (by simp) _⟩
      · by_cases h5 : v = tt
        · have HO := Lib.hid (hmm.symm.trans (mean_top (by omega) (h5.trans htt.symm)))
          have hd5 : (v == tt) = true := decide_eq_true h5
          clear hmm h5 htt
          have h4' : (4 : Int) ≤ (w : Int) := by omega
          go_wp2_with fail
          refine (HT _).out.mono ?_
          rintro e w7 ⟨rfl, hb7⟩
          have H7 := Lib.hid (H2.out.trans (hb7.mono H2.out.size))
          clear hb7 y0 y1 y2 z0 z1 f0 f1 k0
          obtain ⟨y0, y1, y2⟩ := fdCells ((H7.out.block W.heap.size (by simp; omega)).trans HFd.out)
          obtain ⟨z0, z1, f0, f1, k0⟩ := vlKept H7.out (by simp) HVl.out
          go_wp2_with fail
          exact bodyPost_ret (v := vlV 2 0) (by simp [results, Try.results129, go_sem, k0, vlV]) rfl ⟨by rw [HO.out], ((HB.out.trans (H7.out.mono HB.out.size)).setCell (by simp) _).setCell (by simp) _⟩
        · have hd5 : (v == tt) = false := decide_eq_false h5
          have h4' : (4 : Int) ≤ (w : Int) := by omega
          by_cases h6 : v = tt - 1
          · have HO := Lib.hid (hmm.symm.trans (mean_less (by omega) (by rw [htt]; exact h5) (by rw [htt]; exact h6)))
            have hd6 : (v == tt - 1) = true := decide_eq_true h6
            clear hmm h6 htt
            go_wp2_with fail
            refine (HT _).out.mono ?_
            rintro e w7 ⟨rfl, hb7⟩
            have H7 := Lib.hid (H2.out.trans (hb7.mono H2.out.size))
            clear hb7 y0 y1 y2 z0 z1 f0 f1 k0
            obtain ⟨y0, y1, y2⟩ := fdCells ((H7.out.block W.heap.size (by simp; omega)).trans HFd.out)
            obtain ⟨z0, z1, f0, f1, k0⟩ := vlKept H7.out (by simp) HVl.out
            go_wp2_with fail
            refine (HT _).out.mono ?_
            rintro e w8 ⟨rfl, hb8⟩
            have H8 := Lib.hid (H7.out.trans (hb8.mono H7.out.size))
            clear hb8 y0 y1 y2 z0 z1 f0 f1 k0
            obtain ⟨y0, y1, y2⟩ := fdCells ((H8.out.block W.heap.size (by simp; omega)).trans HFd.out)
            obtain ⟨z0, z1, f0, f1, k0⟩ := vlKept H8.out (by simp) HVl.out
            go_wp2_with fail
            exact bodyPost_ret (v := vlV 3 0) (by simp [results, Try.results129, go_sem, k0, vlV]) rfl ⟨by rw [HO.out], ((HB.out.trans (H8.out.mono HB.out.size)).setCell (by simp) _).setCell (by simp) _⟩
          · have HO := Lib.hid (hmm.symm.trans (mean_rest (by rw [htt]; exact h5) (by rw [htt]; exact h6)))
            have hd6 : (v == tt - 1) = false := decide_eq_false h6
            clear hmm htt
            go_wp2_with fail
            refine (HT _).out.mono ?_
            rintro e w7 ⟨rfl, hb7⟩
            have H7 := Lib.hid (H2.out.trans (hb7.mono H2.out.size))
            clear hb7 y0 y1 y2 z0 z1 f0 f1 k0
            obtain ⟨y0, y1, y2⟩ := fdCells ((H7.out.block W.heap.size (by simp; omega)).trans HFd.out)
            obtain ⟨z0, z1, f0, f1, k0⟩ := vlKept H7.out (by simp) HVl.out
            go_wp2_with fail
            refine (HT _).out.mono ?_
            rintro e w8 ⟨rfl, hb8⟩
            have H8 := Lib.hid (H7.out.trans (hb8.mono H7.out.size))
            clear hb8 y0 y1 y2 z0 z1 f0 f1 k0
            obtain ⟨y0, y1, y2⟩ := fdCells ((H8.out.block W.heap.size (by simp; omega)).trans HFd.out)
            obtain ⟨z0, z1, f0, f1, k0⟩ := vlKept H8.out (by simp) HVl.out
            go_wp2_with fail
            exact bodyPost_ret (v := vlV 1 v) (by simp [results, Try.results129, go_sem, k0, vlV]) rfl ⟨by rw [HO.out], ((HB.out.trans (H8.out.mono HB.out.size)).setCell (by simp) _).setCell (by simp) _⟩
    · have hmv : (m : Int) = v := (sign_low (by rw [htt]; exact hg)).symm.trans hv
      rw [htt] at HT ht
      rw [hmv] at HG hg
      clear hmv hv
      unfold fdV at *
      go_enter Try.func129, Try.ntmps129
      go_wp2_with fail
      refine (HG _).out.mono ?_
      rintro e w1 ⟨rfl, hb1⟩
      have H1 := Lib.hid (hb1)
      clear hb1
      obtain ⟨y0, y1, y2⟩ := fdCells ((H1.out.block W.heap.size (by simp; omega)).trans HFd.out)
      obtain ⟨z0, z1, f0, f1, k0⟩ := vlKept H1.out (by simp) HVl.out
      go_wp2_with fail
      refine (HT _).out.mono ?_
      rintro e w2 ⟨rfl, hb2⟩
      have H2 := Lib.hid (H1.out.trans (hb2.mono H1.out.size))
      clear hb2 y0 y1 y2 z0 z1 f0 f1 k0
      obtain ⟨y0, y1, y2⟩ := fdCells ((H2.out.block W.heap.size (by simp; omega)).trans HFd.out)
      obtain ⟨z0, z1, f0, f1, k0⟩ := vlKept H2.out (by simp) HVl.out
      by_cases h4 : (w : Int) < 4
      · have HO := Lib.hid (hmm.symm.trans (mean_small h4))
        clear hmm
        go_wp2_with fail
        exact bodyPost_ret (v := vlV 1 v) (by simp [results, Try.results129, go_sem, k0, vlV]) rfl ⟨by rw [HO.out], ((HB.out.trans (H2.out.mono HB.out.size)).setCell (by simp) _).setCell (by simp) _⟩
      · by_cases h5 : v = tt
        · have HO := Lib.hid (hmm.symm.trans (mean_top (by omega) (h5.trans htt.symm)))
          have hd5 : (v == tt) = true := decide_eq_true h5
          clear hmm h5 htt
          have h4' : (4 : Int) ≤ (w : Int) := by omega
          go_wp2_with fail
          refine (HT _).out.mono ?_
          rintro e w7 ⟨rfl, hb7⟩
          have H7 := Lib.hid (H2.out.trans (hb7.mono H2.out.size))
          clear hb7 y0 y1 y2 z0 z1 f0 f1 k0
          obtain ⟨y0, y1, y2⟩ := fdCells ((H7.out.block W.heap.size (by simp; omega)).trans HFd.out)
          obtain ⟨z0, z1, f0, f1, k0⟩ := vlKept H7.out (by simp) HVl.out
          go_wp2_with fail
          exact bodyPost_ret (v := vlV 2 0) (by simp [results, Try.results129, go_sem, k0, vlV]) rfl ⟨by rw [HO.out], ((HB.out.trans (H7.out.mono HB.out.size)).setCell (by simp) _).setCell (by simp) _⟩
        · have hd5 : (v == tt) = false := decide_eq_false h5
          have h4' : (4 : Int) ≤ (w : Int) := by omega
          by_cases h6 : v = tt - 1
          · have HO := Lib.hid (hmm.symm.trans (mean_less (by omega) (by rw [htt]; exact h5) (by rw [htt]; exact h6)))
            have hd6 : (v == tt - 1) = true := decide_eq_true h6
            clear hmm h6 htt
            go_wp2_with fail
            refine (HT _).out.mono ?_
            rintro e w7 ⟨rfl, hb7⟩
            have H7 := Lib.hid (H2.out.trans (hb7.mono H2.out.size))
            clear hb7 y0 y1 y2 z0 z1 f0 f1 k0
            obtain ⟨y0, y1, y2⟩ := fdCells ((H7.out.block W.heap.size (by simp; omega)).trans HFd.out)
            obtain ⟨z0, z1, f0, f1, k0⟩ := vlKept H7.out (by simp) HVl.out
            go_wp2_with fail
            refine (HT _).out.mono ?_
            rintro e w8 ⟨rfl, hb8⟩
            have H8 := Lib.hid (H7.out.trans (hb8.mono H7.out.size))
            clear hb8 y0 y1 y2 z0 z1 f0 f1 k0
            obtain ⟨y0, y1, y2⟩ := fdCells ((H8.out.block W.heap.size (by simp; omega)).trans HFd.out)
            obtain ⟨z0, z1, f0, f1, k0⟩ := vlKept H8.out (by simp) HVl.out
            go_wp2_with fail
            exact bodyPost_ret (v := vlV 3 0) (by simp [results, Try.results129, go_sem, k0, vlV]) rfl ⟨by rw [HO.out], ((HB.out.trans (H8.out.mono HB.out.size)).setCell (by simp) _).setCell (by simp) _⟩
          · have HO := Lib.hid (hmm.symm.trans (mean_rest (by rw [htt]; exact h5) (by rw [htt]; exact h6)))
            have hd6 : (v == tt - 1) = false := decide_eq_false h6
            clear hmm htt
            go_wp2_with fail
            refine (HT _).out.mono ?_
            rintro e w7 ⟨rfl, hb7⟩
            have H7 := Lib.hid (H2.out.trans (hb7.mono H2.out.size))
            clear hb7 y0 y1 y2 z0 z1 f0 f1 k0
            obtain ⟨y0, y1, y2⟩ := fdCells ((H7.out.block W.heap.size (by simp; omega)).trans HFd.out)
            obtain ⟨z0, z1, f0, f1, k0⟩ := vlKept H7.out (by simp) HVl.out
            go_wp2_with fail
            refine (HT _).out.mono ?_
            rintro e w8 ⟨rfl, hb8⟩
            have H8 := Lib.hid (H7.out.trans (hb8.mono H7.out.size))
            clear hb8 y0 y1 y2 z0 z1 f0 f1 k0
            obtain ⟨y0, y1, y2⟩ := fdCells ((H8.out.block W.heap.size (by simp; omega)).trans HFd.out)
            obtain ⟨z0, z1, f0, f1, k0⟩ := vlKept H8.out (by simp) HVl.out
            go_wp2_with fail
            exact bodyPost_ret (v := vlV 1 v) (by simp [results, Try.results129, go_sem, k0, vlV]) rfl ⟨by rw [HO.out], ((HB.out.trans (H8.out.mono HB.out.size)).setCell (by simp) _).setCell (by simp) _⟩
end Go.Proofs.Ytanijfmfjabmfaa
